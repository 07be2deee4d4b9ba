/-
  Lists of entries in memory; contract: SameEntries.
-/
import Derived.Test.YtkgefogkdmbciaaBaB
namespace Go.Proofs.Ytkgefogkdmbciaa
open Go.RowKit

/-- A list of entries, as a slice sees it. -/
structure Es (w : World) (p : Option Addr) (c : Nat) (L : List Bt.En) : Prop where
  ok : ∀ x ∈ L, x.ok
  at_ : 0 < L.length → ∃ ab ao, p = some ⟨ab, ao, none⟩ ∧ ∀ i, i < L.length → w.rangeAt ab (ao + i * 35) (Bt.cells (L.getD i Bt.en0))
  cap : L.length ≤ c ∧ c ≤ 9223372036854775807
  nil : p = none → c = 0
theorem Es.old {w y : World} {p : Option Addr} {c : Nat} {L : List Bt.En} (h : Es w p c L) (hb : Below w.heap.size w y) : Es y p c L :=
  ⟨h.ok, fun h0 => by
    obtain ⟨ab, ao, h1, h2⟩ := h.at_ h0
    exact ⟨ab, ao, h1, fun i hi => rng_old (h2 i hi) hb⟩, h.cap, h.nil⟩
theorem Es.drew {w : World} {p : Option Addr} {c : Nat} {L : List Bt.En} (h : Es w p c L) : Es w.drew p c L := ⟨h.ok, h.at_, h.cap, h.nil⟩
theorem Es.drewN {w : World} {p : Option Addr} {c : Nat} {L : List Bt.En} (h : Es w p c L) (n : Nat) : Es (w.drewN n) p c L := ⟨h.ok, h.at_, h.cap, h.nil⟩
theorem Es.getD {w : World} {p : Option Addr} {c : Nat} {L : List Bt.En} (h : Es w p c L) (i : Nat) : (L.getD i Bt.en0).ok := by
  rw [List.getD_eq_getElem?_getD]
  cases q : L[i]? with
  | none => exact Bt.en0_ok
  | some x =>
    obtain ⟨hi, rfl⟩ := List.getElem?_eq_some_iff.1 q
    exact h.ok _ (List.getElem_mem hi)
theorem es_none (w : World) : Es w none 0 [] := ⟨(fun x hx => (by cases hx)), (fun h => (by simp at h)), ⟨Nat.le_refl _, by omega⟩, fun _ => rfl⟩
/-- A load of one. -/
theorem Es.load {w : World} {ab ao c : Nat} {L : List Bt.En} (h : Es w (some ⟨ab, ao, none⟩) c L) {i : Nat} (hi : i < L.length) :
    (Instr.loadAt 50 (.pointer (some ⟨ab, ao + i * 35, none⟩))).run Try.prog w = .ok (.agg (EnA (L.getD i Bt.en0))) w := by
  obtain ⟨ab', ao', h1, h2⟩ := h.at_ (by omega)
  cases h1
  have h3 := run_loadAt_mid (P := Try.prog) w ab (ao + i * 35) 50 (Bt.cells (L.getD i Bt.en0)) _ (h2 i hi) Try.underlying50 rfl (by rw [Try.sizeEn, Bt.cells_len (h.getD i)])
  exact h3
section
variable {P : Program} {ops : Array Oper} {C : World → Prop} {Q : Act → Prop} {rest : List Oper} {a : Act} {D : Option Tmp} {T : TypeId} {ps : String} {af : Array Edge} {gd : Option (Nat × Bool)}
/-- A load of a row in a region that only reads. -/
theorem quiet_load (ty : TypeId) (x : Operand) (ad : Addr) (A : Array Value) (hw : Region.wanted { dst := D, op := .load ty x, type := T, pos := ps, after := af, guard := gd } (yielded ops a.tmps) = true)
    (hx : a.eval x = .pointer (some ad)) (hl : ∀ w, C w → (Instr.loadAt ty (.pointer (some ad))).run P w = .ok (.agg A) w) (h : wpQuiet P ops C Q rest (a.put D (.agg A))) :
    wpQuiet P ops C Q ({ dst := D, op := .load ty x, type := T, pos := ps, after := af, guard := gd } :: rest) a :=
  BigFrame.wpQuiet_want hw fun K hK => ⟨.agg A, fun w hC => by
    unfold Oper.quietAt execOp
    simp only [hx, hl w hC, Sem.run_bind, Sem.run_pure, Result.andThen_ok, Oper.quietUpon, and_self], hK _ h⟩
end
def BoSay (b : Bool) (w : World) (e : Ending) (w' : World) : Prop := e = .returned (.bool b) ∧ Below w.heap.size w w'
theorem list_eq_of {L M : List Bt.En} {n : Nat} (hl : L.length = n) (hm : M.length = n) (h : ∀ i, i < n → L.getD i Bt.en0 = M.getD i Bt.en0) : L = M := by
  apply List.ext_getElem (by omega)
  intro i h1 h2
  have := h i (by omega)
  simpa [List.getD_eq_getElem?_getD, h1, h2] using this
set_option maxHeartbeats 1000000 in
set_option maxRecDepth 100000 in
theorem sames_any (L M : List Bt.En) (p q : Option Addr) (n m c d : Nat) (hn : L.length = n) (hm : M.length = m) (hL : n ≤ 100000) (w : World) (hp : Es w p c L) (hq : Es w q d M) :
    Calls Try.prog 38 #[.slice p n c, .slice q m d] w (BoSay (decide (L = M)) w) := by
  have Hp := Lib.hid hp; clear hp
  have Hq := Lib.hid hq; clear hq
  have HN := Lib.hid hn
  have HM := Lib.hid hm
  by_cases hnm : n = m
  · subst hnm
    clear hn hm
    obtain ⟨eb, heb⟩ : ∃ eb, decide (L = M) = eb := ⟨_, rfl⟩
    have HEB := Lib.hid heb
    rw [heb]
    clear heb
    go_enter Try.func38, Try.ntmps38
    go_wp2
    go_loopw [5] (fun v5 wr => ∃ k : Nat, k ≤ n ∧ v5 = .int .i64 k ∧ Hid (∀ i, i < k → L.getD i Bt.en0 = M.getD i Bt.en0) ∧ Hid (Below w.heap.size w wr)) (fun v5 _ => n - (intOf v5).toNat)
    case atStart => exact ⟨0, by omega, rfl, fun i hi => by omega, Below.refl _ _⟩
    case round =>
      obtain ⟨k, hk, rfl, HE, HB⟩ := hrel
      by_cases hlt : k < n
      · obtain ⟨ab, ao, hpp, _⟩ := Hp.out.at_ (by rw [HN.out]; omega)
        obtain ⟨bb, bo, hqq, _⟩ := Hq.out.at_ (by rw [HM.out]; omega)
        subst hpp
        subst hqq
        have h1 : ∀ j, (Instr.loadAt 50 (.pointer (some ⟨ab, ao + k * 35, none⟩))).run Try.prog (wr.drewN j) = .ok (.agg (EnA (L.getD k Bt.en0))) (wr.drewN j) := fun j => ((Hp.out.old HB.out).drewN j).load (by rw [HN.out]; exact hlt)
        have h2 : ∀ j, (Instr.loadAt 50 (.pointer (some ⟨bb, bo + k * 35, none⟩))).run Try.prog (wr.drewN j) = .ok (.agg (EnA (M.getD k Bt.en0))) (wr.drewN j) := fun j => ((Hq.out.old HB.out).drewN j).load (by rw [HM.out]; exact hlt)
        obtain ⟨xb, hxb⟩ : ∃ xb, decide (L.getD k Bt.en0 = M.getD k Bt.en0) = xb := ⟨_, rfl⟩
        have HXB := Lib.hid hxb
        have heq : ∀ y, (Op.equalIn 10000 50 (.agg (EnA (L.getD k Bt.en0))) (.agg (EnA (M.getD k Bt.en0)))).run Try.prog y = .ok xb y := fun y => by rw [← hxb]; exact en_eqs _ _ (Hp.out.getD k) (Hq.out.getD k) y
        clear hxb
        have hi0 : 0 ≤ (k : Int) := by omega
        have hi1 : (k : Int) < (n : Int) := by omega
        generalize EnA (L.getD k Bt.en0) = X at *
        generalize EnA (M.getD k Bt.en0) = Y at *
        go_upto_region 6 with (fail)
        refine wp_region_quiet_lit (by kernel_rfl) (by kernel_rfl) ?_
        repeat (first
          | ((with_reducible refine quiet_load _ _ ⟨ab, ao + k * 35, none⟩ X ?_ ?_ (fun y hy => by obtain ⟨j, rfl⟩ := hy; exact h1 j) ?_); (exact rfl); (exact rfl); simp only [Act.put, List.setIfInBounds_toArray, List.set_cons_zero, List.set_cons_succ])
          | ((with_reducible refine quiet_load _ _ ⟨bb, bo + k * 35, none⟩ Y ?_ ?_ (fun y hy => by obtain ⟨j, rfl⟩ := hy; exact h2 j) ?_); (exact rfl); (exact rfl); simp only [Act.put, List.setIfInBounds_toArray, List.set_cons_zero, List.set_cons_succ])
          | go_big_quiet_step ((fail)))
        refine wpQuiet_nil ?_
        rintro _ ⟨nq, rfl⟩
        cases xb with
        | true =>
          go_wp2
          refine ⟨⟨k + 1, by omega, by go_num, fun i hi => ?_, below_dn HB.out _⟩, by simp [intOf]; omega⟩
          by_cases hik : i = k
          · subst hik; exact of_decide_eq_true HXB.out
          · exact HE.out i (by omega)
        | false =>
          have hf : eb = false := by
            rw [← HEB.out]
            refine decide_eq_false fun e => ?_
            have := of_decide_eq_false HXB.out
            rw [e] at this
            exact this rfl
          subst hf
          go_wp2
          go_ret
          exact ⟨rfl, below_dn HB.out _⟩
      · have E : k = n := by omega
        have hge : n ≤ k := by omega
        have hf : eb = true := by
          rw [← HEB.out]
          exact decide_eq_true (list_eq_of HN.out HM.out (fun i hi => HE.out i (by omega)))
        subst hf
        clear hlt E
        go_wp2
        go_ret
        exact ⟨rfl, HB.out⟩
  · have hd : decide (L = M) = false := decide_eq_false fun e => hnm (by rw [← hn, ← hm, e])
    rw [hd]
    have hnm' : ¬ ((n : Int) = (m : Int)) := by omega
    clear hn hm hd
    go_enter Try.func38, Try.ntmps38
    go_wp2
    go_ret
    exact ⟨rfl, Below.refl _ _⟩
end Go.Proofs.Ytkgefogkdmbciaa
