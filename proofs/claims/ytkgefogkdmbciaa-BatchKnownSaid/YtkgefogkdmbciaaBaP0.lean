/-
  Rows of entries that the call appends to; contract: CopyEntries.
-/
import Derived.Test.YtkgefogkdmbciaaBaL
namespace Go.Proofs.Ytkgefogkdmbciaa
open Go.RowKit

def EsO (B : Nat) (y : World) (v : Value) (L : List Bt.En) : Prop := y.ownsRow B 50 35 v L.length (Bt.ec L)
theorem eso_nil (B : Nat) (y : World) : EsO B y (.slice none 0 0) [] := World.ownsRow_nil _ _ _ _
theorem EsO.es {B : Nat} {y : World} {v : Value} {L : List Bt.En} (h : EsO B y v L) (hok : ∀ x ∈ L, x.ok) : ∃ p c, v = .slice p L.length c ∧ Es y p c L := by
  obtain ⟨_, h2⟩ := h
  rcases h2 with ⟨rfl, h0⟩ | ⟨g, cap, cur, rfl, _, hg, hn, hm, hs, ht⟩
  · obtain rfl : L = [] := List.eq_nil_of_length_eq_zero h0
    exact ⟨none, 0, rfl, es_none y⟩
  · refine ⟨_, cap, rfl, hok, fun _ => ⟨g, 0, rfl, fun i hi j u hu => ?_⟩, ⟨hn, by unfold maxLen at hm; omega⟩, fun e => by cases e⟩
    have hj := (List.getElem?_eq_some_iff.1 hu).1
    have hl : (Bt.cells (L.getD i Bt.en0)).length = 35 := by
      rw [List.getD_eq_getElem?_getD, List.getElem?_eq_getElem hi]
      exact Bt.cells_len (hok _ (List.getElem_mem hi))
    have e1 := Bt.ec_at hok i j hi (by omega)
    rw [hu, ← ht, List.getElem?_take, if_pos (by omega)] at e1
    rw [cell_of_row y g _ _ _ _ hg, Nat.zero_add]
    simpa using e1
theorem EsO.old {B : Nat} {w y : World} {v : Value} {L : List Bt.En} (h : EsO B w v L) (hb : Below w.heap.size w y) : EsO B y v L := own_keepX h hb
theorem EsO.only {B k : Nat} {w y : World} {v : Value} {L : List Bt.En} (h : EsO B w v L) (ho : Only k w y) (hk : k < B) : EsO B y v L := own_onlyX h ho hk
section
variable {ops : Array Oper} {rest : List Oper} {a : Act} {w : World} {Q : Exit → Act → World → Prop} {D : Option Tmp} {T : TypeId} {ps : String} {af : Array Edge} {gd : Option (Nat × Bool)}
theorem app_en_op {K : Act → World → Prop} (s xo : Operand) (B : Nat) (v : Value) (L : List Bt.En) (x : Bt.En) (hs : a.eval s = v) (hx : a.eval xo = .slice (some ⟨w.heap.size, 0, none⟩) 1 1) (hO : EsO B w v L) (hok : ∀ y ∈ L, y.ok) (hxo : x.ok) (N : Nat) (hN : L.length = N) (hl : N ≤ 100000) (hB : B ≤ w.heap.size)
    (h : ∀ q d w', Hid (EsO B w' (.slice q (N + 1) d) (L ++ [x])) → Hid (Below B w w') → Hid ((w.alloc (.cells (Bt.ec [x]).toArray 50)).grownBy w' v.ownBlock) → K (a.put D (.slice q (N + 1) d)) w') :
    Oper.wp Try.prog { dst := D, op := .call { callee := .builtin .append, args := #[s, xo], argTypes := #[24, 24] }, type := T, pos := ps, after := af, guard := gd } a (w.alloc (.cells (Bt.ec [x]).toArray 50)) K Q := by
  subst hN
  obtain ⟨i0, hi, hz0, hz1, hz2⟩ := info_parts Try.infoEn
  have h1 : (Bt.ec [x]).length = 1 * 35 := by rw [Bt.ec_len (fun y hy => by rw [List.mem_singleton] at hy; rw [hy]; exact hxo)]; rfl
  refine wp_append_own _ s xo 24 rfl B 50 i0 (.agg ZEn.toArray) 35 56 Try.underlying24 hi hz0 hz1 hz2 rfl (by decide) v L.length (Bt.ec L) hs (hO.alloc _) ⟨w.heap.size, 0, none⟩ 1 1 (Bt.ec [x]) hx h1
    (fun j u hu => ?_) (Bt.ec_one _) (by unfold maxLen; omega) (by omega) (by simp; omega) (fun v' w' ho hg _ => ?_)
  · rw [Addr.add_mid, Nat.zero_add, cell_of_row _ w.heap.size j _ _ _ (heap_alloc_new w _)]
    simpa using hu
  · have e : Bt.ec L ++ Bt.ec [x] = Bt.ec (L ++ [x]) := (Bt.ec_append _ _).symm
    rw [e] at ho
    have ho' : EsO B w' v' (L ++ [x]) := by
      show World.ownsRow _ _ _ _ _ _ _
      rw [List.length_append]
      exact ho
    have hb : Below B w w' := ((Below.refl B w).alloc hB _).grown hg (by simp; omega) (fun j hj => (World.ownsRow.lt hO j hj).1)
    obtain ⟨q, d, rfl, _⟩ := ho'.es (Bt.ok_app hok (fun y hy => by rw [List.mem_singleton] at hy; rw [hy]; exact hxo))
    have e2 : (L ++ [x]).length = L.length + 1 := by rw [List.length_append]; rfl
    rw [e2] at ho' ⊢
    exact h q d w' ho' hb hg
theorem app_en (s xo : Operand) (B : Nat) (v : Value) (L : List Bt.En) (x : Bt.En) (hs : a.eval s = v) (hx : a.eval xo = .slice (some ⟨w.heap.size, 0, none⟩) 1 1) (hO : EsO B w v L) (hok : ∀ y ∈ L, y.ok) (hxo : x.ok) (N : Nat) (hN : L.length = N) (hl : N ≤ 100000) (hB : B ≤ w.heap.size)
    (h : ∀ q d w', Hid (EsO B w' (.slice q (N + 1) d) (L ++ [x])) → Hid (Below B w w') → Hid ((w.alloc (.cells (Bt.ec [x]).toArray 50)).grownBy w' v.ownBlock) → wpList Try.prog ops Q rest (a.put D (.slice q (N + 1) d)) w') :
    wpList Try.prog ops Q ({ dst := D, op := .call { callee := .builtin .append, args := #[s, xo], argTypes := #[24, 24] }, type := T, pos := ps, after := af, guard := none } :: rest) a (w.alloc (.cells (Bt.ec [x]).toArray 50)) :=
  wpList_plain rfl fun _ hK => app_en_op s xo B v L x hs hx hO hok hxo N hN hl hB fun q d w' h1 h2 h3 => hK _ _ (h q d w' h1 h2 h3)
end
set_option maxHeartbeats 1000000 in
set_option maxRecDepth 100000 in
theorem copys_any (L : List Bt.En) (p : Option Addr) (n c : Nat) (hn : L.length = n) (hL : n ≤ 10000) (w : World) (hp : Es w p c L) :
    Calls Try.prog 29 #[.slice p n c] w fun e w' => ∃ q d, e = .returned (.slice q n d) ∧ EsO w.heap.size w' (.slice q n d) L ∧ Below w.heap.size w w' := by
  have HP := Lib.hid hp
  have HN := Lib.hid hn
  clear hp hn
  go_enter Try.func29, Try.ntmps29
  go_wp2
  go_loopw [3, 4] (fun v i wr => ∃ k : Nat, k ≤ n ∧ i = .int .i64 k ∧ Hid (EsO w.heap.size wr v (L.take k)) ∧ Hid (Below w.heap.size w wr)) (fun _ i _ => n - (intOf i).toNat)
  case atStart => exact ⟨0, Nat.zero_le _, rfl, by rw [List.take_zero]; exact eso_nil _ _, Below.refl _ _⟩
  case round =>
    obtain ⟨k, hk, rfl, HO, HB⟩ := hrel
    by_cases hlt : k < n
    · obtain ⟨ab, ao, hpp, _⟩ := HP.out.at_ (by rw [HN.out]; omega)
      subst hpp
      have HR : Hid (wr.rangeAt ab (ao + k * 35) (EnA (L.getD k Bt.en0)).toList) := (HP.out.old HB.out).rng (by rw [HN.out]; exact hlt)
      have HOK : Hid ((L.getD k Bt.en0).ok) := HP.out.getD k
      have HT : Hid (L.take k ++ [L.getD k Bt.en0] = L.take (k + 1)) := by
        show _ = _
        rw [List.take_add_one, List.getD_eq_getElem?_getD, List.getElem?_eq_getElem (by rw [HN.out]; exact hlt)]
        rfl
      generalize L.getD k Bt.en0 = x at *
      have HLT : Hid ((L.take k).length = k) := by show _ = _; rw [List.length_take, HN.out]; omega
      have HTO : Hid (∀ y ∈ L.take k, y.ok) := fun y hy => HP.out.ok y (List.mem_of_mem_take hy)
      have hk1 : k ≤ 100000 := by omega
      have hi0 : 0 ≤ (k : Int) := by omega
      have hi1 : (k : Int) < (n : Int) := by omega
      go_wp2_with (first
        | ((with_reducible refine rng_load _ _ _ _ _ _ ?_ HR.out Try.underlying50 ?_ (en_info HOK.out) ?_); (exact rfl); (exact rfl))
        | ((with_reducible refine bs_one _ x HOK.out ?_ ?_); (exact rfl))
        | ((with_reducible refine app_en _ _ w.heap.size _ (L.take k) x ?_ ?_ HO.out HTO.out HOK.out k HLT.out hk1 HB.out.size ?_); (exact rfl); (exact rfl); intro q1 d1 w1 O1 K1 _))
      exact ⟨⟨k + 1, by omega, by go_num, by rw [← HT.out]; exact O1.out, HB.out.trans K1.out⟩, by simp [intOf]; omega⟩
    · have E : k = n := by omega
      have HO2 : Hid (EsO w.heap.size wr u3 L) := by
        have := HO.out
        rw [E, ← HN.out, List.take_length] at this
        exact this
      have hge : n ≤ k := by omega
      clear hlt HO E
      obtain ⟨q, d, hqd, _⟩ := HO2.out.es HP.out.ok
      rw [HN.out] at hqd
      subst hqd
      go_wp2
      go_ret
      exact ⟨q, d, rfl, HO2.out, HB.out⟩
end Go.Proofs.Ytkgefogkdmbciaa
