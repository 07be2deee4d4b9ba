/-
  Towards rilllaw03.AesTurns: bytes written over, and ciphers that are kept; blocks that came in.
-/
import Derived.Test.YtkajigfdfbgphaaTurI
import Derived.Test.YtkajigfdfbgphaaAnyH
import Derived.Test.YtkajigfdfbgphaaAesX
import Derived.OpenShut
import Derived.Deep.Slices
namespace Go.Proofs.Ytkajigfdfbgphaa
open Go.RowKit

section
variable {P : Program} {a : Act} {w : World} {D : Option Tmp} {T : TypeId} {ps : String} {af : Array Edge}
theorem exec_arr {gd : Option (Nat × Bool)} (ty : TypeId) (x : Operand) (b o : Nat) (A : Array Value) (d : TypeDesc) (hx : a.eval x = .pointer (some ⟨b, o, none⟩)) (hc : w.rangeAt b o A.toList)
    (hu : P.underlying ty = some d) (hd : d.isRow = true) (hi : (P.info? ty).map (·.size) = some A.size) :
    (execOp a.eval { dst := D, op := .load ty x, type := T, pos := ps, after := af, guard := gd }).run P w = .ok (.value (.agg A)) w := by
  have h := run_loadAt_mid (P := P) w b o ty A.toList d hc hu hd (by simpa using hi)
  unfold execOp
  simp only [hx, h, Sem.run_bind, Sem.run_pure, Result.andThen_ok, Array.toArray_toList]
end
/-- Blocks that came in. -/
def BlkAt (w : World) (tp : Option Addr) (len : Nat) (M : Nat → List Int) : Prop :=
  (∀ i, i < len → (M i).length = 16 ∧ Sha.Byt (M i)) ∧ (0 < len → ∃ ab ao, tp = some ⟨ab, ao, none⟩ ∧ ab < w.heap.size ∧ ∀ i, i < len → w.rangeAt ab (ao + i * 16) ((M i).map (Value.int .u8)))

/-- What SpoilBytes says. -/
def SpoilSay (g : Nat) (w : World) (e : Ending) (w' : World) : Prop := e = .returned (.tuple #[]) ∧ Only g w w'
set_option maxHeartbeats 600000 in
set_option maxRecDepth 100000 in
theorem spoil_any (l : List Int) (g c : Nat) (n : Nat) (hn : l.length = n) (hL : n ≤ 1000000) (w : World) (hg : w.heap[g]? = some (.cells (l.map (Value.int .u8)).toArray 5 (0, 0))) :
    Calls Try.prog 14 #[.slice (some ⟨g, 0, none⟩) n c] w (SpoilSay g w) := by
  subst hn
  have Hg := Lib.hid hg; clear hg
  go_enter Try.func14, Try.ntmps14
  go_wp2
  go_loopw [2] (fun v2 wr => ∃ k : Nat, k ≤ l.length ∧ v2 = .int .i64 k ∧ ∃ m : List Int, Hid (m.length = l.length) ∧ Hid (wr.heap[g]? = some (.cells (m.map (Value.int .u8)).toArray 5 (0, 0))) ∧ Hid (Only g w wr)) (fun v2 _ => l.length - (intOf v2).toNat)
  case atStart => exact ⟨0, Nat.zero_le _, rfl, l, rfl, Hg.out, Only.refl _ _⟩
  case round =>
    clear Hg
    obtain ⟨k, hk, rfl, m, HM, HG, HO⟩ := hrel
    by_cases hlt : k < l.length
    · have c0 := u8_cell HG.out k (by rw [HM.out]; exact hlt)
      have f0 := frozen_of_row wr g k _ _ HG.out
      generalize m.getD k 0 = y at *
      go_wp2
      refine ⟨⟨k + 1, by omega, by go_num, m.set k (bits .xor .u8 y 90), ?_, set_u8' HG.out, ?_⟩, by simp [intOf]; omega⟩
      · show _ = _; rw [List.length_set]; exact HM.out
      · exact HO.out.trans (Chg.setCell wr ⟨g, k, none⟩ _).only
    · have hge : l.length ≤ k := by omega
      clear hlt
      go_wp2
      go_end0
      exact ⟨rfl, HO.out⟩

theorem own_only {w w' : World} {B n s g : Nat} {v : Value} {xs : List Value} {e : TypeId} (h : w.ownsRow B e s v n xs) (ho : Only g w w') (hne : v.ownBlock ≠ some g) : w'.ownsRow B e s v n xs := by
  refine ⟨h.1, ?_⟩
  rcases h.2 with h' | ⟨g', cap, cur, hv, q0, q1, q2⟩
  · exact Or.inl h'
  · refine Or.inr ⟨g', cap, cur, hv, q0, (ho.block _ (lt_of_block q1) (fun e => hne ?_)).trans q1, q2⟩
    subst e
    rw [hv]
    rfl
/-- A cipher is kept where a row of bytes alone is written over. -/
theorem Ciph.only {w w' : World} {c g : Nat} {T ks : List Int} {A : Array Value} {fr : Nat × Nat} (h : Ciph w c T ks) (hg : w.heap[g]? = some (.cells A 5 fr)) (ho : Only g w w') : Ciph w' c T ks := by
  obtain ⟨kb, n, cap, base, hc, hlen, hown⟩ := h
  refine ⟨kb, n, cap, base, (ho.block _ (lt_of_block hc) (fun e => ?_)).trans hc, hlen, own_only hown ho (fun e => ?_)⟩
  · subst e
    rw [hc] at hg
    simp only [Option.some.injEq, Obj.cells.injEq] at hg
    exact absurd hg.2.1 (by decide)
  · simp only [Value.ownBlock, Option.some.injEq] at e
    subst e
    rcases hown.2 with ⟨h', _⟩ | ⟨g', cap', cur, hv, _, q1, _⟩
    · cases h'
    · simp only [Value.slice.injEq, Option.some.injEq, Addr.mk.injEq, and_true, true_and] at hv
      obtain ⟨rfl, rfl⟩ := hv
      rw [q1] at hg
      simp only [Option.some.injEq, Obj.cells.injEq] at hg
      exact absurd hg.2.1 (by decide)
theorem RCiphB.plain {B : Nat} {w : World} {g n : Nat} {R : List Int} (h : RCiphB B w g n R) : RCiph w g n R := by
  obtain ⟨_, wb, wc, tb, tc, _, _, h0, hW, hT⟩ := h
  exact ⟨wb, wc, tb, tc, h0, fun i hi => by obtain ⟨b, c, _, h1, h2⟩ := hW i hi; exact ⟨b, c, h1, h2⟩, hT⟩
theorem RCiphB.same {B : Nat} {w x : World} {g n : Nat} {R : List Int} (h : RCiphB B w g n R) (hs : ∀ k, B ≤ k → k < w.heap.size → x.heap[k]? = w.heap[k]?) : RCiphB B x g n R := by
  obtain ⟨hg, wb, wc, tb, tc, b1, b2, h0, hW, hT⟩ := h
  have cell : ∀ b j v, B ≤ b → w.cell? ⟨b, j, none⟩ = some v → x.cell? ⟨b, j, none⟩ = some v := fun b j v hb hc => by
    rw [World.cell?_of_block (a := ⟨b, j, none⟩) (hs b hb (World.block_lt_of_cell? w _ hc))]
    exact hc
  refine ⟨hg, wb, wc, tb, tc, b1, b2, (hs g hg (lt_of_block h0)).trans h0, fun i hi => ?_, fun j hj => cell _ _ _ b2 (hT j hj)⟩
  obtain ⟨b, c, h3, h4, h5⟩ := hW i hi
  exact ⟨b, c, h3, cell _ _ _ b1 h4, fun j hj => cell _ _ _ h3 (h5 j hj)⟩
theorem RCiphB.keep {B : Nat} {w x : World} {g n : Nat} {R : List Int} (h : RCiphB B w g n R) (hb : Below w.heap.size w x) : RCiphB B x g n R := h.same fun k _ hk => hb.block k hk
theorem RCiphB.only {B : Nat} {w x : World} {g n j : Nat} {R : List Int} (h : RCiphB B w g n R) (ho : Only j w x) (hj : j < B) : RCiphB B x g n R := h.same fun k hk hk2 => ho.block k hk2 (by omega)

set_option maxHeartbeats 1000000 in
set_option maxRecDepth 100000 in
theorem refnew_bad (p : Option Addr) (n cap : Nat) (h1 : n ≠ 16) (h2 : n ≠ 24) (h3 : n ≠ 32) (w : World) :
    Calls Try.prog 12 #[.slice p n cap] w fun e w' => e = .returned (.tuple #[.pointer none, .int .i64 1]) ∧ w' = w := by
  have e1 : ((n : Int) == 16) = false := by simp; omega
  have e2 : ((n : Int) == 24) = false := by simp; omega
  have e3 : ((n : Int) == 32) = false := by simp; omega
  have f1 : ¬ (n : Int) = 16 := by omega
  have f2 : ¬ (n : Int) = 24 := by omega
  have f3 : ¬ (n : Int) = 32 := by omega
  have g1 : ((n : Int) != 16) = true := by simp; omega
  have g2 : ((n : Int) != 24) = true := by simp; omega
  have g3 : ((n : Int) != 32) = true := by simp; omega
  go_enter Try.func12, Try.ntmps12
  go_wp2
  go_ret2
  exact ⟨rfl, rfl⟩
end Go.Proofs.Ytkajigfdfbgphaa
