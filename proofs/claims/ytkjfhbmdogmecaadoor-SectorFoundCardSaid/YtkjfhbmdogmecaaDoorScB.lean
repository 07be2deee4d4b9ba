/-
  Contract: claimed; results that are a cell and a temporary.
-/
import Derived.Test.YtkjfhbmdogmecaaDoorScA
namespace Go.Proofs.YtkjfhbmdogmecaaDoor
open Go.RowKit

section
variable {P : Program}
theorem results_cell_tmp {fn : Func} {p u : Tmp} {ty : TypeId} (h : fn.results = #[.cell p ty, .tmp u]) (tmps : Array Value) (w : World) (g : Nat) (t : TypeId) (cs : Array Value) (fr : Nat × Nat) (d : TypeDesc)
    (hp : tmps.getD p undef = .pointer (some ⟨g, 0, none⟩)) (hg : w.heap[g]? = some (.cells cs t fr))
    (hu : P.underlying ty = some d) (hd : (match d with | .struct _ | .array _ _ => true | _ => false) = true) (hi : (P.info? ty).map (·.size) = some cs.size) :
    (results fn tmps).run P w = .ok (.tuple #[.agg cs, tmps.getD u undef]) w := by
  have hp' : tmps[p]?.getD undef = .pointer (some ⟨g, 0, none⟩) := by simpa using hp
  simp [results, h, hp', asAddr, run_loadVar_row w g t ty cs fr d hg hu hd hi]
end
/-- A sector written over. -/
theorem sset {w : World} {g : Nat} {k e n a k' e' n' a' : Int} {p p' : Option Addr} {m c m' c' : Nat} (h : w.heap[g]? = some (SO k e n a p m c)) :
    (((((w.setCell ⟨g, 0, none⟩ (.int .i64 k')).setCell ⟨g, 1, none⟩ (.int .i64 e')).setCell ⟨g, 2, none⟩ (.int .i64 n')).setCell ⟨g, 3, none⟩ (.int .i64 a')).setCell ⟨g, 4, none⟩ (.slice p' m' c')).heap[g]? = some (SO k' e' n' a' p' m' c') :=
  heap_setCells g 24 [.int .i64 k', .int .i64 e', .int .i64 n', .int .i64 a', .slice p' m' c'] 0 [.int .i64 k, .int .i64 e, .int .i64 n, .int .i64 a, .slice p m c] w h (by simp)
theorem sset_chg (w : World) (g : Nat) (v0 v1 v2 v3 v4 : Value) : Chg g w (((((w.setCell ⟨g, 0, none⟩ v0).setCell ⟨g, 1, none⟩ v1).setCell ⟨g, 2, none⟩ v2).setCell ⟨g, 3, none⟩ v3).setCell ⟨g, 4, none⟩ v4) :=
  ((((Chg.setCell w ⟨g, 0, none⟩ v0).trans (Chg.setCell _ ⟨g, 1, none⟩ v1)).trans (Chg.setCell _ ⟨g, 2, none⟩ v2)).trans (Chg.setCell _ ⟨g, 3, none⟩ v3)).trans (Chg.setCell _ ⟨g, 4, none⟩ v4)
theorem ssize : (Tryd.prog.info? 24).map (·.size) = some 5 := by kernel_rfl

namespace Sc
/-- The epoch and the number that bytes say. -/
def ep (b : List Int) : Int := Pk.vi (Pk.nx 1 b)
def nu (b : List Int) : Int := Pk.vi (Pk.nx 8 (Pk.nx 1 b))
def k0 (b : List Int) : Int := Pk.vb b
attribute [irreducible] ep nu k0
end Sc
set_option maxHeartbeats 1000000 in
set_option maxRecDepth 100000 in
theorem claimed_any (a : Int) (b : List Int) (p : Option Addr) (c : Nat) (hb : b.length = 17) (w : World) (hp : Bs w p c b) :
    Calls Tryd.prog 25 #[.int .i64 a, .slice p 17 c] w fun r w' => r = .returned (SV (Sc.k0 b) (Sc.ep b) (Sc.nu b) a none 0 0) ∧ Below w.heap.size w w' := by
  have B0 : Hid (Below w.heap.size w (w.alloc (SO 0 0 0 0 none 0 0))) := (Below.refl _ w).alloc (Nat.le_refl _) _
  have S0 : Hid ((w.alloc (SO 0 0 0 0 none 0 0)).heap[w.heap.size]? = some (SO 0 0 0 0 none 0 0)) := heap_alloc_new w _
  have P0 : Hid (Bs (w.alloc (SO 0 0 0 0 none 0 0)) p c b) := hp.old B0.out
  have L0 : Hid (b.length = 17) := hb
  have hk0 : 0 ≤ Sc.k0 b ∧ Sc.k0 b ≤ 255 := by unfold Sc.k0 Pk.vb; exact Sha.byt_getD hp.bat.1 0
  have hw8 : IntKind.i64.wrap (Sc.k0 b) = Sc.k0 b := IntWalk.i64_in _ ⟨by omega, by omega⟩
  have L1 : Hid ((Pk.nx 1 b).length ≤ 17) := by show _ ≤ _; have := Pk.nx_le 1 b; omega
  have L2 : Hid ((Pk.nx 8 (Pk.nx 1 b)).length ≤ 17) := by show _ ≤ _; have := Pk.nx_le 8 (Pk.nx 1 b); have := L1.out; omega
  have E0 : Hid (Sc.k0 b = Pk.vb b) := by show _ = _; unfold Sc.k0; rfl
  have E1 : Hid (Sc.ep b = Pk.vi (Pk.nx 1 b)) := by show _ = _; unfold Sc.ep; rfl
  have E2 : Hid (Sc.nu b = Pk.vi (Pk.nx 8 (Pk.nx 1 b))) := by show _ = _; unfold Sc.nu; rfl
  generalize Sc.k0 b = k0 at *
  generalize Sc.ep b = e0 at *
  generalize Sc.nu b = n0 at *
  clear hp hb hk0
  go_enter Tryd.func25, Tryd.ntmps25
  go_upto_region 1 with (fail)
  change Code.wp _ _ _ _ (w.alloc (SO 0 0 0 0 none 0 0))
  obtain ⟨w0, hw0⟩ : ∃ x, x = w.alloc (SO 0 0 0 0 none 0 0) := ⟨_, rfl⟩
  rw [← hw0] at B0 S0 P0 ⊢
  clear hw0
  go_upto_region 2 with (go_at_call 31; refine (read_any b p 17 c L0.out (by omega) _ P0.out).mono ?_; rintro e1 w1 ⟨g, D, rfl, R1, G1, b1⟩)
  have S1 : Hid (w1.heap[w.heap.size]? = some (SO 0 0 0 0 none 0 0)) := (b1.out.block _ (lt_of_block S0.out)).trans S0.out
  have NE : Hid (w.heap.size ≠ g) := by have := lt_of_block S0.out; have := G1.out.1; show _ ≠ _; omega
  have TK : Hid (0 = 0) := rfl
  go_wp2_with (first
    | (go_at_call 32; refine (rbyte_any b false g D 17 L0.out (by omega) _ R1.out).mono ?_; rintro e2 w2 ⟨rfl, R2, O2⟩; rw [← E0.out])
    | (go_at_call 33; have TT := TK.out; clear TK; refine (rint_any (Pk.nx 1 b) _ g D _ rfl (by have := L1.out; omega) _ R2.out).mono ?_; rintro e3 w3 ⟨rfl, R3, O3⟩; rw [← E1.out])
    | (go_at_call 33; refine (rint_any (Pk.nx 8 (Pk.nx 1 b)) _ g D _ rfl (by have := L2.out; omega) _ R3.out).mono ?_; rintro e4 w4 ⟨rfl, R4, O4⟩; rw [← E2.out]; have O5 : Hid (Only g w1 w4) := (O2.out.trans O3.out).trans O4.out; have S4 : Hid (w4.heap[w.heap.size]? = some (SO 0 0 0 0 none 0 0)) := (O5.out.block _ (lt_of_block S1.out) NE.out).trans S1.out; have f0 := frozen_of_row w4 w.heap.size 0 _ _ S4.out; have f1 := frozen_of_row w4 w.heap.size 1 _ _ S4.out; have f2 := frozen_of_row w4 w.heap.size 2 _ _ S4.out; have f3 := frozen_of_row w4 w.heap.size 3 _ _ S4.out; have f4 := frozen_of_row w4 w.heap.size 4 _ _ S4.out; obtain ⟨d0, d1, d2, d3, d4⟩ := (⟨SAt.c0 ⟨S4.out⟩, SAt.c1 ⟨S4.out⟩, SAt.c2 ⟨S4.out⟩, SAt.c3 ⟨S4.out⟩, SAt.c4 ⟨S4.out⟩⟩ : _ ∧ _ ∧ _ ∧ _ ∧ _)))
  have S5 := sset (k' := k0) (e' := e0) (n' := n0) (a' := a) (p' := none) (m' := 0) (c' := 0) S4.out
  refine bodyPost_ret (results_cell_row rfl _ _ w.heap.size 24 _ (0, 0) _ rfl S5 Tryd.underlying24 rfl (by rw [ssize]; rfl)) rfl ⟨rfl, ?_⟩
  have hb1 : Below w.heap.size w w1 := B0.out.trans (b1.out.mono B0.out.size)
  have hb4 : Below w.heap.size w w4 := O5.out.below hb1 (by have := G1.out.1; have := B0.out.size; omega) hb1.size
  exact (sset_chg _ _ _ _ _ _ _).below hb4 (Nat.le_refl _)
end Go.Proofs.YtkjfhbmdogmecaaDoor
