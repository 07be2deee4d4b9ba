/-
  SealEither: keys and heads that are too long; rows of bytes that came in.
-/
import Derived.Test.YtkhaiiiioieglaaDoorSeM
import Derived.Test.YtkhaiiiioieglaaDoorSeP
import Derived.Deep.Matrix
namespace Go.Proofs.YtkhaiiiioieglaaDoor
open Go.ChangeShapes Go.WideShapes Go.RowKit

theorem Tryd.cells22 : Tryd.prog.cellsOf 22 = 1 := by kernel_rfl
set_option maxRecDepth 100000 in
theorem open_mat {H : Type} {enc : TypeId × Value → H} {W : World} {base : Nat} {v : Value} {d : DataW H} {ps : List MemPlace} (hok : Value.okWide Tryd.prog W .any base 41 v)
    (h : DataW.Trod enc Tryd.prog W 0 (fun _ => true) true 41 v d ps) : ∃ (Rs : List (List Int)) (tp : Option Addr) (cap : Nat), v = .slice tp Rs.length cap ∧ BRows W tp Rs := by
  obtain ⟨a0, len, cap, rfl⟩ := okWide_slice Tryd.underlying41 hok
  obtain ⟨fuel, hf⟩ := h
  rcases Go.Deep.open_int_rows Tryd.underlying41 Tryd.underlying22 Tryd.underlying5 Tryd.cells22 Tryd.cells5 hf with ⟨hcs, _⟩ | ⟨a, len', cap', A, L, C, Z, hcs, _, hl, hm, _, hrow⟩
  · simp [Value.cells] at hcs
    obtain ⟨rfl, rfl, rfl⟩ := hcs
    exact ⟨[], none, 0, rfl, fun h0 => by simp at h0⟩
  · simp [Value.cells] at hcs
    obtain ⟨rfl, rfl, rfl⟩ := hcs
    have hlen : ((List.range len).map fun r => (Z r).take (L r)).length = len := by simp
    refine ⟨(List.range len).map fun r => (Z r).take (L r), some a, cap, by rw [hlen], fun h0 => ?_⟩
    rw [hlen] at h0
    obtain ⟨ab, ao, spot⟩ := a
    have hspot : spot = none := by simpa [Addr.add] using World.cell?_spot (hrow 0 (by omega)).1
    subst hspot
    have h00 := (hrow 0 (by omega)).1
    rw [Addr.add_mid] at h00
    refine ⟨ab, ao, rfl, World.block_lt_of_cell? W ⟨ab, ao + 0, none⟩ h00, fun r hr => ?_⟩
    rw [hlen] at hr
    have hg : ((List.range len).map fun r => (Z r).take (L r)).getD r [] = (Z r).take (L r) := by simp [List.getD_eq_getElem?_getD, hr]
    obtain ⟨e1, e2, e3, e4, e5, e6, e7⟩ := hrow r (by omega)
    have hll : ((Z r).take (L r)).length = L r := by simp; omega
    rw [hg, hll]
    rw [Addr.add_mid] at e1
    refine ⟨A r, C r, e1, ⟨⟨fun x hx => ?_, fun h1 => ?_⟩, ⟨by rw [hll]; exact e2, by unfold maxLen at e3; omega⟩, fun h1 => ⟨List.eq_nil_of_length_eq_zero (by rw [hll]; have := e6 h1; omega), e6 h1⟩⟩⟩
    · have h := e5 x (List.mem_of_mem_take hx)
      simp [Lit.wf, IntKind.min, IntKind.max, IntKind.signed, IntKind.bits] at h
      omega
    · rw [hll] at h1 ⊢
      cases hA : A r with
      | none => have := e6 hA; omega
      | some a' =>
        obtain ⟨bb, bo, sp⟩ := a'
        obtain ⟨_, hc⟩ := e7 _ hA
        have hsp : sp = none := by simpa [Addr.add] using World.cell?_spot (hc 0 (by omega))
        subst hsp
        refine ⟨bb, bo, rfl, fun j hj => ?_⟩
        have h := hc j (by omega)
        rw [Addr.add_mid] at h
        rw [h]
        congr 2
        simp [List.getD_eq_getElem?_getD, hj]

set_option maxHeartbeats 2000000 in
set_option maxRecDepth 100000 in
theorem either_long (hT : TakeSaid) (e n : Int) (p0 ph : Option Addr) (v2 : Value) (n0 nh c0 ch : Nat) (h : 4096 < n0 ∨ 4096 < nh) (w : World) (ht : Tab w 1) :
    Calls Tryd.prog 7 #[.slice p0 n0 c0, .agg #[.int .i64 e, .int .i64 n, .slice ph nh ch], v2] w (YesSay w) := by
  have B0 : Hid (Below w.heap.size w (w.alloc (wobj e n ph nh ch))) := (Below.refl _ w).alloc (Nat.le_refl _) _
  have HK : Hid (Calls Tryd.prog 8 #[] (w.alloc (wobj e n ph nh ch)) (YesSay (w.alloc (wobj e n ph nh ch)))) := known_any hT _ (ht.below B0.out ht.lt)
  clear ht hT
  by_cases h1 : (4096 : Int) < (n0 : Int)
  · go_enter Tryd.func7, Tryd.ntmps7
    go_wp2_with (go_at_call 8; refine HK.out.mono ?_; rintro e1 w1 ⟨rfl, hb1⟩)
    go_ret
    exact ⟨rfl, B0.out.trans (hb1.mono B0.out.size)⟩
  · have h2 : (4096 : Int) < (nh : Int) := by omega
    go_enter Tryd.func7, Tryd.ntmps7
    go_wp2_with (go_at_call 8; refine HK.out.mono ?_; rintro e1 w1 ⟨rfl, hb1⟩)
    go_ret
    exact ⟨rfl, B0.out.trans (hb1.mono B0.out.size)⟩
/-- SealEither is true. -/
theorem either_any (K h : List Int) (Rs : List (List Int)) (e n : Int) (p0 ph tp : Option Addr) (c0 ch c2 : Nat) (w : World) (hb0 : Bs w p0 c0 K) (hbh : Bs w ph ch h) (hb1 : BRows w tp Rs) (ht : Tab w 1) :
    Calls Tryd.prog 7 #[.slice p0 K.length c0, .agg #[.int .i64 e, .int .i64 n, .slice ph h.length ch], .slice tp Rs.length c2] w (YesSay w) := by
  by_cases hl : 4096 < K.length ∨ 4096 < h.length
  · exact either_long take_any e n p0 ph _ _ _ c0 ch hl w ht
  · exact either_short take_any K h Rs e n p0 ph tp _ _ _ c0 ch c2 rfl rfl rfl (by omega) (by omega) w hb0 hbh hb1 ht
end Go.Proofs.YtkhaiiiioieglaaDoor
