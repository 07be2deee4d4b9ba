/-
  PackKnown: the law walked.
-/
import Derived.Test.YtlgnlilfagjejaaPaV
namespace Go.Proofs.Ytlgnlilfagjejaa
open Go.RowKit

namespace Pk
def Ends : List Int := [-9223372036854775808, -1, 0, 1, 255, 256, 1099511627776, 9223372036854775807]
theorem ends_in : ∀ k, k < 8 → In64 (Ends.getD k 0) := fun k hk => by
  match k, hk with
  | 0, _ => exact ⟨by decide, by decide⟩
  | 1, _ => exact ⟨by decide, by decide⟩
  | 2, _ => exact ⟨by decide, by decide⟩
  | 3, _ => exact ⟨by decide, by decide⟩
  | 4, _ => exact ⟨by decide, by decide⟩
  | 5, _ => exact ⟨by decide, by decide⟩
  | 6, _ => exact ⟨by decide, by decide⟩
  | 7, _ => exact ⟨by decide, by decide⟩
theorem vi_e8 {x : Int} (h : In64 x) : vi (e8 x 8) = x := by
  unfold vi
  rw [e8_len, if_neg (by omega), List.take_of_length_le (by rw [e8_len]; exact Nat.le_refl _), in8_e8 h]
theorem m1 : e8 (-1) 8 = List.replicate 8 255 := by rw [e8_eight]; rfl
theorem s7 : vi (List.replicate 7 0) = 0 ∧ nx 8 (List.replicate 7 0) = [] ∧ nb 8 (List.replicate 7 0) false = true := ⟨by unfold vi; rfl, by unfold nx; rfl, by unfold nb; rfl⟩
theorem s0 (b : Bool) : vb [] = 0 ∧ nx 1 [] = [] ∧ nb 1 [] b = true := ⟨by unfold vb; rfl, by unfold nx; rfl, by unfold nb; rfl⟩
theorem s56 : vb [5, 6] = 5 ∧ nx 1 [5, 6] = [6] ∧ nb 1 [5, 6] false = false := ⟨by unfold vb; rfl, by unfold nx; rfl, by unfold nb; rfl⟩
theorem en_bad : en [] true = 4 := by unfold en; rfl
theorem en_six : en [6] false = 3 := by unfold en; rfl
end Pk
set_option maxHeartbeats 4000000 in
set_option maxRecDepth 100000 in
theorem known_all (w : World) : Calls Try.prog 7 #[] w (YesSay w) := by
  have HK : Hid (∀ y, Calls Try.prog 9 #[] y (YesSay y)) := fun y => known_any y
  have HI : Hid (∀ x y, Calls Try.prog 11 #[.slice none 0 0, .int .i64 x] y (RowOf (Pk.e8 x 8) 8 y)) := fun x y => by
    have h := int_any [] x none 0 0 8 rfl rfl (by omega) y (bs_none y)
    rw [List.nil_append] at h
    exact h
  have HRP : Hid (∀ L n y p c, List.length L = n → n ≤ 100 → Bs y p c L → Calls Try.prog 20 #[.slice p n c] y (NewSay L y)) := fun L n y p c hn hl hy => read_any L p n c hn (by omega) y hy
  have HN : Hid (∀ x, Pk.In64 x → ∀ y g D, RdAt y g D (Pk.e8 x 8) false → Calls Try.prog 25 #[.pointer (some ⟨g, 0, none⟩)] y fun e w' => e = .returned (.int .i64 x) ∧ Hid (Only g y w')) := fun x hx y g D hy => by
    have h := rint_any (Pk.e8 x 8) false g D 8 (Pk.e8_len _ _) (by omega) y hy
    rw [Pk.vi_e8 hx] at h
    exact h.mono fun _ _ h => ⟨h.1, h.2.2⟩
  have HE0 : Hid (∀ y : World, Below (w.alloc (.cells (Pk.Ends.map (Value.int .i64)).toArray 3)).heap.size (w.alloc (.cells (Pk.Ends.map (Value.int .i64)).toArray 3)) y → ∀ k, k < 8 → y.cell? ⟨w.heap.size, k, none⟩ = some (.int .i64 (Pk.Ends.getD k 0))) := fun y hy k hk => by
    have h := (hy.block w.heap.size (by simp)).trans (heap_alloc_new w _)
    rw [cell_of_row y w.heap.size k _ _ _ h]
    have hl : Pk.Ends.length = 8 := rfl
    simp [List.getD_eq_getElem?_getD, hl, hk]
  have B0 : Hid (Below w.heap.size w (w.alloc (.cells (Pk.Ends.map (Value.int .i64)).toArray 3))) := (Below.refl _ w).alloc (Nat.le_refl _) _
  go_enter Try.func7, Try.ntmps7
  go_upto_region 2 with (fail)
  change Code.wp _ _ _ _ (w.alloc (.cells (Pk.Ends.map (Value.int .i64)).toArray 3))
  obtain ⟨w0, hw0⟩ : ∃ x, x = w.alloc (.cells (Pk.Ends.map (Value.int .i64)).toArray 3) := ⟨_, rfl⟩
  rw [← hw0] at HE0 B0 ⊢
  clear hw0
  go_wp2
  go_loopw [2] (fun u2 wr => ∃ k : Nat, k ≤ 8 ∧ u2 = .int .i64 k ∧ Hid (Below w0.heap.size w0 wr)) (fun u2 _ => 8 - (intOf u2).toNat)
  case atStart => exact ⟨0, by omega, rfl, Below.refl _ _⟩
  case round =>
    obtain ⟨k, hk, rfl, HB⟩ := hrel
    by_cases hlt : k < 8
    · have c0 := HE0.out _ HB.out k hlt
      have HX := Lib.hid (Pk.ends_in k hlt)
      have HEK : Hid (∀ y, Below w0.heap.size w0 y → y.cell? ⟨w.heap.size, k, none⟩ = some (.int .i64 (Pk.Ends.getD k 0))) := fun y hy => HE0.out y hy k hlt
      generalize Pk.Ends.getD k 0 = x at *
      have hi0 : (0 : Int) ≤ (k : Int) := by omega
      have hi1 : (k : Int) < 8 := by omega
      have HIx := Lib.hid (HI.out x)
      have HNx := Lib.hid (HN.out x HX.out)
      have HRx : Hid (∀ y p c, Bs y p c (Pk.e8 x 8) → Calls Try.prog 20 #[.slice p 8 c] y (NewSay (Pk.e8 x 8) y)) := fun y p c hy => HRP.out _ 8 y p c (Pk.e8_len _ _) (by omega) hy
      go_upto_region 6 with (go_at_call 11; refine (HIx.out _).mono ?_; rintro e1 w1 ⟨p1, c1, rfl, HO1, HB1, HL1⟩; have K1 : Hid (Below w0.heap.size w0 w1) := HB.out.trans (HL1.out.mono HB.out.size))
      have K2 : Hid (Below w0.heap.size w0 w1.drew) := K1.out.drew
      have HB2 : Hid (Bs w1.drew p1 c1 (Pk.e8 x 8)) := HB1.out.drew
      have C2 := Lib.hid (HEK.out _ K2.out)
      clear c0 K1 HB1 HO1 HL1
      go_region_held3 (fun y => y.cell? ⟨w.heap.size, k, none⟩ = some (.int .i64 x)) (exact (Hid.out (by assumption)))
        ((first
          | (go_at_call 25; refine (HNx.out _ _ _ HR3.out).mono ?_; rintro e4 w4 ⟨rfl, HO4⟩; have K4 : Hid (Below w0.heap.size w0 w4) := HO4.out.below K3.out (Nat.le_trans K2.out.size HG3.out.1) K3.out.size; have C4 := Lib.hid (HEK.out _ K4.out))
          | (go_at_call 20; refine (HRx.out _ _ _ HB2.out).mono ?_; rintro e3 w3 ⟨g, D, rfl, HR3, HG3, HL3⟩; have K3 : Hid (Below w0.heap.size w0 w3) := K2.out.trans (HL3.out.mono K2.out.size); have C3 := Lib.hid (HEK.out _ K3.out))))
      go_wp2
      exact ⟨⟨k + 1, by omega, by go_num, K4.out⟩, by simp [intOf]; omega⟩
    · obtain rfl : k = 8 := by omega
      have HW : Hid (Below w.heap.size w wr) := B0.out.trans (HB.out.mono B0.out.size)
      clear HE0 HB B0 hlt
      have HI1 : Hid (∀ y, Calls Try.prog 11 #[.slice none 0 0, .int .i64 (-1)] y (RowOf (List.replicate 8 255) 8 y)) := fun y => by rw [← Pk.m1]; exact HI.out (-1) y
      have HCE : Hid (∀ y p c, Bs y p c (List.replicate 8 255) → ∃ b o, p = some ⟨b, o, none⟩ ∧ y.cell? ⟨b, o, none⟩ = some (.int .u8 255) ∧ y.cell? ⟨b, o + 7, none⟩ = some (.int .u8 255)) := fun y p c hy => by
        obtain ⟨b, o, h1, h2⟩ := hy.bat.2 (by simp)
        exact ⟨b, o, h1, h2 0 (by simp), h2 7 (by simp)⟩
      have HR7 : Hid (∀ y p c, Bs y p c (List.replicate 7 0) → Calls Try.prog 20 #[.slice p 7 c] y (NewSay (List.replicate 7 0) y)) := fun y p c hy => HRP.out _ 7 y p c (by simp) (by omega) hy
      have HR2 : Hid (∀ y p c, Bs y p c [5, 6] → Calls Try.prog 20 #[.slice p 2 c] y (NewSay [5, 6] y)) := fun y p c hy => HRP.out _ 2 y p c rfl (by omega) hy
      have HRn : Hid (∀ y, Calls Try.prog 20 #[.slice none 0 0] y (NewSay [] y)) := fun y => HRP.out _ 0 y none 0 rfl (by omega) (bs_none y)
      have HI7 : Hid (∀ y g D, RdAt y g D (List.replicate 7 0) false → Calls Try.prog 25 #[.pointer (some ⟨g, 0, none⟩)] y (RdSay (.int .i64 0) [] true g D y)) := fun y g D hy => by
        have h := rint_any (List.replicate 7 0) false g D 7 (by simp) (by omega) y hy
        rw [Pk.s7.1, Pk.s7.2.1, Pk.s7.2.2] at h
        exact h
      have HY0 : Hid (∀ b y g D, RdAt y g D [] b → Calls Try.prog 23 #[.pointer (some ⟨g, 0, none⟩)] y (RdSay (.int .u8 0) [] true g D y)) := fun b y g D hy => by
        have h := rbyte_any [] b g D 0 rfl (by omega) y hy
        rw [(Pk.s0 b).1, (Pk.s0 b).2.1, (Pk.s0 b).2.2] at h
        exact h
      have HY5 : Hid (∀ y g D, RdAt y g D [5, 6] false → Calls Try.prog 23 #[.pointer (some ⟨g, 0, none⟩)] y (RdSay (.int .u8 5) [6] false g D y)) := fun y g D hy => by
        have h := rbyte_any [5, 6] false g D 2 rfl (by omega) y hy
        rw [Pk.s56.1, Pk.s56.2.1, Pk.s56.2.2] at h
        exact h
      have HE1 : Hid (∀ y g D, RdAt y g D [] true → Calls Try.prog 34 #[.pointer (some ⟨g, 0, none⟩)] y (EndSay 4 y)) := fun y g D hy => by
        have h := end_any [] true g D y hy; rw [Pk.en_bad] at h; exact h
      have HE2 : Hid (∀ y g D, RdAt y g D [6] false → Calls Try.prog 34 #[.pointer (some ⟨g, 0, none⟩)] y (EndSay 3 y)) := fun y g D hy => by
        have h := end_any [6] false g D y hy; rw [Pk.en_six] at h; exact h
      have HE3 : Hid (∀ y g D, RdAt y g D [] false → Calls Try.prog 34 #[.pointer (some ⟨g, 0, none⟩)] y (EndSay 0 y)) := fun y g D hy => by
        have h := end_any [] false g D y hy; rw [Pk.k9_en] at h; exact h
      have HL0 : Hid (∀ b y g D, RdAt y g D [] b → Calls Try.prog 31 #[.pointer (some ⟨g, 0, none⟩)] y (EndSay 0 y)) := fun b y g D hy => left_any [] b g D y hy
      have HL1 : Hid (∀ y g D, RdAt y g D [6] false → Calls Try.prog 31 #[.pointer (some ⟨g, 0, none⟩)] y (EndSay 1 y)) := fun y g D hy => left_any [6] false g D y hy
      have HBD : Hid (∀ y g D, RdAt y g D [] true → Calls Try.prog 33 #[.pointer (some ⟨g, 0, none⟩)] y (BadSay true y)) := fun y g D hy => bad_any [] true g D y hy
      have HB7 : Hid (∀ (y : World) (b : Nat), y.heap[b]? = some (.cells (List.replicate 7 (Value.int .u8 0)).toArray 5 (0, 0)) → Bs y (some ⟨b, 0, none⟩) 7 (List.replicate 7 0)) := fun y b h => by
        rw [show List.replicate 7 (Value.int .u8 0) = (List.replicate 7 (0 : Int)).map (Value.int .u8) by simp] at h
        exact bs_row (bat_row h (byt_rep 7 0 (by omega))) ⟨by simp, by omega⟩
      have HB56 : Hid (∀ y : World, Bs (y.alloc (.cells #[.int .u8 5, .int .u8 6] 5)) (some ⟨y.heap.size, 0, none⟩) 2 [5, 6]) := fun y =>
        bs_row (bat_row (heap_alloc_new y _) (by intro x hx; simp at hx; omega)) ⟨by simp, by omega⟩
      go_upto_region 11 with (go_at_call 11; refine (HI1.out _).mono ?_; rintro e1 w1 ⟨p1, c1, rfl, HO1, HB1, HL1'⟩; have K1 : Hid (Below w.heap.size w w1) := HW.out.trans (HL1'.out.mono HW.out.size))
      have HW1 : Hid (Below w.heap.size w w1) := K1.out
      have HBB := Lib.hid (HCE.out _ _ _ HB1.out)
      go_upto_region 13 with (first
        | (go_at_call 23; refine (HY0.out _ _ _ _ R3.out).mono ?_; rintro e4 w4 ⟨rfl, R4, O4⟩; have J4 : Hid (Below w1.heap.size w1 w4) := O4.out.below J3.out G2.out J3.out.size)
        | (go_at_call 25; refine (HI7.out _ _ _ R2.out).mono ?_; rintro e3 w3 ⟨rfl, R3, O3⟩; have J3 : Hid (Below w1.heap.size w1 w3) := O3.out.below J2.out G2.out J2.out.size)
        | ((with_reducible refine make_at _ 5 _ _ (.int .u8 0) 1 7 7 ?_ ?_ ?_ ?_ rfl ?_ ?_ ?_ ?_); (exact rfl); (exact rfl); (exact Try.underlying22); (exact Try.info_u8); omega; omega; omega; intro wm GM hbm hsm; have A7 := Lib.hid hbm; have BM := Lib.hid (HB7.out _ _ GM.out); clear hsm)
        | (go_at_call 20; refine (HR7.out _ _ _ BM.out).mono ?_; rintro e2 w2 ⟨g1, D1, rfl, R2, HG2, HL2⟩; have J2 : Hid (Below w1.heap.size w1 w2) := A7.out.trans (HL2.out.mono A7.out.size); have G2 : Hid (w1.heap.size ≤ g1) := Nat.le_trans A7.out.size HG2.out.1))
      have A5 : Hid (Below w4.heap.size w4 (w4.alloc (.cells #[.int .u8 5, .int .u8 6] 5))) := (Below.refl _ w4).alloc (Nat.le_refl _) _
      clear A7 HL2 HG2 R2 R3 O3 J2 J3 O4 HI7 HR7 HB7
      go_upto_region 16 with (first
        | (go_at_call 20; refine (HRn.out _).mono ?_; rintro e8 w8 ⟨g3, D3, rfl, E8, HG8, HL8⟩; have J8 : Hid (Below w1.heap.size w1 w8) := J7.out.trans (HL8.out.mono J7.out.size); have R8 := Lib.hid (R7.out.old HL8.out); have S8 := Lib.hid (S7.out.old HL8.out))
        | (go_at_call 23; refine (HY5.out _ _ _ S6.out).mono ?_; rintro e7 w7 ⟨rfl, S7, O7⟩; have J7 : Hid (Below w1.heap.size w1 w7) := O7.out.below J6.out (Nat.le_trans J4.out.size G6.out) J6.out.size; have R7 : Hid (RdAt w7 g1 D1 [] true) := R6.out.only O7.out (fun e => by have := R4.out.glt; have := G6.out; omega) (fun e => by have := R4.out.lt _ e; have := G6.out; omega))
        | (go_at_call 20; refine (HR2.out _ _ _ (HB56.out _)).mono ?_; rintro e6 w6 ⟨g2, D2, rfl, S6, HG6, HL6⟩; have J6 : Hid (Below w1.heap.size w1 w6) := J4.out.trans ((A5.out.trans (HL6.out.mono A5.out.size)).mono J4.out.size); have G6 : Hid (w4.heap.size ≤ g2) := Nat.le_trans A5.out.size HG6.out.1; have R6 := Lib.hid (R4.out.old (A5.out.trans (HL6.out.mono A5.out.size)))))
      obtain ⟨b, o, hpp, q0, q7⟩ := HBB.out
      subst hpp
      have c0 := (J8.out.cell (World.block_lt_of_cell? _ _ q0)).trans q0
      have c7 := (J8.out.cell (World.block_lt_of_cell? _ _ q7)).trans q7
      have K8 : Hid (Below w.heap.size w w8) := HW1.out.trans (J8.out.mono HW1.out.size)
      have G8 : Hid (w.heap.size ≤ g3) := Nat.le_trans (HW1.out.trans (J7.out.mono HW1.out.size)).size HG8.out.1
      clear HBB q0 q7 A5 HL6 HG6 S6 O7 S7 R6 R7 R4 J4 J6 J7 J8 HL8 HG8 HR2 HRn HY5 HB56 HB1 HO1 HL1' HI1 HW HCE
      go_wp2_with (first
        | (go_at_call 9; refine (HK.out _).mono ?_; rintro e17 w17 ⟨rfl, hb17⟩)
        | (go_at_call 33; refine (HBD.out _ _ _ E15.out).mono ?_; rintro e16 w16 ⟨rfl, hb16⟩; have K16 : Hid (Below w.heap.size w w16) := K15.out.trans (hb16.mono K15.out.size))
        | (go_at_call 23; refine (HY0.out _ _ _ _ (E8.out.old M14.out)).mono ?_; rintro e15 w15 ⟨rfl, E15, O15⟩; have K15 : Hid (Below w.heap.size w w15) := O15.out.below (K8.out.trans (M14.out.mono K8.out.size)) G8.out (K8.out.trans (M14.out.mono K8.out.size)).size)
        | (go_at_call 34; refine (HE3.out _ _ _ (E8.out.old M13.out)).mono ?_; rintro e14 w14 ⟨rfl, hb14⟩; have M14 : Hid (Below w8.heap.size w8 w14) := M13.out.trans (hb14.mono M13.out.size))
        | (go_at_call 31; refine (HL1.out _ _ _ (S8.out.old M12.out)).mono ?_; rintro e13 w13 ⟨rfl, hb13⟩; have M13 : Hid (Below w8.heap.size w8 w13) := M12.out.trans (hb13.mono M12.out.size))
        | (go_at_call 34; refine (HE2.out _ _ _ (S8.out.old M11.out)).mono ?_; rintro e12 w12 ⟨rfl, hb12⟩; have M12 : Hid (Below w8.heap.size w8 w12) := M11.out.trans (hb12.mono M11.out.size))
        | (go_at_call 31; refine (HL0.out _ _ _ _ (R8.out.old M10.out)).mono ?_; rintro e11 w11 ⟨rfl, hb11⟩; have M11 : Hid (Below w8.heap.size w8 w11) := M10.out.trans (hb11.mono M10.out.size))
        | (go_at_call 34; refine (HE1.out _ _ _ (R8.out.old M9.out)).mono ?_; rintro e10 w10 ⟨rfl, hb10⟩; have M10 : Hid (Below w8.heap.size w8 w10) := M9.out.trans (hb10.mono M9.out.size))
        | (go_at_call 33; refine (HBD.out _ _ _ R8.out).mono ?_; rintro e9 w9 ⟨rfl, hb9⟩; have M9 := Lib.hid hb9))
      go_ret
      exact ⟨rfl, K16.out.trans (hb17.mono K16.out.size)⟩
end Go.Proofs.Ytlgnlilfagjejaa
