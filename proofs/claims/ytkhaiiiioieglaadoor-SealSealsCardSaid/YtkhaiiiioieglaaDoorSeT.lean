/-
  The reference's box: in memory; contracts: New, Tag.
-/
import Derived.Test.YtkhaiiiioieglaaDoorSeR
namespace Go.Proofs.YtkhaiiiioieglaaDoor
open Go.RowKit

theorem bs_own {w : World} {B m c : Nat} {p : Option Addr} {l : List Int} (h : w.ownsRow B 5 1 (.slice p m c) m (U8s l)) (hb : Sha.Byt l) : Bs w p c l := by
  obtain ⟨p', c', h1, h2, _⟩ := own_bs h hb
  injection h1 with e1 e2 e3
  rw [e1, e3]
  exact h2
theorem RCiphB.mono {B B' : Nat} {w : World} {g n : Nat} {R : List Int} (h : RCiphB B' w g n R) (hb : B ≤ B') : RCiphB B w g n R := by
  obtain ⟨h0, wb, wc, tb, tc, h1, h2, h3, h4, h5⟩ := h
  refine ⟨by omega, wb, wc, tb, tc, by omega, by omega, h3, fun i hi => ?_, h5⟩
  obtain ⟨b, c, q0, q1⟩ := h4 i hi
  exact ⟨b, c, by omega, q1⟩
theorem RCiphB.grown {B : Nat} {w x : World} {g n : Nat} {R : List Int} (h : RCiphB B w g n R) (O : Obj) (hg : (w.alloc O).grownBy x (some w.heap.size)) : RCiphB B x g n R :=
  h.same fun k _ hk2 => (hg.block k (by have e : (w.alloc O).heap.size = w.heap.size + 1 := (by simp); omega) (fun e => by have e2 := Option.some.inj e; omega)).trans (heap_alloc_old _ _ hk2)
/-- The reference's box of a key, all of it from block B on. -/
def RBox (B : Nat) (w : World) (g : Nat) (K : List Int) : Prop :=
  ∃ d q cq, B ≤ g ∧ B ≤ q ∧ 32 ≤ cq ∧ cq ≤ 9223372036854775807 ∧ w.heap[g]? = some (.cells #[.pointer (some ⟨d, 0, none⟩), .slice (some ⟨q, 0, none⟩) 32 cq] 56 (0, 0)) ∧
    (∀ j, j < 32 → w.cell? ⟨q, j, none⟩ = some (.int .u8 ((Seal.k2 K).getD j 0))) ∧ RCiphB B w d (4 * (4 + 7)) (Aes.up (Aes.rb (Aes.kyl (Seal.k1 K) 4)) (16 * (4 + 7)))
theorem RBox.keep {B : Nat} {w x : World} {g : Nat} {K : List Int} (h : RBox B w g K) (hb : Below w.heap.size w x) : RBox B x g K := by
  obtain ⟨d, q, cq, h0, h1, h2, h3, h4, h5, h6⟩ := h
  exact ⟨d, q, cq, h0, h1, h2, h3, (hb.block _ (lt_of_block h4)).trans h4, fun j hj => (hb.cell (World.block_lt_of_cell? w _ (h5 j hj))).trans (h5 j hj), h6.keep hb⟩
theorem RBox.only {B : Nat} {w x : World} {g j : Nat} {K : List Int} (h : RBox B w g K) (ho : Only j w x) (hj : j < B) : RBox B x g K := by
  obtain ⟨d, q, cq, h0, h1, h2, h3, h4, h5, h6⟩ := h
  exact ⟨d, q, cq, h0, h1, h2, h3, (ho.block _ (lt_of_block h4) (by omega)).trans h4, fun i hi => ho.cell (by show q ≠ j; omega) (h5 i hi), h6.only ho hj⟩
theorem k1_byt (K : List Int) : Sha.Byt (Seal.k1 K) := by
  unfold Seal.k1
  exact fun x hx => hm_byt _ _ x (List.mem_of_mem_take hx)

def RNewBox (K : List Int) (w : World) (e : Ending) (w' : World) : Prop :=
  ∃ g, e = .returned (.pointer (some ⟨g, 0, none⟩)) ∧ Hid (RBox w.heap.size w' g K) ∧ Below w.heap.size w w'
set_option maxHeartbeats 2000000 in
set_option maxRecDepth 100000 in
theorem refbox_any (K : List Int) (p : Option Addr) (n c : Nat) (hn : K.length = n) (hnl : n ≤ 100000) (w : World) (hp : Bs w p c K) (ht : Tab w 0) :
    Calls Tryd.prog 11 #[.slice p n c] w (RNewBox K w) := by
  subst hn
  have Ht := Lib.hid ht; clear ht
  have Hp := Lib.hid hp; clear hp
  have HD1 : Hid (∀ x, Below w.heap.size w x → Calls Tryd.prog 24 #[.slice p K.length c, .string { data := #[101, 110, 99, 114, 121, 112, 116] }] x (HmSay K (bl Seal.encS) x)) := fun x hx =>
    ref2_derive_any K Seal.encS p K.length c rfl hnl (by decide) x ((Hp.out.old hx).bat) Hp.out.cap.1 Hp.out.cap.2 (Ht.out.below hx Ht.out.lt)
  have HD2 : Hid (∀ x, Below w.heap.size w x → Calls Tryd.prog 24 #[.slice p K.length c, .string { data := #[97, 117, 116, 104, 101, 110, 116, 105, 99, 97, 116, 101] }] x (HmSay K (bl Seal.autS) x)) := fun x hx =>
    ref2_derive_any K Seal.autS p K.length c rfl hnl (by decide) x ((Hp.out.old hx).bat) Hp.out.cap.1 Hp.out.cap.2 (Ht.out.below hx Ht.out.lt)
  obtain ⟨A, HA1, HA2, HA3⟩ : ∃ A : Array Value, Hid (A = ((hm K (bl Seal.encS)).map (Value.int .u8)).toArray) ∧ Hid (A.size = 32) ∧ Hid (A.all (·.oneCell') = true) :=
    ⟨_, rfl, by show _ = _; simp [hm_len], all_oneCell_toArray (bytes_one _)⟩
  obtain ⟨B, HB1, HB2, HB3⟩ : ∃ A : Array Value, Hid (A = ((hm K (bl Seal.autS)).map (Value.int .u8)).toArray) ∧ Hid (A.size = 32) ∧ Hid (A.all (·.oneCell') = true) :=
    ⟨_, rfl, by show _ = _; simp [hm_len], all_oneCell_toArray (bytes_one _)⟩
  have HN : Hid (∀ g x, x.heap[g]? = some (.cells A 37 (0, 0)) → Calls Tryd.prog 25 #[.slice (some ⟨g, 0, none⟩) 16 32] x fun e x' => ∃ d, e = .returned (.tuple #[.pointer (some ⟨d, 0, none⟩), .int .i64 0]) ∧ Hid (RCiphB x.heap.size x' d (4 * (4 + 7)) (Aes.up (Aes.rb (Aes.kyl (Seal.k1 K) 4)) (16 * (4 + 7)))) ∧ Hid (Below x.heap.size x x')) := fun g x hx => by
    rw [HA1.out] at hx
    have hb : BAt x (some ⟨g, 0, none⟩) (Seal.k1 K) := by unfold Seal.k1; exact (bat_row hx (hm_byt _ _)).take 16
    refine (refnew_any (Seal.k1 K) 4 (by omega) (Seal.k1_len K) _ 32 (by omega) (by omega) x hb).mono ?_
    rintro e x' ⟨d, h1, h2, h3⟩
    exact ⟨d, h1, h2, h3⟩
  have HK2 : Hid (∀ g x, x.heap[g]? = some (.cells B 37 (0, 0)) → Bs x (some ⟨g, 0, none⟩) 32 (Seal.k2 K)) := fun g x hx => by
    rw [HB1.out] at hx
    refine bs_row (by unfold Seal.k2; exact bat_row hx (hm_byt _ _)) ⟨by rw [Seal.k2_len]; exact Nat.le_refl _, by omega⟩
  go_enter Tryd.func11, Tryd.ntmps11
  go_upto_region 4 with (first
    | (go_at_call 24; refine (HD1.out _ (Below.refl _ w)).mono ?_; rintro e1 w1 ⟨rfl, hb1⟩; rw [← HA1.out]; have B1 := Lib.hid hb1; clear hb1 HD1)
    | ((with_reducible refine row_store _ _ _ _ _ _ _ ?_ ?_ (heap_alloc_new _ _) (row_size Tryd.sizeSum HA2) ?_ HA3.out ?_); (exact rfl); (exact rfl); (rw [HA2.out]; rfl); intro w2 G2 ch2; have B2 : Hid (Below w.heap.size w w2) := ch2.below (B1.out.alloc B1.out.size _) B1.out.size; clear ch2)
    | (go_at_call 24; refine (HD2.out _ B2.out).mono ?_; rintro e3 w3 ⟨rfl, hb3⟩; rw [← HB1.out]; have B3 : Hid (Below w.heap.size w w3) := B2.out.trans (hb3.mono B2.out.size); have G3 := Lib.hid ((hb3.block _ (lt_of_block G2.out)).trans G2.out); clear hb3 HD2)
    | ((with_reducible refine row_store _ _ _ _ _ _ _ ?_ ?_ (heap_alloc_new _ _) (row_size Tryd.sizeSum HB2) ?_ HB3.out ?_); (exact rfl); (exact rfl); (rw [HB2.out]; rfl); intro w4 G4 ch4; have B34 : Hid (Below w3.heap.size w3 w4) := ch4.below ((Below.refl _ w3).alloc (Nat.le_refl _) _) (Nat.le_refl _); have B4 : Hid (Below w.heap.size w w4) := B3.out.trans (B34.out.mono B3.out.size); have G4A := Lib.hid ((B34.out.block _ (lt_of_block G3.out)).trans G3.out); clear ch4)
    | (go_at_call 25; refine (HN.out _ _ G4A.out).mono ?_; rintro e5 w5 ⟨d, rfl, HC5, hb5⟩; have B5 : Hid (Below w.heap.size w w5) := B4.out.trans (hb5.out.mono B4.out.size); have G5 := Lib.hid ((hb5.out.block _ (lt_of_block G4.out)).trans G4.out); have HC5' : Hid (RCiphB w.heap.size w5 d (4 * (4 + 7)) (Aes.up (Aes.rb (Aes.kyl (Seal.k1 K) 4)) (16 * (4 + 7)))) := HC5.out.mono B4.out.size; have BE : Hid (Below w5.heap.size w5 (w5.alloc (.cells #[] 5))) := (Below.refl _ w5).alloc (Nat.le_refl _) _; have BS5 := Lib.hid ((HK2.out _ _ G5.out).old BE.out); have OE := Lib.hid (own_empty w5 w.heap.size B5.out.size); have BW := Lib.hid (B5.out.trans (BE.out.mono B5.out.size)); clear hb5 HN HC5))
  go_wp2_with (at_builtin; refine append_bts _ _ (Seal.k2 K) w.heap.size _ 0 [] _ 32 32 rfl rfl (Seal.k2_len K) BS5.out OE.out (by omega) BW.out.size ?_; intro v6 w6 ho6 hg6; have B6 : Hid (Below w.heap.size w w6) := BW.out.grown hg6 BW.out.size (fun q hq => (OE.out.lt q hq).1); have HC6 : Hid (RCiphB w.heap.size w6 d (4 * (4 + 7)) (Aes.up (Aes.rb (Aes.kyl (Seal.k1 K) 4)) (16 * (4 + 7)))) := HC5'.out.grown _ hg6; rw [List.nil_append] at ho6; obtain ⟨q6, c6, rfl⟩ := own_some ho6 (by omega); have O6 := Lib.hid ho6; clear ho6 hg6)
  go_ret
  have BZ : Below w6.heap.size w6 (w6.alloc (.cells #[.pointer (some ⟨d, 0, none⟩), .slice (some ⟨q6, 0, none⟩) 32 c6] 56)) := (Below.refl _ w6).alloc (Nat.le_refl _) _
  obtain ⟨hc1, hc2⟩ := own_cap O6.out
  refine ⟨w6.heap.size, rfl, ⟨d, q6, c6, B6.out.size, (O6.out.lt q6 rfl).1, by omega, by unfold maxLen at hc2; omega, heap_alloc_new _ _, fun j hj => ?_, HC6.out.keep BZ⟩, B6.out.trans (BZ.mono B6.out.size)⟩
  have h1 := u8_at O6.out j (by omega)
  exact (BZ.cell (World.block_lt_of_cell? w6 _ h1)).trans h1
end Go.Proofs.YtkhaiiiioieglaaDoor
