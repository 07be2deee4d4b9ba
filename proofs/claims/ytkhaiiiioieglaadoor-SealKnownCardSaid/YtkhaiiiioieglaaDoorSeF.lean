/-
  Contract: seal.New.
-/
import Derived.Test.YtkhaiiiioieglaaDoorSeE
import Derived.Test.YtkhaiiiioieglaaDoorSeS
import Derived.Test.YtkhaiiiioieglaaDoorC11
namespace Go.Proofs.YtkhaiiiioieglaaDoor
open Go.RowKit

theorem hm_byt (K b : List Int) : Sha.Byt (hm K b) := by unfold hm; exact dg_byt _
theorem BAt.take {w : World} {p : Option Addr} {l : List Int} (h : BAt w p l) (k : Nat) : BAt w p (l.take k) := by
  rw [← List.take_append_drop k l] at h
  exact h.pre
namespace Seal
/-- The labels. -/
def encS : ByteArray := { data := #[101, 110, 99, 114, 121, 112, 116] }
def autS : ByteArray := { data := #[97, 117, 116, 104, 101, 110, 116, 105, 99, 97, 116, 101] }
/-- A box's first key, that key's words, and its second key. -/
def k1 (K : List Int) : List Int := (hm K (bl encS)).take 16
def ks (K : List Int) : List Int := Aes.kws Aes.TB (k1 K)
def k2 (K : List Int) : List Int := hm K (bl autS)
theorem k1_len (K : List Int) : (k1 K).length = 16 := by unfold k1; rw [List.length_take, hm_len]; rfl
theorem k2_len (K : List Int) : (k2 K).length = 32 := hm_len _ _
theorem ks_len (K : List Int) : (ks K).length = 4 * (9 + 2) := kws_len (k1 K) 4 (k1_len K)
theorem k2_byt (K : List Int) : Sha.Byt (k2 K) := hm_byt _ _
attribute [irreducible] k1 ks k2
end Seal
/-- A box of a key. -/
def BoxAt (w : World) (g : Nat) (K : List Int) : Prop := ∃ c, Boxed w g c (Seal.k2 K) ∧ Ciph w c Aes.TB (Seal.ks K)
theorem BoxAt.old {w x : World} {g : Nat} {K : List Int} (h : BoxAt w g K) (hb : Below w.heap.size w x) : BoxAt x g K := by
  obtain ⟨c, h1, h2⟩ := h
  exact ⟨c, h1.old hb, h2.below hb (Nat.le_refl _)⟩
def NewBox (K : List Int) (w : World) (e : Ending) (w' : World) : Prop :=
  ∃ g, e = .returned (.pointer (some ⟨g, 0, none⟩)) ∧ Hid (BoxAt w' g K) ∧ Below w.heap.size w w'
set_option maxHeartbeats 2000000 in
set_option maxRecDepth 100000 in
theorem newbox_any (hT : TakeSaid) (K : List Int) (p : Option Addr) (n c : Nat) (hn : K.length = n) (hnl : n ≤ 100000) (w : World) (hp : Bs w p c K) (ht : Tab w 1) :
    Calls Tryd.prog 10 #[.slice p n c] w (NewBox K w) := by
  subst hn
  have HT := Lib.hid hT; clear hT
  have Ht := Lib.hid ht; clear ht
  have Hp := Lib.hid hp; clear hp
  have HD1 : Hid (∀ x, Below w.heap.size w x → Calls Tryd.prog 22 #[.slice p K.length c, .string { data := #[101, 110, 99, 114, 121, 112, 116] }] x (HmSay K (bl Seal.encS) x)) := fun x hx =>
    derive_any HT.out K Seal.encS p K.length c rfl hnl (by decide) x ((Hp.out.old hx).bat) Hp.out.cap.1 Hp.out.cap.2 (Ht.out.below hx Ht.out.lt)
  have HD2 : Hid (∀ x, Below w.heap.size w x → Calls Tryd.prog 22 #[.slice p K.length c, .string { data := #[97, 117, 116, 104, 101, 110, 116, 105, 99, 97, 116, 101] }] x (HmSay K (bl Seal.autS) x)) := fun x hx =>
    derive_any HT.out K Seal.autS p K.length c rfl hnl (by decide) x ((Hp.out.old hx).bat) Hp.out.cap.1 Hp.out.cap.2 (Ht.out.below hx Ht.out.lt)
  obtain ⟨A, HA1, HA2, HA3⟩ : ∃ A : Array Value, Hid (A = ((hm K (bl Seal.encS)).map (Value.int .u8)).toArray) ∧ Hid (A.size = 32) ∧ Hid (A.all (·.oneCell') = true) :=
    ⟨_, rfl, by show _ = _; simp [hm_len], all_oneCell_toArray (bytes_one _)⟩
  obtain ⟨B, HB1, HB2, HB3⟩ : ∃ A : Array Value, Hid (A = ((hm K (bl Seal.autS)).map (Value.int .u8)).toArray) ∧ Hid (A.size = 32) ∧ Hid (A.all (·.oneCell') = true) :=
    ⟨_, rfl, by show _ = _; simp [hm_len], all_oneCell_toArray (bytes_one _)⟩
  have HN : Hid (∀ g x, x.heap[g]? = some (.cells A 37 (0, 0)) → Calls Tryd.prog 23 #[.slice (some ⟨g, 0, none⟩) 16 32] x fun e x' => ∃ c, e = .returned (.tuple #[.pointer (some ⟨c, 0, none⟩), .int .i64 0]) ∧ Hid (Ciph x' c Aes.TB (Seal.ks K)) ∧ Hid (Below x.heap.size x x')) := fun g x hx => by
    rw [HA1.out] at hx
    have hb : BAt x (some ⟨g, 0, none⟩) (Seal.k1 K) := by unfold Seal.k1; exact (bat_row hx (hm_byt _ _)).take 16
    refine (new_anyB (Seal.k1 K) 4 (by omega) (Seal.k1_len K) _ 32 (by omega) (by omega) x hb).mono ?_
    rintro e x' ⟨c, h1, _, h2, h3⟩
    exact ⟨c, h1, by unfold Seal.ks; exact h2, h3⟩
  have hB32 := HB2.out
  go_enter Tryd.func10, Tryd.ntmps10
  go_wp2_with (first
    | (go_at_call 22; refine (HD1.out _ (Below.refl _ w)).mono ?_; rintro e1 w1 ⟨rfl, hb1⟩; rw [← HA1.out]; have B1 := Lib.hid hb1; clear hb1 HD1)
    | ((with_reducible refine row_store _ _ _ _ _ _ _ ?_ ?_ (heap_alloc_new _ _) (row_size Tryd.sizeSum HA2) ?_ HA3.out ?_); (exact rfl); (exact rfl); (rw [HA2.out]; rfl); intro w2 G2 ch2; have B2 : Hid (Below w.heap.size w w2) := ch2.below (B1.out.alloc B1.out.size _) B1.out.size; clear ch2)
    | (go_at_call 23; refine (HN.out _ _ G2.out).mono ?_; rintro e3 w3 ⟨c3, rfl, HC3, hb3⟩; have B3 : Hid (Below w.heap.size w w3) := B2.out.trans (hb3.out.mono B2.out.size); clear hb3 HN)
    | (go_at_call 22; refine (HD2.out _ B3.out).mono ?_; rintro e4 w4 ⟨rfl, hb4⟩; rw [← HB1.out]; have B4 : Hid (Below w.heap.size w w4) := B3.out.trans (hb4.mono B3.out.size); have HC4 : Hid (Ciph w4 c3 Aes.TB (Seal.ks K)) := HC3.out.below hb4 (Nat.le_refl _); clear hb4 HD2))
  generalize hFF : Array.foldl _ _ (B.zipIdx 0) 0 32 = FF
  have hFB : FF = #[.pointer (some ⟨c3, 0, none⟩)] ++ B := by
    rw [← hFF]
    exact fold_box _ B HB2.out (List.replicate 32 (Value.int .u8 0)) (by simp)
  clear hFF
  subst hFB
  go_ret
  have B5 : Below w4.heap.size w4 (w4.alloc (.cells (#[.pointer (some ⟨c3, 0, none⟩)] ++ B) 51)) := (Below.refl _ w4).alloc (Nat.le_refl _) _
  refine ⟨w4.heap.size, rfl, ⟨c3, ?_, HC4.out.below B5 (Nat.le_refl _)⟩, B4.out.trans (B5.mono B4.out.size)⟩
  unfold Boxed Seal.k2
  rw [← HB1.out]
  exact heap_alloc_new w4 _

end Go.Proofs.YtkhaiiiioieglaaDoor
