/-
  SeF, SeG, SeH, SeI, SeJ0, SeJ (merged)
-/
import Derived.Test.YtkjfhbmdogmecaaDoorSe1
import Derived.Test.YtkjfhbmdogmecaaDoorC11
import Derived.Laws.Cover3
namespace Go.Proofs.YtkjfhbmdogmecaaDoor

/-! SeF: Contract: seal.New. -/
section
open Go.RowKit

theorem hm_byt (K b : List Int) : Sha.Byt (hm K b) := by unfold hm; exact dg_byt _
theorem BAt.take {w : World} {p : Option Addr} {l : List Int} (h : BAt w p l) (k : Nat) : BAt w p (l.take k) := by
  rw [← List.take_append_drop k l] at h
  exact h.pre
namespace Seal
/-- The labels. -/
def encS : ByteArray := { data := #[101, 110, 99, 114, 121, 112, 116] }
def autS : ByteArray := { data := #[97, 117, 116, 104, 101, 110, 116, 105, 99, 97, 116, 101] }
/-- A box's first key, that key's words, and its second key. -/
def k1 (K : List Int) : List Int := (hm K (bl encS)).take 16
def ks (K : List Int) : List Int := Aes.kws Aes.TB (k1 K)
def k2 (K : List Int) : List Int := hm K (bl autS)
theorem k1_len (K : List Int) : (k1 K).length = 16 := by unfold k1; rw [List.length_take, hm_len]; rfl
theorem k2_len (K : List Int) : (k2 K).length = 32 := hm_len _ _
theorem ks_len (K : List Int) : (ks K).length = 4 * (9 + 2) := kws_len (k1 K) 4 (k1_len K)
theorem k2_byt (K : List Int) : Sha.Byt (k2 K) := hm_byt _ _
attribute [irreducible] k1 ks k2
end Seal
/-- A box of a key. -/
def BoxAt (w : World) (g : Nat) (K : List Int) : Prop := ∃ c, Boxed w g c (Seal.k2 K) ∧ Ciph w c Aes.TB (Seal.ks K)
theorem BoxAt.old {w x : World} {g : Nat} {K : List Int} (h : BoxAt w g K) (hb : Below w.heap.size w x) : BoxAt x g K := by
  obtain ⟨c, h1, h2⟩ := h
  exact ⟨c, h1.old hb, h2.below hb (Nat.le_refl _)⟩
def NewBox (K : List Int) (w : World) (e : Ending) (w' : World) : Prop :=
  ∃ g, e = .returned (.pointer (some ⟨g, 0, none⟩)) ∧ Hid (BoxAt w' g K) ∧ Below w.heap.size w w'
set_option maxHeartbeats 2000000 in
set_option maxRecDepth 100000 in
theorem newbox_any (hT : TakeSaid) (K : List Int) (p : Option Addr) (n c : Nat) (hn : K.length = n) (hnl : n ≤ 100000) (w : World) (hp : Bs w p c K) (ht : Tab w 0) :
    Calls Tryd.prog 9 #[.slice p n c] w (NewBox K w) := by
  subst hn
  have HT := Lib.hid hT; clear hT
  have Ht := Lib.hid ht; clear ht
  have Hp := Lib.hid hp; clear hp
  have HD1 : Hid (∀ x, Below w.heap.size w x → Calls Tryd.prog 18 #[.slice p K.length c, .string { data := #[101, 110, 99, 114, 121, 112, 116] }] x (HmSay K (bl Seal.encS) x)) := fun x hx =>
    derive_any HT.out K Seal.encS p K.length c rfl hnl (by decide) x ((Hp.out.old hx).bat) Hp.out.cap.1 Hp.out.cap.2 (Ht.out.below hx Ht.out.lt)
  have HD2 : Hid (∀ x, Below w.heap.size w x → Calls Tryd.prog 18 #[.slice p K.length c, .string { data := #[97, 117, 116, 104, 101, 110, 116, 105, 99, 97, 116, 101] }] x (HmSay K (bl Seal.autS) x)) := fun x hx =>
    derive_any HT.out K Seal.autS p K.length c rfl hnl (by decide) x ((Hp.out.old hx).bat) Hp.out.cap.1 Hp.out.cap.2 (Ht.out.below hx Ht.out.lt)
  obtain ⟨A, HA1, HA2, HA3⟩ : ∃ A : Array Value, Hid (A = ((hm K (bl Seal.encS)).map (Value.int .u8)).toArray) ∧ Hid (A.size = 32) ∧ Hid (A.all (·.oneCell') = true) :=
    ⟨_, rfl, by show _ = _; simp [hm_len], all_oneCell_toArray (bytes_one _)⟩
  obtain ⟨B, HB1, HB2, HB3⟩ : ∃ A : Array Value, Hid (A = ((hm K (bl Seal.autS)).map (Value.int .u8)).toArray) ∧ Hid (A.size = 32) ∧ Hid (A.all (·.oneCell') = true) :=
    ⟨_, rfl, by show _ = _; simp [hm_len], all_oneCell_toArray (bytes_one _)⟩
  have HN : Hid (∀ g x, x.heap[g]? = some (.cells A 51 (0, 0)) → Calls Tryd.prog 19 #[.slice (some ⟨g, 0, none⟩) 16 32] x fun e x' => ∃ c, e = .returned (.tuple #[.pointer (some ⟨c, 0, none⟩), .int .i64 0]) ∧ Hid (Ciph x' c Aes.TB (Seal.ks K)) ∧ Hid (Below x.heap.size x x')) := fun g x hx => by
    rw [HA1.out] at hx
    have hb : BAt x (some ⟨g, 0, none⟩) (Seal.k1 K) := by unfold Seal.k1; exact (bat_row hx (hm_byt _ _)).take 16
    refine (new_anyB (Seal.k1 K) 4 (by omega) (Seal.k1_len K) _ 32 (by omega) (by omega) x hb).mono ?_
    rintro e x' ⟨c, h1, _, h2, h3⟩
    exact ⟨c, h1, by unfold Seal.ks; exact h2, h3⟩
  have hB32 := HB2.out
  go_enter Tryd.func9, Tryd.ntmps9
  go_wp2_with (first
    | (go_at_call 18; refine (HD1.out _ (Below.refl _ w)).mono ?_; rintro e1 w1 ⟨rfl, hb1⟩; rw [← HA1.out]; have B1 := Lib.hid hb1; clear hb1 HD1)
    | ((with_reducible refine row_store _ _ _ _ _ _ _ ?_ ?_ (heap_alloc_new _ _) (row_size Tryd.sizeSum HA2) ?_ HA3.out ?_); (exact rfl); (exact rfl); (rw [HA2.out]; rfl); intro w2 G2 ch2; have B2 : Hid (Below w.heap.size w w2) := ch2.below (B1.out.alloc B1.out.size _) B1.out.size; clear ch2)
    | (go_at_call 19; refine (HN.out _ _ G2.out).mono ?_; rintro e3 w3 ⟨c3, rfl, HC3, hb3⟩; have B3 : Hid (Below w.heap.size w w3) := B2.out.trans (hb3.out.mono B2.out.size); clear hb3 HN)
    | (go_at_call 18; refine (HD2.out _ B3.out).mono ?_; rintro e4 w4 ⟨rfl, hb4⟩; rw [← HB1.out]; have B4 : Hid (Below w.heap.size w w4) := B3.out.trans (hb4.mono B3.out.size); have HC4 : Hid (Ciph w4 c3 Aes.TB (Seal.ks K)) := HC3.out.below hb4 (Nat.le_refl _); clear hb4 HD2))
  generalize hFF : Array.foldl _ _ (B.zipIdx 0) 0 32 = FF
  have hFB : FF = #[.pointer (some ⟨c3, 0, none⟩)] ++ B := by
    rw [← hFF]
    exact fold_box _ B HB2.out (List.replicate 32 (Value.int .u8 0)) (by simp)
  clear hFF
  subst hFB
  go_ret
  have B5 : Below w4.heap.size w4 (w4.alloc (.cells (#[.pointer (some ⟨c3, 0, none⟩)] ++ B) 57)) := (Below.refl _ w4).alloc (Nat.le_refl _) _
  refine ⟨w4.heap.size, rfl, ⟨c3, ?_, HC4.out.below B5 (Nat.le_refl _)⟩, B4.out.trans (B5.mono B4.out.size)⟩
  unfold Boxed Seal.k2
  rw [← HB1.out]
  exact heap_alloc_new w4 _
end

/-! SeG: What is sealed and opened, in plain lists; contract: Seal. -/
section
open Go.RowKit

namespace Seal
/-- Bytes turned under a key, an epoch and a number. -/
def ct (K : List Int) (e n : Int) (L : List Int) : List Int := Ctr.xs (StreamOf (ks K) 9 e n) L
theorem ct_len (K : List Int) (e n : Int) (L : List Int) : (ct K e n L).length = L.length := Ctr.xs_len _ _
theorem ct_byt (K : List Int) (e n : Int) (L : List Int) : Sha.Byt (ct K e n L) := Ctr.xs_byt _ _
theorem ct_ct (K : List Int) (e n : Int) (L : List Int) (h : Sha.Byt L) : ct K e n (ct K e n L) = L := xs_xs _ L h (fun _ _ => stream_byt _ _ _ _ _ _)
theorem ct_nil (K : List Int) (e n : Int) : ct K e n [] = [] := List.eq_nil_of_length_eq_zero (by rw [ct_len]; rfl)
/-- The tag of turned bytes. -/
def tg (K : List Int) (e n : Int) (h t : List Int) : List Int := hm (k2 K) (tin h e n t)
theorem tg_len (K : List Int) (e n : Int) (h t : List Int) : (tg K e n h t).length = 32 := hm_len _ _
theorem tg_byt (K : List Int) (e n : Int) (h t : List Int) : Sha.Byt (tg K e n h t) := hm_byt _ _
attribute [irreducible] ct tg
/-- What Seal answers. -/
def sl (K : List Int) (e n : Int) (h L : List Int) : List Int := if inR e && inR n then ct K e n L ++ tg K e n h (ct K e n L) else []
/-- What Open tells, if anything. -/
def op (K : List Int) (e n : Int) (h S : List Int) : Option (List Int) :=
  if inR e && inR n && decide (32 ≤ S.length) && decide (S.drop (S.length - 32) = tg K e n h (S.take (S.length - 32))) then some (ct K e n (S.take (S.length - 32))) else none
theorem sl_good {e n : Int} (he : inR e = true) (hn : inR n = true) (K h L : List Int) : sl K e n h L = ct K e n L ++ tg K e n h (ct K e n L) := by unfold sl; rw [he, hn]; rfl
theorem sl_bad {e n : Int} (h0 : (inR e && inR n) = false) (K h L : List Int) : sl K e n h L = [] := by unfold sl; rw [h0]; rfl
theorem sl_len {e n : Int} (he : inR e = true) (hn : inR n = true) (K h L : List Int) : (sl K e n h L).length = L.length + 32 := by rw [sl_good he hn, List.length_append, ct_len, tg_len]
theorem sl_byt (K : List Int) (e n : Int) (h L : List Int) : Sha.Byt (sl K e n h L) := by
  unfold sl
  split
  · exact Sha.byt_append (ct_byt _ _ _ _) (tg_byt _ _ _ _ _)
  · exact fun x hx => by simp at hx
theorem op_byt {K : List Int} {e n : Int} {h S p : List Int} (ho : op K e n h S = some p) : Sha.Byt p := by
  unfold op at ho
  split at ho
  · injection ho with h1
    rw [← h1]
    exact ct_byt _ _ _ _
  · cases ho
theorem op_sl {e n : Int} (he : inR e = true) (hn : inR n = true) (K h L : List Int) (hL : Sha.Byt L) : op K e n h (sl K e n h L) = some L := by
  have hl := sl_len he hn K h L
  have e1 : (sl K e n h L).take L.length = ct K e n L := by
    rw [sl_good he hn, List.take_left' (ct_len _ _ _ _)]
  have e2 : (sl K e n h L).drop L.length = tg K e n h (ct K e n L) := by
    rw [sl_good he hn, List.drop_left' (ct_len _ _ _ _)]
  unfold op
  rw [hl, show L.length + 32 - 32 = L.length by omega, e1, e2, he, hn, ct_ct K e n L hL]
  simp
theorem op_bad {e n : Int} (h0 : (inR e && inR n) = false) (K h S : List Int) : op K e n h S = none := by unfold op; rw [h0]; rfl
theorem op_short (K : List Int) (e n : Int) (h S : List Int) (hS : S.length < 32) : op K e n h S = none := by
  unfold op
  rw [show decide (32 ≤ S.length) = false by simp; omega]
  simp
/-- What is opened, sealed again, is just that. -/
theorem sl_op {K : List Int} {e n : Int} {h S p : List Int} (hS : Sha.Byt S) (ho : op K e n h S = some p) : sl K e n h p = S ∧ S.length = p.length + 32 := by
  unfold op at ho
  split at ho
  · rename_i hc
    simp only [Bool.and_eq_true, decide_eq_true_eq] at hc
    obtain ⟨⟨⟨he, hn⟩, hl⟩, ht⟩ := hc
    injection ho with h1
    have hb : Sha.Byt (S.take (S.length - 32)) := fun x hx => hS x (List.mem_of_mem_take hx)
    have h2 : ct K e n p = S.take (S.length - 32) := by rw [← h1, ct_ct K e n _ hb]
    refine ⟨?_, ?_⟩
    · rw [sl_good he hn, h2, ← ht, List.take_append_drop]
    · rw [← h1, ct_len, List.length_take]; omega
  · cases ho
end Seal

theorem bs_xor {L X : List Int} {w w' : World} {q : Option Addr} {cq : Nat} (h : XorGot L X w q cq w') : Bs w' q cq X := ⟨h.bat, by rw [h.len]; exact h.cap, h.none⟩

/-- What Seal answers, in memory of its own. -/
def OwnSay (R : List Int) (w : World) (e : Ending) (w' : World) : Prop :=
  ∃ p c m, e = .returned (.slice p m c) ∧ R.length = m ∧ Hid (w'.ownsRow w.heap.size 5 1 (.slice p m c) m (U8s R)) ∧ Hid (Bs w' p c R) ∧ Below w.heap.size w w'
theorem ownsay_of {R : List Int} {w w' : World} {v : Value} {n : Nat} (ho : w'.ownsRow w.heap.size 5 1 v n (U8s R)) (hR : Sha.Byt R) (hb : Below w.heap.size w w') : OwnSay R w (.returned v) w' := by
  obtain ⟨p, c, rfl, hbs, hl⟩ := own_bs ho hR
  subst hl
  exact ⟨p, c, R.length, rfl, rfl, ho, hbs, hb⟩

set_option maxHeartbeats 2000000 in
set_option maxRecDepth 100000 in
theorem seal_good (hT : TakeSaid) (K h L : List Int) (g : Nat) (e n : Int) (ph pl : Option Addr) (nh nl ch cl : Nat) (hnh : h.length = nh) (hnl : L.length = nl) (he : inR e = true) (hn : inR n = true)
    (w : World) (hg : BoxAt w g K) (hh : Bs w ph ch h) (hl : Bs w pl cl L) (hs : nh + nl ≤ 100000) (ht : Tab w 0) :
    Calls Tryd.prog 73 #[.pointer (some ⟨g, 0, none⟩), .int .i64 e, .int .i64 n, .slice ph nh ch, .slice pl nl cl] w (OwnSay (Seal.sl K e n h L) w) := by
  subst hnh
  subst hnl
  obtain ⟨c, hg1, hg2⟩ := hg
  have HT := Lib.hid hT; clear hT
  have Ht := Lib.hid ht; clear ht
  have HG1 := Lib.hid hg1; clear hg1
  have HG2 := Lib.hid hg2; clear hg2
  have Hh := Lib.hid hh; clear hh
  have Hl := Lib.hid hl; clear hl
  have Hs := Lib.hid hs; clear hs
  have he2 : 0 ≤ e ∧ e ≤ 1099511627776 := by unfold inR at he; simpa using he
  have hn2 : 0 ≤ n ∧ n ≤ 1099511627776 := by unfold inR at hn; simpa using hn
  have HE : Hid (∀ x, Calls Tryd.prog 75 #[.int .i64 e] x fun r x' => r = .returned (.bool true) ∧ x' = x) := fun x => by have h := inRange_any e x; rw [he] at h; exact h
  have HN : Hid (∀ x, Calls Tryd.prog 75 #[.int .i64 n] x fun r x' => r = .returned (.bool true) ∧ x' = x) := fun x => by have h := inRange_any n x; rw [hn] at h; exact h
  have HXR : Hid (∀ x, Below w.heap.size w x → Calls Tryd.prog 78 #[.pointer (some ⟨c, 0, none⟩), .int .i64 e, .int .i64 n, .slice pl L.length cl] x fun r x' => ∃ q cq, r = .returned (.slice q L.length cq) ∧ Hid (XorGot L (Seal.ct K e n L) x q cq x')) := fun x hx => by
    unfold Seal.ct
    exact xor_key (Seal.ks_len K) (by omega) c e n L L.length rfl pl cl (by have := Hs.out; omega) Hl.out.nil x (Hl.out.old hx).bat (HG2.out.below hx (Nat.le_refl _))
  obtain ⟨X, HX⟩ : ∃ X, Hid (X = Seal.ct K e n L) := ⟨_, rfl⟩
  have HXL : Hid (X.length = L.length) := by show _ = _; rw [HX.out, Seal.ct_len]
  rw [← HX.out] at HXR
  obtain ⟨T, HTT⟩ : ∃ T, Hid (T = Seal.tg K e n h X) := ⟨_, rfl⟩
  have HTL : Hid (T.length = 32) := by show _ = _; rw [HTT.out, Seal.tg_len]
  have HTB : Hid (Sha.Byt T) := by show Sha.Byt T; rw [HTT.out]; exact Seal.tg_byt _ _ _ _ _
  have HXB : Hid (Sha.Byt X) := by show Sha.Byt X; rw [HX.out]; exact Seal.ct_byt _ _ _ _
  have HTG : Hid (∀ x q cq, Below w.heap.size w x → Bs x q cq X → Calls Tryd.prog 77 #[.pointer (some ⟨g, 0, none⟩), .int .i64 e, .int .i64 n, .slice ph h.length ch, .slice q L.length cq] x (RowSay T x)) := fun x q cq hx hq => by
    have h1 := tag_any HT.out (Seal.k2 K) (Seal.k2_len K) (Seal.k2_byt K) g c e n (by omega) (by omega) h X ph q h.length L.length ch cq rfl HXL.out x (HG1.out.old hx) (Hh.out.old hx) hq (by have := Hs.out; omega) (Ht.out.below hx Ht.out.lt)
    rw [HTT.out]
    unfold Seal.tg
    exact h1
  have HRES : Hid (Seal.sl K e n h L = X ++ T) := by show _ = _; rw [Seal.sl_good he hn, ← HX.out, ← HTT.out]
  rw [HRES.out]
  have HRB : Hid (Sha.Byt (X ++ T)) := Sha.byt_append HXB.out HTB.out
  obtain ⟨A, HA1, HA2, HA3⟩ : ∃ A : Array Value, Hid (A = (T.map (Value.int .u8)).toArray) ∧ Hid (A.size = 32) ∧ Hid (A.all (·.oneCell') = true) :=
    ⟨_, rfl, by show _ = _; simp [HTL.out], all_oneCell_toArray (bytes_one _)⟩
  have hb0 : w.cell? ⟨g, 0, none⟩ = some (.pointer (some ⟨c, 0, none⟩)) := HG1.out.first
  clear he hn he2 hn2
  go_enter Tryd.func73, Tryd.ntmps73
  go_wp2_with (first
    | (go_at_call 75; refine (HE.out _).mono ?_; rintro e1 w1 ⟨rfl, rfl⟩; clear HE)
    | (go_at_call 75; refine (HN.out _).mono ?_; rintro e2 w2 ⟨rfl, rfl⟩; clear HN)
    | (go_at_call 78; refine (HXR.out _ (Below.refl _ _)).mono ?_; rintro e3 w3 ⟨q3, c3, rfl, HGOT⟩; have B3 := Lib.hid HGOT.out.below; have BX3 := Lib.hid (bs_xor HGOT.out); have O3 := Lib.hid HGOT.out.own; clear HGOT HXR)
    | (go_at_call 77; refine (HTG.out _ q3 c3 B3.out BX3.out).mono ?_; rintro e4 w4 ⟨rfl, hb4⟩; rw [← HA1.out]; have B34 := Lib.hid hb4; clear hb4 HTG)
    | ((with_reducible refine row_store _ _ _ _ _ _ _ ?_ ?_ (heap_alloc_new _ _) (row_size Tryd.sizeSum HA2) ?_ HA3.out ?_); (exact rfl); (exact rfl); (rw [HA2.out]; rfl); intro w5 G5 ch5; rw [HA1.out] at G5; have B45 := Lib.hid (ch5.below ((Below.refl _ w4).alloc (Nat.le_refl _) _) (Nat.le_refl _)); have B35 : Hid (Below w3.heap.size w3 w5) := B34.out.trans (B45.out.mono B34.out.size); have O5 := Lib.hid (own_keepX O3.out B35.out); have BT5 := Lib.hid (bs_row (c := 32) (bat_row G5.out HTB.out) ⟨by rw [HTL.out]; exact Nat.le_refl _, by omega⟩); have B5 : Hid (Below _ _ w5) := B3.out.trans (B35.out.mono B3.out.size); clear ch5 G5)
    | (at_builtin; refine append_bts _ _ T _ _ _ _ _ 32 32 rfl rfl HTL.out BT5.out O5.out (by have := Hs.out; omega) B5.out.size ?_; intro v6 w6 ho6 hg6; have O6 := Lib.hid ho6; have B6 := Lib.hid (B5.out.grown hg6 B5.out.size (fun q hq => (O5.out.lt q hq).1)); clear ho6 hg6))
  go_ret
  exact ownsay_of O6.out HRB.out B6.out
end

/-! SeH: Contracts: Seal, whatever the numbers are; Open, where nothing may be opened. -/
section
open Go.RowKit

set_option maxRecDepth 100000 in
theorem seal_none (g : Nat) (e n : Int) (vh vl : Value) (h0 : (inR e && inR n) = false) (w : World) :
    Calls Tryd.prog 73 #[.pointer (some ⟨g, 0, none⟩), .int .i64 e, .int .i64 n, vh, vl] w fun r w' => r = .returned (.slice none 0 0) ∧ w' = w := by
  have HI : Hid (∀ y x, Calls Tryd.prog 75 #[.int .i64 y] x fun r x' => r = .returned (.bool (inR y)) ∧ x' = x) := fun y x => inRange_any y x
  by_cases he : inR e = true
  · have hn : inR n = false := by rw [he] at h0; simpa using h0
    go_enter Tryd.func73, Tryd.ntmps73
    go_wp2_with (go_at_call 75; refine (HI.out _ _).mono ?_; rintro e1 w1 ⟨rfl, rfl⟩; first | rw [he] | rw [hn])
    go_ret
    exact ⟨rfl, rfl⟩
  · have he2 : inR e = false := by simpa using he
    go_enter Tryd.func73, Tryd.ntmps73
    go_wp2_with (go_at_call 75; refine (HI.out _ _).mono ?_; rintro e1 w1 ⟨rfl, rfl⟩; rw [he2])
    go_ret
    exact ⟨rfl, rfl⟩
theorem seal_bad (K h L : List Int) (g : Nat) (e n : Int) (vh vl : Value) (h0 : (inR e && inR n) = false) (w : World) :
    Calls Tryd.prog 73 #[.pointer (some ⟨g, 0, none⟩), .int .i64 e, .int .i64 n, vh, vl] w (OwnSay (Seal.sl K e n h L) w) := by
  rw [Seal.sl_bad h0]
  refine (seal_none g e n vh vl h0 w).mono ?_
  rintro r w' ⟨rfl, rfl⟩
  exact ⟨none, 0, 0, rfl, rfl, (by unfold U8s; exact World.ownsRow_nil _ _ _ _), bs_none _, Below.refl _ _⟩
theorem seal_any (hT : TakeSaid) (K h L : List Int) (g : Nat) (e n : Int) (ph pl : Option Addr) (nh nl ch cl : Nat) (hnh : h.length = nh) (hnl : L.length = nl)
    (w : World) (hg : BoxAt w g K) (hh : Bs w ph ch h) (hl : Bs w pl cl L) (hs : nh + nl ≤ 100000) (ht : Tab w 0) :
    Calls Tryd.prog 73 #[.pointer (some ⟨g, 0, none⟩), .int .i64 e, .int .i64 n, .slice ph nh ch, .slice pl nl cl] w (OwnSay (Seal.sl K e n h L) w) := by
  cases h0 : (inR e && inR n) with
  | false => exact seal_bad K h L g e n _ _ h0 w
  | true =>
    simp only [Bool.and_eq_true] at h0
    exact seal_good hT K h L g e n ph pl nh nl ch cl hnh hnl h0.1 h0.2 w hg hh hl hs ht

/-- What Open answers, in memory of its own. -/
def OpenSay (o : Option (List Int)) (w : World) (e : Ending) (w' : World) : Prop :=
  ∃ p c m, e = .returned (.tuple #[.slice p m c, .bool o.isSome]) ∧ (o.getD []).length = m ∧ Hid (w'.ownsRow w.heap.size 5 1 (.slice p m c) m (U8s (o.getD []))) ∧ Hid (Bs w' p c (o.getD [])) ∧ Below w.heap.size w w'
theorem opensay_none {w w' : World} (hb : Below w.heap.size w w') : OpenSay none w (.returned (.tuple #[.slice none 0 0, .bool false])) w' :=
  ⟨none, 0, 0, rfl, rfl, (by unfold U8s; exact World.ownsRow_nil _ _ _ _), bs_none w', hb⟩

set_option maxRecDepth 100000 in
theorem open_bad (K h S : List Int) (g : Nat) (e n : Int) (vh : Value) (pS : Option Addr) (nS cS : Nat) (hnS : S.length = nS) (hs : nS ≤ 200000) (h0 : (inR e && inR n) = false ∨ nS < 32) (w : World) :
    Calls Tryd.prog 72 #[.pointer (some ⟨g, 0, none⟩), .int .i64 e, .int .i64 n, vh, .slice pS nS cS] w (OpenSay (Seal.op K e n h S) w) := by
  rw [show Seal.op K e n h S = none by
    rcases h0 with h1 | h1
    · exact Seal.op_bad h1 _ _ _
    · exact Seal.op_short _ _ _ _ _ (by omega)]
  have HI : Hid (∀ y x, Calls Tryd.prog 75 #[.int .i64 y] x fun r x' => r = .returned (.bool (inR y)) ∧ x' = x) := fun y x => inRange_any y x
  have fin : OpenSay none w (.returned (.tuple #[.slice none 0 0, .bool false])) w := opensay_none (Below.refl _ _)
  have hw : IntKind.i64.wrap ((nS : Int) - 32) = (nS : Int) - 32 := IntWalk.i64_in _ ⟨by omega, by omega⟩
  by_cases he : inR e = true
  · by_cases hn : inR n = true
    · have hlt : (nS : Int) - 32 < 0 := by
        rcases h0 with h1 | h1
        · rw [he, hn] at h1; cases h1
        · omega
      go_enter Tryd.func72, Tryd.ntmps72
      go_wp2_with (go_at_call 75; refine (HI.out _ _).mono ?_; rintro e1 w1 ⟨rfl, rfl⟩; first | rw [he] | rw [hn])
      go_ret2
      exact fin
    · have hn2 : inR n = false := by simpa using hn
      go_enter Tryd.func72, Tryd.ntmps72
      go_wp2_with (go_at_call 75; refine (HI.out _ _).mono ?_; rintro e1 w1 ⟨rfl, rfl⟩; first | rw [he] | rw [hn2])
      go_ret2
      exact fin
  · have he2 : inR e = false := by simpa using he
    go_enter Tryd.func72, Tryd.ntmps72
    go_wp2_with (go_at_call 75; refine (HI.out _ _).mono ?_; rintro e1 w1 ⟨rfl, rfl⟩; rw [he2])
    go_ret2
    exact fin
end

/-! SeI: Contract: Open. -/
section
open Go.RowKit

theorem opensay_some {K : List Int} {e n : Int} {X : List Int} {w x w' : World} {q : Option Addr} {cq k : Nat} (hX : X.length = k) (hb : Below w.heap.size w x) (h : XorGot X (Seal.ct K e n X) x q cq w') : OpenSay (some (Seal.ct K e n X)) w (.returned (.tuple #[.slice q k cq, .bool true])) w' := by
  subst hX
  refine ⟨q, cq, X.length, rfl, Seal.ct_len _ _ _ _, ?_, bs_xor h, hb.trans (h.below.mono hb.size)⟩
  show World.ownsRow _ _ _ _ _ _ _
  have ho := h.own
  refine ⟨ho.1, ?_⟩
  rcases ho.2 with h1 | ⟨g, cap, cur, h1, h2, h3⟩
  · exact Or.inl h1
  · exact Or.inr ⟨g, cap, cur, h1, Nat.le_trans hb.size h2, h3⟩

set_option maxHeartbeats 4000000 in
set_option maxRecDepth 100000 in
theorem open_good (hT : TakeSaid) (K h S : List Int) (g : Nat) (e n : Int) (ph : Option Addr) (ab ao nh nS ch cS k : Nat) (hnh : h.length = nh) (hnS : S.length = nS) (hk : nS = k + 32) (he : inR e = true) (hn : inR n = true)
    (w : World) (hg : BoxAt w g K) (hh : Bs w ph ch h) (hS : Bs w (some ⟨ab, ao, none⟩) cS S) (hs : nh + nS ≤ 200000) (ht : Tab w 0) :
    Calls Tryd.prog 72 #[.pointer (some ⟨g, 0, none⟩), .int .i64 e, .int .i64 n, .slice ph nh ch, .slice (some ⟨ab, ao, none⟩) nS cS] w (OpenSay (Seal.op K e n h S) w) := by
  subst hnh
  obtain ⟨c, hg1, hg2⟩ := hg
  have HT := Lib.hid hT; clear hT
  have Ht := Lib.hid ht; clear ht
  have HG1 := Lib.hid hg1; clear hg1
  have HG2 := Lib.hid hg2; clear hg2
  have Hh := Lib.hid hh; clear hh
  have HSS := Lib.hid hS; clear hS
  have Hs := Lib.hid hs; clear hs
  have HnS := Lib.hid hnS; clear hnS
  have he2 : 0 ≤ e ∧ e ≤ 1099511627776 := by unfold inR at he; simpa using he
  have hn2 : 0 ≤ n ∧ n ≤ 1099511627776 := by unfold inR at hn; simpa using hn
  have HE : Hid (∀ x, Calls Tryd.prog 75 #[.int .i64 e] x fun r x' => r = .returned (.bool true) ∧ x = x') := fun x => by have h := inRange_any e x; rw [he] at h; exact h.mono fun _ _ q => ⟨q.1, q.2.symm⟩
  have HN : Hid (∀ x, Calls Tryd.prog 75 #[.int .i64 n] x fun r x' => r = .returned (.bool true) ∧ x = x') := fun x => by have h := inRange_any n x; rw [hn] at h; exact h.mono fun _ _ q => ⟨q.1, q.2.symm⟩
  obtain ⟨X, HX⟩ : ∃ X, Hid (X = S.take k) := ⟨_, rfl⟩
  have HXL : Hid (X.length = k) := by show _ = _; rw [HX.out, List.length_take]; have := HnS.out; omega
  obtain ⟨G, HGT⟩ : ∃ G, Hid (G = S.drop k) := ⟨_, rfl⟩
  have HGL : Hid (G.length = 32) := by show _ = _; rw [HGT.out, List.length_drop]; have := HnS.out; omega
  have HGB : Hid (Sha.Byt G) := by show Sha.Byt G; rw [HGT.out]; exact fun x hx => HSS.out.byt x (List.mem_of_mem_drop hx)
  have HXB : Hid (Sha.Byt X) := by show Sha.Byt X; rw [HX.out]; exact fun x hx => HSS.out.byt x (List.mem_of_mem_take hx)
  have HBX : Hid (Bs w (some ⟨ab, ao, none⟩) cS X) := ⟨by rw [HX.out]; exact HSS.out.bat.take k, ⟨by have := HSS.out.cap; have := HXL.out; have := HnS.out; omega, HSS.out.cap.2⟩, fun h => by cases h⟩
  have HXR : Hid (∀ x, Below w.heap.size w x → Calls Tryd.prog 78 #[.pointer (some ⟨c, 0, none⟩), .int .i64 e, .int .i64 n, .slice (some ⟨ab, ao, none⟩) k cS] x fun r x' => ∃ q cq, r = .returned (.slice q k cq) ∧ Hid (XorGot X (Seal.ct K e n X) x q cq x')) := fun x hx => by
    unfold Seal.ct
    exact xor_key (Seal.ks_len K) (by omega) c e n X k HXL.out (some ⟨ab, ao, none⟩) cS (by have := Hs.out; omega) (fun h => by cases h) x (HBX.out.old hx).bat (HG2.out.below hx (Nat.le_refl _))
  obtain ⟨T, HTT⟩ : ∃ T, Hid (T = Seal.tg K e n h X) := ⟨_, rfl⟩
  have HTL : Hid (T.length = 32) := by show _ = _; rw [HTT.out, Seal.tg_len]
  have HTB : Hid (Sha.Byt T) := by show Sha.Byt T; rw [HTT.out]; exact Seal.tg_byt _ _ _ _ _
  have HTG : Hid (∀ x, Below w.heap.size w x → Calls Tryd.prog 77 #[.pointer (some ⟨g, 0, none⟩), .int .i64 e, .int .i64 n, .slice ph h.length ch, .slice (some ⟨ab, ao, none⟩) k cS] x (RowSay T x)) := fun x hx => by
    have h1 := tag_any HT.out (Seal.k2 K) (Seal.k2_len K) (Seal.k2_byt K) g c e n (by omega) (by omega) h X ph (some ⟨ab, ao, none⟩) h.length k ch cS rfl HXL.out x (HG1.out.old hx) (Hh.out.old hx) (HBX.out.old hx) (by have := Hs.out; omega) (Ht.out.below hx Ht.out.lt)
    rw [HTT.out]
    unfold Seal.tg
    exact h1
  have HOP : Hid (Seal.op K e n h S = if decide (G = T) then some (Seal.ct K e n X) else none) := by
    show _ = _
    unfold Seal.op
    rw [HnS.out, show nS - 32 = k by omega, ← HX.out, ← HGT.out, ← HTT.out, he, hn, show decide (32 ≤ nS) = true by simp; omega]
    simp
  rw [HOP.out]
  obtain ⟨AG, HAG1, HAG2, HAG3⟩ : ∃ A : Array Value, Hid (A = (G.map (Value.int .u8)).toArray) ∧ Hid (A.size = 32) ∧ Hid (A.all (·.oneCell') = true) :=
    ⟨_, rfl, by show _ = _; simp [HGL.out], all_oneCell_toArray (bytes_one _)⟩
  obtain ⟨AT, HAT⟩ : ∃ A : Array Value, Hid (A = (T.map (Value.int .u8)).toArray) := ⟨_, rfl⟩
  have HSM : Hid (∀ x, Calls Tryd.prog 76 #[.agg AG, .agg AT] x fun r x' => r = .returned (.bool (decide (G = T))) ∧ Below x.heap.size x x') := fun x => by
    rw [HAG1.out, HAT.out]
    exact Same.same_sums G T HGL.out HTL.out HGB.out HTB.out x
  have HRG : Hid (∀ x, Below w.heap.size w x → x.rangeAt ab (ao + k) AG.toList) := fun x hx j v hv => by
    obtain ⟨ab', ao', h1, h2⟩ := (HSS.out.old hx).bat.2 (by have := HnS.out; omega)
    cases h1
    rw [HAG1.out, HGT.out] at hv
    have hj : j < 32 := by
      have := (List.getElem?_eq_some_iff.1 hv).1
      simp at this
      have := HnS.out
      omega
    rw [Nat.add_assoc, h2 (k + j) (by have := HnS.out; omega)]
    have hv2 : (S.drop k)[j]?.map (Value.int .u8) = some v := by simpa using hv
    rw [List.getElem?_drop] at hv2
    rw [List.getD_eq_getElem?_getD]
    cases hq : S[k + j]? with
    | none => rw [hq] at hv2; cases hv2
    | some y => rw [hq] at hv2; simpa using hv2
  have hb0 : w.cell? ⟨g, 0, none⟩ = some (.pointer (some ⟨c, 0, none⟩)) := HG1.out.first
  have HB0 : Hid (∀ x, Below w.heap.size w x → x.cell? ⟨g, 0, none⟩ = some (.pointer (some ⟨c, 0, none⟩))) := fun x hx => (HG1.out.old hx).first
  have hcap := HSS.out.cap
  have hkk : k ≤ 200000 := by have := Hs.out; omega
  rw [HnS.out] at hcap
  generalize decide (G = T) = b at *
  clear he hn he2 hn2 HOP
  have hw0 : IntKind.i64.wrap ((nS : Int) - 32) = (nS : Int) - 32 := IntWalk.i64_in _ ⟨by omega, by omega⟩
  have hw1 : (nS : Int) - 32 = (k : Int) := by omega
  have hw2 : ¬ ((k : Int) < 0) := by omega
  go_enter Tryd.func72, Tryd.ntmps72
  go_upto_region 4 with (first
    | (go_at_call 75; refine (HE.out _).mono ?_; rintro e1 w1 ⟨rfl, rfl⟩; clear HE)
    | (go_at_call 75; refine (HN.out _).mono ?_; rintro e2 w2 ⟨rfl, rfl⟩; clear HN))
  refine wp_region_any (by kernel_rfl) ?_
  change wpAny _ _ _ _ _ _ _ (World.drew _)
  have B1 : Hid (Below w.heap.size w w.drew) := (Below.refl _ w).drew
  obtain ⟨w1, hw1e⟩ : ∃ x, x = w.drew := ⟨_, rfl⟩
  rw [← hw1e] at B1 ⊢
  clear hw1e
  have hnk : k + 32 - k = 32 := by omega
  have hkc : k ≤ cS := by omega
  have hck : ¬ (cS - k = 0) := by omega
  have hck2 : ¬ (cS = k) := by omega
  have hle : (k : Int) ≤ (k : Int) + 32 := by omega
  have hat : ∀ w, (Instr.arrayAt 51 (.slice (some ⟨ab, ao + k, none⟩) 32 (cS - k))).run Tryd.prog w = .ok (.pointer (some ⟨ab, ao + k, none⟩)) w := fun w => run_arrayAt _ _ _ 32 _ 32 _ Tryd.underlying51 (Nat.le_refl _)
  refine any_take_g 0 30 (.slice (some ⟨ab, ao, none⟩) (k + 32) cS) rfl (by kernel_rfl) (by kernel_rfl) (by kernel_rfl) (fun _ _ _ h => h) (by rfl) (by intro w; go_simp) ?_
  try simp only [Act.put, List.setIfInBounds_toArray, List.set_cons_zero, List.set_cons_succ]
  refine any_take_g 1 31 (.int .i64 (k : Int)) rfl (by kernel_rfl) (by kernel_rfl) (by kernel_rfl) (fun _ _ _ h => h) (by rfl) (by intro w; go_simp) ?_
  try simp only [Act.put, List.setIfInBounds_toArray, List.set_cons_zero, List.set_cons_succ]
  refine any_take_g 2 32 (.slice (some ⟨ab, ao, none⟩) k cS) rfl (by kernel_rfl) (by kernel_rfl) (by kernel_rfl) (fun _ _ _ h => h) (by rfl) (by intro w; go_simp) ?_
  try simp only [Act.put, List.setIfInBounds_toArray, List.set_cons_zero, List.set_cons_succ]
  refine any_take_g 3 33 (.slice (some ⟨ab, ao, none⟩) (k + 32) cS) rfl (by kernel_rfl) (by kernel_rfl) (by kernel_rfl) (fun _ _ _ h => h) (by rfl) (by intro w; go_simp) ?_
  try simp only [Act.put, List.setIfInBounds_toArray, List.set_cons_zero, List.set_cons_succ]
  refine any_take_g 4 34 (.int .i64 (k : Int)) rfl (by kernel_rfl) (by kernel_rfl) (by kernel_rfl) (fun _ _ _ h => h) (by rfl) (by intro w; go_simp) ?_
  try simp only [Act.put, List.setIfInBounds_toArray, List.set_cons_zero, List.set_cons_succ]
  refine any_take_g 5 35 (.slice (some ⟨ab, ao + k, none⟩) 32 (cS - k)) rfl (by kernel_rfl) (by kernel_rfl) (by kernel_rfl) (fun _ _ _ h => h) (by rfl) (by intro w; go_simp) ?_
  try simp only [Act.put, List.setIfInBounds_toArray, List.set_cons_zero, List.set_cons_succ]
  refine any_take_g 6 36 (.pointer (some ⟨ab, ao + k, none⟩)) rfl (by kernel_rfl) (by kernel_rfl) (by kernel_rfl) (fun _ _ _ h => h) (by rfl) (by intro w; go_simp) ?_
  try simp only [Act.put, List.setIfInBounds_toArray, List.set_cons_zero, List.set_cons_succ]
  have BA1 : Hid (∀ C, Below w.heap.size w (w1.alloc C)) := fun C => B1.out.alloc B1.out.size C
  refine any_two 7 8 (by kernel_rfl) ?_ ?_
  · refine op_load 7 51 (.tmp 36) rfl ab (ao + k) AG.toList _ rfl (HRG.out _ B1.out) Tryd.underlying51 rfl (by rw [Array.length_toList]; exact row_size Tryd.sizeSum HAG2) ?_
    try simp only [Act.put, List.setIfInBounds_toArray, List.set_cons_zero, List.set_cons_succ]
    rw [Array.toArray_toList]
    refine any_one 8 (by kernel_rfl) ?_
    refine wpOp_step rfl (fun Kc hKc => ?_)
    go_simp
    refine hKc _ _ ?_
    clear hKc Kc
    try simp only [Act.put, List.setIfInBounds_toArray, List.set_cons_zero, List.set_cons_succ]
    refine any_take_g 9 13 (.slice (some ⟨ab, ao, none⟩) k cS) rfl (by kernel_rfl) (by kernel_rfl) (by kernel_rfl) (fun _ _ _ h => h) (by rfl) (by intro w; go_simp) ?_
    try simp only [Act.put, List.setIfInBounds_toArray, List.set_cons_zero, List.set_cons_succ]
    refine any_one 10 (by kernel_rfl) ?_
    refine op_store 10 51 (.tmp 14) (.tmp 37) rfl w1.heap.size 0 51 (List.replicate 32 (Value.int .u8 0)) AG rfl rfl (heap_alloc_new w1 _) (row_size Tryd.sizeSum HAG2) (by rw [HAG2.out]; simp) HAG3.out ?_
    intro w5 g5 ch5
    try simp only [Act.put, List.setIfInBounds_toArray, List.set_cons_zero, List.set_cons_succ]
    refine wpAny_done (by kernel_rfl) ?_ _
    skip
    have B5 : Hid (Below w.heap.size w w5) := ch5.below (BA1.out _) B1.out.size
    have G5 : Hid (w5.heap[w1.heap.size]? = some (.cells AG 51 (0, 0))) := by
      have h := g5.out
      have e : splice (List.replicate 32 (Value.int .u8 0)) 0 AG.toList = AG.toList := by
        unfold splice
        rw [List.take_zero, List.nil_append, Array.length_toList, HAG2.out, List.drop_of_length_le (by simp), List.append_nil]
      rw [e, Array.toArray_toList] at h
      exact h
    clear g5 ch5 BA1 B1
    generalize w1.heap.size = g1 at *
    go_upto_region 5 with (fail)
    refine wp_region_any (by kernel_rfl) ?_
    change wpAny _ _ _ _ _ _ _ (World.drew _)
    replace B5 : Hid (Below w.heap.size w w5.drew) := B5.out.drew
    replace G5 : Hid (w5.drew.heap[g1]? = some (.cells AG 51 (0, 0))) := G5.out
    generalize w5.drew = w6 at *
    refine any_take_g 1 39 (.pointer (some ⟨g, 0, none⟩)) rfl (by kernel_rfl) (by kernel_rfl) (by kernel_rfl) (fun _ _ _ h => h) (by rfl) (by intro w; go_simp) ?_
    try simp only [Act.put, List.setIfInBounds_toArray, List.set_cons_zero, List.set_cons_succ]
    refine any_take_g 2 40 (.int .i64 e) rfl (by kernel_rfl) (by kernel_rfl) (by kernel_rfl) (fun _ _ _ h => h) (by rfl) (by intro w; go_simp) ?_
    try simp only [Act.put, List.setIfInBounds_toArray, List.set_cons_zero, List.set_cons_succ]
    refine any_take_g 3 41 (.int .i64 n) rfl (by kernel_rfl) (by kernel_rfl) (by kernel_rfl) (fun _ _ _ h => h) (by rfl) (by intro w; go_simp) ?_
    try simp only [Act.put, List.setIfInBounds_toArray, List.set_cons_zero, List.set_cons_succ]
    refine any_take_g 4 42 (.slice ph h.length ch) rfl (by kernel_rfl) (by kernel_rfl) (by kernel_rfl) (fun _ _ _ h => h) (by rfl) (by intro w; go_simp) ?_
    try simp only [Act.put, List.setIfInBounds_toArray, List.set_cons_zero, List.set_cons_succ]
    refine any_take_g 5 43 (.slice (some ⟨ab, ao, none⟩) k cS) rfl (by kernel_rfl) (by kernel_rfl) (by kernel_rfl) (fun _ _ _ h => h) (by rfl) (by intro w; go_simp) ?_
    try simp only [Act.put, List.setIfInBounds_toArray, List.set_cons_zero, List.set_cons_succ]
    refine any_two 0 6 (by kernel_rfl) ?_ ?_
    · refine op_load 0 51 (.tmp 14) rfl g1 0 AG.toList _ rfl (row_range' G5.out) Tryd.underlying51 rfl (by rw [Array.length_toList]; exact row_size Tryd.sizeSum HAG2) ?_
      try simp only [Act.put, List.setIfInBounds_toArray, List.set_cons_zero, List.set_cons_succ]
      rw [Array.toArray_toList]
      refine any_one 6 (by kernel_rfl) ?_
      refine wpOp_step rfl (fun Kc hKc => ?_)
      go_simp
      refine (HTG.out _ B5.out).mono ?_
      rintro e7 w7 ⟨rfl, hb7⟩
      rw [← HAT.out]
      have B7 : Hid (Below w.heap.size w w7) := B5.out.trans (hb7.mono B5.out.size)
      have G7 : Hid (w7.heap[g1]? = some (.cells AG 51 (0, 0))) := (hb7.block _ (lt_of_block G5.out)).trans G5.out
      clear hb7
      dsimp only
      refine hKc _ _ ?_
      clear hKc Kc
      try simp only [Act.put, List.setIfInBounds_toArray, List.set_cons_zero, List.set_cons_succ]
      refine any_one 7 (by kernel_rfl) ?_
      refine wpOp_step rfl (fun Kc hKc => ?_)
      go_simp
      refine (HSM.out _).mono ?_
      rintro e8 w8 ⟨rfl, hb8⟩
      have B8 : Hid (Below w.heap.size w w8) := B7.out.trans (hb8.mono B7.out.size)
      clear hb8
      dsimp only
      refine hKc _ _ ?_
      clear hKc Kc
      try simp only [Act.put, List.setIfInBounds_toArray, List.set_cons_zero, List.set_cons_succ]
      refine any_take_g 8 46 (.bool (!b)) rfl (by kernel_rfl) (by kernel_rfl) (by kernel_rfl) (fun _ _ _ h => h) (by rfl) (by intro w; go_simp) ?_
      try simp only [Act.put, List.setIfInBounds_toArray, List.set_cons_zero, List.set_cons_succ]
      refine wpAny_done (by kernel_rfl) ?_ _
      have hb8c := HB0.out _ B8.out
      cases b with
      | false =>
        go_wp2
        go_ret2
        exact opensay_none B8.out
      | true =>
        go_wp2_with (go_at_call 78; refine (HXR.out _ B8.out).mono ?_; rintro e9 w9 ⟨q9, c9, rfl, HGOT⟩)
        go_ret2
        exact opensay_some HXL.out B8.out HGOT.out
    · refine wpOp_step rfl (fun Kc hKc => ?_)
      go_simp
      refine (HTG.out _ B5.out).mono ?_
      rintro e7 w7 ⟨rfl, hb7⟩
      rw [← HAT.out]
      have B7 : Hid (Below w.heap.size w w7) := B5.out.trans (hb7.mono B5.out.size)
      have G7 : Hid (w7.heap[g1]? = some (.cells AG 51 (0, 0))) := (hb7.block _ (lt_of_block G5.out)).trans G5.out
      clear hb7
      dsimp only
      refine hKc _ _ ?_
      clear hKc Kc
      try simp only [Act.put, List.setIfInBounds_toArray, List.set_cons_zero, List.set_cons_succ]
      refine any_one 0 (by kernel_rfl) ?_
      refine op_load 0 51 (.tmp 14) rfl g1 0 AG.toList _ rfl (row_range' G7.out) Tryd.underlying51 rfl (by rw [Array.length_toList]; exact row_size Tryd.sizeSum HAG2) ?_
      try simp only [Act.put, List.setIfInBounds_toArray, List.set_cons_zero, List.set_cons_succ]
      rw [Array.toArray_toList]
      refine any_one 7 (by kernel_rfl) ?_
      refine wpOp_step rfl (fun Kc hKc => ?_)
      go_simp
      refine (HSM.out _).mono ?_
      rintro e8 w8 ⟨rfl, hb8⟩
      have B8 : Hid (Below w.heap.size w w8) := B7.out.trans (hb8.mono B7.out.size)
      clear hb8
      dsimp only
      refine hKc _ _ ?_
      clear hKc Kc
      try simp only [Act.put, List.setIfInBounds_toArray, List.set_cons_zero, List.set_cons_succ]
      refine any_take_g 8 46 (.bool (!b)) rfl (by kernel_rfl) (by kernel_rfl) (by kernel_rfl) (fun _ _ _ h => h) (by rfl) (by intro w; go_simp) ?_
      try simp only [Act.put, List.setIfInBounds_toArray, List.set_cons_zero, List.set_cons_succ]
      refine wpAny_done (by kernel_rfl) ?_ _
      have hb8c := HB0.out _ B8.out
      cases b with
      | false =>
        go_wp2
        go_ret2
        exact opensay_none B8.out
      | true =>
        go_wp2_with (go_at_call 78; refine (HXR.out _ B8.out).mono ?_; rintro e9 w9 ⟨q9, c9, rfl, HGOT⟩)
        go_ret2
        exact opensay_some HXL.out B8.out HGOT.out
  · refine wpOp_step rfl (fun Kc hKc => ?_)
    go_simp
    refine hKc _ _ ?_
    clear hKc Kc
    try simp only [Act.put, List.setIfInBounds_toArray, List.set_cons_zero, List.set_cons_succ]
    refine any_take_g 9 13 (.slice (some ⟨ab, ao, none⟩) k cS) rfl (by kernel_rfl) (by kernel_rfl) (by kernel_rfl) (fun _ _ _ h => h) (by rfl) (by intro w; go_simp) ?_
    try simp only [Act.put, List.setIfInBounds_toArray, List.set_cons_zero, List.set_cons_succ]
    refine any_one 7 (by kernel_rfl) ?_
    refine op_load 7 51 (.tmp 36) rfl ab (ao + k) AG.toList _ rfl (HRG.out _ (BA1.out _)) Tryd.underlying51 rfl (by rw [Array.length_toList]; exact row_size Tryd.sizeSum HAG2) ?_
    try simp only [Act.put, List.setIfInBounds_toArray, List.set_cons_zero, List.set_cons_succ]
    rw [Array.toArray_toList]
    refine any_one 10 (by kernel_rfl) ?_
    refine op_store 10 51 (.tmp 14) (.tmp 37) rfl w1.heap.size 0 51 (List.replicate 32 (Value.int .u8 0)) AG rfl rfl (heap_alloc_new w1 _) (row_size Tryd.sizeSum HAG2) (by rw [HAG2.out]; simp) HAG3.out ?_
    intro w5 g5 ch5
    try simp only [Act.put, List.setIfInBounds_toArray, List.set_cons_zero, List.set_cons_succ]
    refine wpAny_done (by kernel_rfl) ?_ _
    have B5 : Hid (Below w.heap.size w w5) := ch5.below (BA1.out _) B1.out.size
    have G5 : Hid (w5.heap[w1.heap.size]? = some (.cells AG 51 (0, 0))) := by
      have h := g5.out
      have e : splice (List.replicate 32 (Value.int .u8 0)) 0 AG.toList = AG.toList := by
        unfold splice
        rw [List.take_zero, List.nil_append, Array.length_toList, HAG2.out, List.drop_of_length_le (by simp), List.append_nil]
      rw [e, Array.toArray_toList] at h
      exact h
    clear g5 ch5 BA1 B1
    generalize w1.heap.size = g1 at *
    go_upto_region 5 with (fail)
    refine wp_region_any (by kernel_rfl) ?_
    change wpAny _ _ _ _ _ _ _ (World.drew _)
    replace B5 : Hid (Below w.heap.size w w5.drew) := B5.out.drew
    replace G5 : Hid (w5.drew.heap[g1]? = some (.cells AG 51 (0, 0))) := G5.out
    generalize w5.drew = w6 at *
    refine any_take_g 1 39 (.pointer (some ⟨g, 0, none⟩)) rfl (by kernel_rfl) (by kernel_rfl) (by kernel_rfl) (fun _ _ _ h => h) (by rfl) (by intro w; go_simp) ?_
    try simp only [Act.put, List.setIfInBounds_toArray, List.set_cons_zero, List.set_cons_succ]
    refine any_take_g 2 40 (.int .i64 e) rfl (by kernel_rfl) (by kernel_rfl) (by kernel_rfl) (fun _ _ _ h => h) (by rfl) (by intro w; go_simp) ?_
    try simp only [Act.put, List.setIfInBounds_toArray, List.set_cons_zero, List.set_cons_succ]
    refine any_take_g 3 41 (.int .i64 n) rfl (by kernel_rfl) (by kernel_rfl) (by kernel_rfl) (fun _ _ _ h => h) (by rfl) (by intro w; go_simp) ?_
    try simp only [Act.put, List.setIfInBounds_toArray, List.set_cons_zero, List.set_cons_succ]
    refine any_take_g 4 42 (.slice ph h.length ch) rfl (by kernel_rfl) (by kernel_rfl) (by kernel_rfl) (fun _ _ _ h => h) (by rfl) (by intro w; go_simp) ?_
    try simp only [Act.put, List.setIfInBounds_toArray, List.set_cons_zero, List.set_cons_succ]
    refine any_take_g 5 43 (.slice (some ⟨ab, ao, none⟩) k cS) rfl (by kernel_rfl) (by kernel_rfl) (by kernel_rfl) (fun _ _ _ h => h) (by rfl) (by intro w; go_simp) ?_
    try simp only [Act.put, List.setIfInBounds_toArray, List.set_cons_zero, List.set_cons_succ]
    refine any_two 0 6 (by kernel_rfl) ?_ ?_
    · refine op_load 0 51 (.tmp 14) rfl g1 0 AG.toList _ rfl (row_range' G5.out) Tryd.underlying51 rfl (by rw [Array.length_toList]; exact row_size Tryd.sizeSum HAG2) ?_
      try simp only [Act.put, List.setIfInBounds_toArray, List.set_cons_zero, List.set_cons_succ]
      rw [Array.toArray_toList]
      refine any_one 6 (by kernel_rfl) ?_
      refine wpOp_step rfl (fun Kc hKc => ?_)
      go_simp
      refine (HTG.out _ B5.out).mono ?_
      rintro e7 w7 ⟨rfl, hb7⟩
      rw [← HAT.out]
      have B7 : Hid (Below w.heap.size w w7) := B5.out.trans (hb7.mono B5.out.size)
      have G7 : Hid (w7.heap[g1]? = some (.cells AG 51 (0, 0))) := (hb7.block _ (lt_of_block G5.out)).trans G5.out
      clear hb7
      dsimp only
      refine hKc _ _ ?_
      clear hKc Kc
      try simp only [Act.put, List.setIfInBounds_toArray, List.set_cons_zero, List.set_cons_succ]
      refine any_one 7 (by kernel_rfl) ?_
      refine wpOp_step rfl (fun Kc hKc => ?_)
      go_simp
      refine (HSM.out _).mono ?_
      rintro e8 w8 ⟨rfl, hb8⟩
      have B8 : Hid (Below w.heap.size w w8) := B7.out.trans (hb8.mono B7.out.size)
      clear hb8
      dsimp only
      refine hKc _ _ ?_
      clear hKc Kc
      try simp only [Act.put, List.setIfInBounds_toArray, List.set_cons_zero, List.set_cons_succ]
      refine any_take_g 8 46 (.bool (!b)) rfl (by kernel_rfl) (by kernel_rfl) (by kernel_rfl) (fun _ _ _ h => h) (by rfl) (by intro w; go_simp) ?_
      try simp only [Act.put, List.setIfInBounds_toArray, List.set_cons_zero, List.set_cons_succ]
      refine wpAny_done (by kernel_rfl) ?_ _
      have hb8c := HB0.out _ B8.out
      cases b with
      | false =>
        go_wp2
        go_ret2
        exact opensay_none B8.out
      | true =>
        go_wp2_with (go_at_call 78; refine (HXR.out _ B8.out).mono ?_; rintro e9 w9 ⟨q9, c9, rfl, HGOT⟩)
        go_ret2
        exact opensay_some HXL.out B8.out HGOT.out
    · refine wpOp_step rfl (fun Kc hKc => ?_)
      go_simp
      refine (HTG.out _ B5.out).mono ?_
      rintro e7 w7 ⟨rfl, hb7⟩
      rw [← HAT.out]
      have B7 : Hid (Below w.heap.size w w7) := B5.out.trans (hb7.mono B5.out.size)
      have G7 : Hid (w7.heap[g1]? = some (.cells AG 51 (0, 0))) := (hb7.block _ (lt_of_block G5.out)).trans G5.out
      clear hb7
      dsimp only
      refine hKc _ _ ?_
      clear hKc Kc
      try simp only [Act.put, List.setIfInBounds_toArray, List.set_cons_zero, List.set_cons_succ]
      refine any_one 0 (by kernel_rfl) ?_
      refine op_load 0 51 (.tmp 14) rfl g1 0 AG.toList _ rfl (row_range' G7.out) Tryd.underlying51 rfl (by rw [Array.length_toList]; exact row_size Tryd.sizeSum HAG2) ?_
      try simp only [Act.put, List.setIfInBounds_toArray, List.set_cons_zero, List.set_cons_succ]
      rw [Array.toArray_toList]
      refine any_one 7 (by kernel_rfl) ?_
      refine wpOp_step rfl (fun Kc hKc => ?_)
      go_simp
      refine (HSM.out _).mono ?_
      rintro e8 w8 ⟨rfl, hb8⟩
      have B8 : Hid (Below w.heap.size w w8) := B7.out.trans (hb8.mono B7.out.size)
      clear hb8
      dsimp only
      refine hKc _ _ ?_
      clear hKc Kc
      try simp only [Act.put, List.setIfInBounds_toArray, List.set_cons_zero, List.set_cons_succ]
      refine any_take_g 8 46 (.bool (!b)) rfl (by kernel_rfl) (by kernel_rfl) (by kernel_rfl) (fun _ _ _ h => h) (by rfl) (by intro w; go_simp) ?_
      try simp only [Act.put, List.setIfInBounds_toArray, List.set_cons_zero, List.set_cons_succ]
      refine wpAny_done (by kernel_rfl) ?_ _
      have hb8c := HB0.out _ B8.out
      cases b with
      | false =>
        go_wp2
        go_ret2
        exact opensay_none B8.out
      | true =>
        go_wp2_with (go_at_call 78; refine (HXR.out _ B8.out).mono ?_; rintro e9 w9 ⟨q9, c9, rfl, HGOT⟩)
        go_ret2
        exact opensay_some HXL.out B8.out HGOT.out
end

/-! SeJ0: A box by way of the interface: its methods. -/
section
open Go.RowKit
set_option maxRecDepth 100000 in
theorem meth_seal (v : Value) (w : World) : (method 241 26 v "Seal").run Tryd.prog w = .ok (73, v) w := by kernel_rfl
set_option maxRecDepth 100000 in
theorem meth_open (v : Value) (w : World) : (method 241 26 v "Open").run Tryd.prog w = .ok (72, v) w := by kernel_rfl
end

/-! SeJ: Contracts: Open, whatever is opened; rilllaw05.known. -/
section
open Go.RowKit

theorem open_any (hT : TakeSaid) (K h S : List Int) (g : Nat) (e n : Int) (ph pS : Option Addr) (nh nS ch cS : Nat) (hnh : h.length = nh) (hnS : S.length = nS)
    (w : World) (hg : BoxAt w g K) (hh : Bs w ph ch h) (hS : Bs w pS cS S) (hs : nh + nS ≤ 200000) (ht : Tab w 0) :
    Calls Tryd.prog 72 #[.pointer (some ⟨g, 0, none⟩), .int .i64 e, .int .i64 n, .slice ph nh ch, .slice pS nS cS] w (OpenSay (Seal.op K e n h S) w) := by
  by_cases hl : nS < 32
  · exact open_bad K h S g e n _ pS nS cS hnS (by omega) (Or.inr hl) w
  · cases h0 : (inR e && inR n) with
    | false => exact open_bad K h S g e n _ pS nS cS hnS (by omega) (Or.inl h0) w
    | true =>
      simp only [Bool.and_eq_true] at h0
      obtain ⟨ab, ao, rfl, _⟩ := hS.bat.2 (by omega)
      exact open_good hT K h S g e n ph ab ao nh nS ch cS (nS - 32) hnh hnS (by omega) h0.1 h0.2 w hg hh hS hs ht

namespace Seal
def keyL : List Int := [107, 101, 121]
def headL : List Int := [104, 101, 97, 100]
def plainL : List Int := [112, 108, 97, 105, 110]
theorem keyB : Sha.Byt keyL := fun x hx => by simp [keyL] at hx; omega
theorem headB : Sha.Byt headL := fun x hx => by simp [headL] at hx; omega
theorem plainB : Sha.Byt plainL := fun x hx => by simp [plainL] at hx; omega
end Seal
/-- Rows of literals, as they are read. -/
theorem lit_one (x : World) (l : List Int) (n : Nat) (fr : Nat × Nat) (hl : l.length = n) (hn : n ≤ 1000) (hb : Sha.Byt l) : Bs (x.alloc (.cells (l.map (Value.int .u8)).toArray 5 fr)) (some ⟨x.heap.size, 0, none⟩) n l :=
  bs_row (bat_row (heap_alloc_new x _) hb) ⟨by omega, by omega⟩
theorem lit_two (x : World) (l : List Int) (n : Nat) (fr : Nat × Nat) (hl : l.length = n) (hn : n ≤ 1000) (hb : Sha.Byt l) (O : Obj) : Bs ((x.alloc O).alloc (.cells (l.map (Value.int .u8)).toArray 5 fr)) (some ⟨x.heap.size + 1, 0, none⟩) n l := by
  have h := lit_one (x.alloc O) l n fr hl hn hb
  rw [show (x.alloc O).heap.size = x.heap.size + 1 by simp] at h
  exact h
theorem below_two (x : World) (O O' : Obj) : Below x.heap.size x ((x.alloc O).alloc O') := ((Below.refl _ x).alloc (Nat.le_refl _) _).alloc (by simp) _
def lit3 : Obj := .cells #[.int .u8 107, .int .u8 101, .int .u8 121] 5 (3, 4)
def lit4 : Obj := .cells #[.int .u8 104, .int .u8 101, .int .u8 97, .int .u8 100] 5 (4, 5)
def lit5 : Obj := .cells #[.int .u8 112, .int .u8 108, .int .u8 97, .int .u8 105, .int .u8 110] 5 (5, 6)
end
end Go.Proofs.YtkjfhbmdogmecaaDoor
