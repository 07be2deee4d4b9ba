/-
  What is sealed and opened, in plain lists; contract: Seal.
-/
import Derived.Test.YtkhaiiiioieglaaDoorSeF
namespace Go.Proofs.YtkhaiiiioieglaaDoor
open Go.RowKit

namespace Seal
/-- Bytes turned under a key, an epoch and a number. -/
def ct (K : List Int) (e n : Int) (L : List Int) : List Int := Ctr.xs (StreamOf (ks K) 9 e n) L
theorem ct_len (K : List Int) (e n : Int) (L : List Int) : (ct K e n L).length = L.length := Ctr.xs_len _ _
theorem ct_byt (K : List Int) (e n : Int) (L : List Int) : Sha.Byt (ct K e n L) := Ctr.xs_byt _ _
theorem ct_ct (K : List Int) (e n : Int) (L : List Int) (h : Sha.Byt L) : ct K e n (ct K e n L) = L := xs_xs _ L h (fun _ _ => stream_byt _ _ _ _ _ _)
theorem ct_nil (K : List Int) (e n : Int) : ct K e n [] = [] := List.eq_nil_of_length_eq_zero (by rw [ct_len]; rfl)
/-- The tag of turned bytes. -/
def tg (K : List Int) (e n : Int) (h t : List Int) : List Int := hm (k2 K) (tin h e n t)
theorem tg_len (K : List Int) (e n : Int) (h t : List Int) : (tg K e n h t).length = 32 := hm_len _ _
theorem tg_byt (K : List Int) (e n : Int) (h t : List Int) : Sha.Byt (tg K e n h t) := hm_byt _ _
attribute [irreducible] ct tg
/-- What Seal answers. -/
def sl (K : List Int) (e n : Int) (h L : List Int) : List Int := if inR e && inR n then ct K e n L ++ tg K e n h (ct K e n L) else []
/-- What Open tells, if anything. -/
def op (K : List Int) (e n : Int) (h S : List Int) : Option (List Int) :=
  if inR e && inR n && decide (32 ≤ S.length) && decide (S.drop (S.length - 32) = tg K e n h (S.take (S.length - 32))) then some (ct K e n (S.take (S.length - 32))) else none
theorem sl_good {e n : Int} (he : inR e = true) (hn : inR n = true) (K h L : List Int) : sl K e n h L = ct K e n L ++ tg K e n h (ct K e n L) := by unfold sl; rw [he, hn]; rfl
theorem sl_bad {e n : Int} (h0 : (inR e && inR n) = false) (K h L : List Int) : sl K e n h L = [] := by unfold sl; rw [h0]; rfl
theorem sl_len {e n : Int} (he : inR e = true) (hn : inR n = true) (K h L : List Int) : (sl K e n h L).length = L.length + 32 := by rw [sl_good he hn, List.length_append, ct_len, tg_len]
theorem sl_byt (K : List Int) (e n : Int) (h L : List Int) : Sha.Byt (sl K e n h L) := by
  unfold sl
  split
  · exact Sha.byt_append (ct_byt _ _ _ _) (tg_byt _ _ _ _ _)
  · exact fun x hx => by simp at hx
theorem op_byt {K : List Int} {e n : Int} {h S p : List Int} (ho : op K e n h S = some p) : Sha.Byt p := by
  unfold op at ho
  split at ho
  · injection ho with h1
    rw [← h1]
    exact ct_byt _ _ _ _
  · cases ho
theorem op_sl {e n : Int} (he : inR e = true) (hn : inR n = true) (K h L : List Int) (hL : Sha.Byt L) : op K e n h (sl K e n h L) = some L := by
  have hl := sl_len he hn K h L
  have e1 : (sl K e n h L).take L.length = ct K e n L := by
    rw [sl_good he hn, List.take_left' (ct_len _ _ _ _)]
  have e2 : (sl K e n h L).drop L.length = tg K e n h (ct K e n L) := by
    rw [sl_good he hn, List.drop_left' (ct_len _ _ _ _)]
  unfold op
  rw [hl, show L.length + 32 - 32 = L.length by omega, e1, e2, he, hn, ct_ct K e n L hL]
  simp
theorem op_bad {e n : Int} (h0 : (inR e && inR n) = false) (K h S : List Int) : op K e n h S = none := by unfold op; rw [h0]; rfl
theorem op_short (K : List Int) (e n : Int) (h S : List Int) (hS : S.length < 32) : op K e n h S = none := by
  unfold op
  rw [show decide (32 ≤ S.length) = false by simp; omega]
  simp
/-- What is opened, sealed again, is just that. -/
theorem sl_op {K : List Int} {e n : Int} {h S p : List Int} (hS : Sha.Byt S) (ho : op K e n h S = some p) : sl K e n h p = S ∧ S.length = p.length + 32 := by
  unfold op at ho
  split at ho
  · rename_i hc
    simp only [Bool.and_eq_true, decide_eq_true_eq] at hc
    obtain ⟨⟨⟨he, hn⟩, hl⟩, ht⟩ := hc
    injection ho with h1
    have hb : Sha.Byt (S.take (S.length - 32)) := fun x hx => hS x (List.mem_of_mem_take hx)
    have h2 : ct K e n p = S.take (S.length - 32) := by rw [← h1, ct_ct K e n _ hb]
    refine ⟨?_, ?_⟩
    · rw [sl_good he hn, h2, ← ht, List.take_append_drop]
    · rw [← h1, ct_len, List.length_take]; omega
  · cases ho
end Seal

theorem bs_xor {L X : List Int} {w w' : World} {q : Option Addr} {cq : Nat} (h : XorGot L X w q cq w') : Bs w' q cq X := ⟨h.bat, by rw [h.len]; exact h.cap, h.none⟩

/-- What Seal answers, in memory of its own. -/
def OwnSay (R : List Int) (w : World) (e : Ending) (w' : World) : Prop :=
  ∃ p c m, e = .returned (.slice p m c) ∧ R.length = m ∧ Hid (w'.ownsRow w.heap.size 5 1 (.slice p m c) m (U8s R)) ∧ Hid (Bs w' p c R) ∧ Below w.heap.size w w'
theorem ownsay_of {R : List Int} {w w' : World} {v : Value} {n : Nat} (ho : w'.ownsRow w.heap.size 5 1 v n (U8s R)) (hR : Sha.Byt R) (hb : Below w.heap.size w w') : OwnSay R w (.returned v) w' := by
  obtain ⟨p, c, rfl, hbs, hl⟩ := own_bs ho hR
  subst hl
  exact ⟨p, c, R.length, rfl, rfl, ho, hbs, hb⟩

set_option maxHeartbeats 2000000 in
set_option maxRecDepth 100000 in
theorem seal_good (hT : TakeSaid) (K h L : List Int) (g : Nat) (e n : Int) (ph pl : Option Addr) (nh nl ch cl : Nat) (hnh : h.length = nh) (hnl : L.length = nl) (he : inR e = true) (hn : inR n = true)
    (w : World) (hg : BoxAt w g K) (hh : Bs w ph ch h) (hl : Bs w pl cl L) (hs : nh + nl ≤ 100000) (ht : Tab w 1) :
    Calls Tryd.prog 14 #[.pointer (some ⟨g, 0, none⟩), .int .i64 e, .int .i64 n, .slice ph nh ch, .slice pl nl cl] w (OwnSay (Seal.sl K e n h L) w) := by
  subst hnh
  subst hnl
  obtain ⟨c, hg1, hg2⟩ := hg
  have HT := Lib.hid hT; clear hT
  have Ht := Lib.hid ht; clear ht
  have HG1 := Lib.hid hg1; clear hg1
  have HG2 := Lib.hid hg2; clear hg2
  have Hh := Lib.hid hh; clear hh
  have Hl := Lib.hid hl; clear hl
  have Hs := Lib.hid hs; clear hs
  have he2 : 0 ≤ e ∧ e ≤ 1099511627776 := by unfold inR at he; simpa using he
  have hn2 : 0 ≤ n ∧ n ≤ 1099511627776 := by unfold inR at hn; simpa using hn
  have HE : Hid (∀ x, Calls Tryd.prog 26 #[.int .i64 e] x fun r x' => r = .returned (.bool true) ∧ x' = x) := fun x => by have h := inRange_any e x; rw [he] at h; exact h
  have HN : Hid (∀ x, Calls Tryd.prog 26 #[.int .i64 n] x fun r x' => r = .returned (.bool true) ∧ x' = x) := fun x => by have h := inRange_any n x; rw [hn] at h; exact h
  have HXR : Hid (∀ x, Below w.heap.size w x → Calls Tryd.prog 27 #[.pointer (some ⟨c, 0, none⟩), .int .i64 e, .int .i64 n, .slice pl L.length cl] x fun r x' => ∃ q cq, r = .returned (.slice q L.length cq) ∧ Hid (XorGot L (Seal.ct K e n L) x q cq x')) := fun x hx => by
    unfold Seal.ct
    exact xor_key (Seal.ks_len K) (by omega) c e n L L.length rfl pl cl (by have := Hs.out; omega) Hl.out.nil x (Hl.out.old hx).bat (HG2.out.below hx (Nat.le_refl _))
  obtain ⟨X, HX⟩ : ∃ X, Hid (X = Seal.ct K e n L) := ⟨_, rfl⟩
  have HXL : Hid (X.length = L.length) := by show _ = _; rw [HX.out, Seal.ct_len]
  rw [← HX.out] at HXR
  obtain ⟨T, HTT⟩ : ∃ T, Hid (T = Seal.tg K e n h X) := ⟨_, rfl⟩
  have HTL : Hid (T.length = 32) := by show _ = _; rw [HTT.out, Seal.tg_len]
  have HTB : Hid (Sha.Byt T) := by show Sha.Byt T; rw [HTT.out]; exact Seal.tg_byt _ _ _ _ _
  have HXB : Hid (Sha.Byt X) := by show Sha.Byt X; rw [HX.out]; exact Seal.ct_byt _ _ _ _
  have HTG : Hid (∀ x q cq, Below w.heap.size w x → Bs x q cq X → Calls Tryd.prog 28 #[.pointer (some ⟨g, 0, none⟩), .int .i64 e, .int .i64 n, .slice ph h.length ch, .slice q L.length cq] x (RowSay T x)) := fun x q cq hx hq => by
    have h1 := tag_any HT.out (Seal.k2 K) (Seal.k2_len K) (Seal.k2_byt K) g c e n (by omega) (by omega) h X ph q h.length L.length ch cq rfl HXL.out x (HG1.out.old hx) (Hh.out.old hx) hq (by have := Hs.out; omega) (Ht.out.below hx Ht.out.lt)
    rw [HTT.out]
    unfold Seal.tg
    exact h1
  have HRES : Hid (Seal.sl K e n h L = X ++ T) := by show _ = _; rw [Seal.sl_good he hn, ← HX.out, ← HTT.out]
  rw [HRES.out]
  have HRB : Hid (Sha.Byt (X ++ T)) := Sha.byt_append HXB.out HTB.out
  obtain ⟨A, HA1, HA2, HA3⟩ : ∃ A : Array Value, Hid (A = (T.map (Value.int .u8)).toArray) ∧ Hid (A.size = 32) ∧ Hid (A.all (·.oneCell') = true) :=
    ⟨_, rfl, by show _ = _; simp [HTL.out], all_oneCell_toArray (bytes_one _)⟩
  have hb0 : w.cell? ⟨g, 0, none⟩ = some (.pointer (some ⟨c, 0, none⟩)) := HG1.out.first
  clear he hn he2 hn2
  go_enter Tryd.func14, Tryd.ntmps14
  go_wp2_with (first
    | (go_at_call 26; refine (HE.out _).mono ?_; rintro e1 w1 ⟨rfl, rfl⟩; clear HE)
    | (go_at_call 26; refine (HN.out _).mono ?_; rintro e2 w2 ⟨rfl, rfl⟩; clear HN)
    | (go_at_call 27; refine (HXR.out _ (Below.refl _ _)).mono ?_; rintro e3 w3 ⟨q3, c3, rfl, HGOT⟩; have B3 := Lib.hid HGOT.out.below; have BX3 := Lib.hid (bs_xor HGOT.out); have O3 := Lib.hid HGOT.out.own; clear HGOT HXR)
    | (go_at_call 28; refine (HTG.out _ q3 c3 B3.out BX3.out).mono ?_; rintro e4 w4 ⟨rfl, hb4⟩; rw [← HA1.out]; have B34 := Lib.hid hb4; clear hb4 HTG)
    | ((with_reducible refine row_store _ _ _ _ _ _ _ ?_ ?_ (heap_alloc_new _ _) (row_size Tryd.sizeSum HA2) ?_ HA3.out ?_); (exact rfl); (exact rfl); (rw [HA2.out]; rfl); intro w5 G5 ch5; rw [HA1.out] at G5; have B45 := Lib.hid (ch5.below ((Below.refl _ w4).alloc (Nat.le_refl _) _) (Nat.le_refl _)); have B35 : Hid (Below w3.heap.size w3 w5) := B34.out.trans (B45.out.mono B34.out.size); have O5 := Lib.hid (own_keepX O3.out B35.out); have BT5 := Lib.hid (bs_row (c := 32) (bat_row G5.out HTB.out) ⟨by rw [HTL.out]; exact Nat.le_refl _, by omega⟩); have B5 : Hid (Below _ _ w5) := B3.out.trans (B35.out.mono B3.out.size); clear ch5 G5)
    | (at_builtin; refine append_bts _ _ T _ _ _ _ _ 32 32 rfl rfl HTL.out BT5.out O5.out (by have := Hs.out; omega) B5.out.size ?_; intro v6 w6 ho6 hg6; have O6 := Lib.hid ho6; have B6 := Lib.hid (B5.out.grown hg6 B5.out.size (fun q hq => (O5.out.lt q hq).1)); clear ho6 hg6))
  go_ret
  exact ownsay_of O6.out HRB.out B6.out

end Go.Proofs.YtkhaiiiioieglaaDoor
