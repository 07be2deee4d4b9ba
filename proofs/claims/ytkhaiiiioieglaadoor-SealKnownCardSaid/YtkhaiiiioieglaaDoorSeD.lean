/-
  Contracts: inRange, tag; a box built.
-/
import Derived.Test.YtkhaiiiioieglaaDoorSeC
namespace Go.Proofs.YtkhaiiiioieglaaDoor
open Go.RowKit

/-- May an epoch, or a number, be? -/
def inR (n : Int) : Bool := decide (0 ≤ n ∧ n ≤ 1099511627776)
set_option maxRecDepth 100000 in
theorem inRange_any (n : Int) (w : World) : Calls Tryd.prog 26 #[.int .i64 n] w fun e w' => e = .returned (.bool (inR n)) ∧ w' = w := by
  by_cases h0 : 0 ≤ n
  · by_cases h1 : n ≤ 1099511627776
    · rw [show inR n = true by unfold inR; simp [h0, h1]]
      have h0' : n ≥ 0 := h0
      go_enter Tryd.func26, Tryd.ntmps26
      go_wp2
      go_ret
      exact ⟨rfl, rfl⟩
    · rw [show inR n = false by unfold inR; simp [h1]]
      have h0' : n ≥ 0 := h0
      go_enter Tryd.func26, Tryd.ntmps26
      go_wp2
      go_ret
      exact ⟨rfl, rfl⟩
  · rw [show inR n = false by unfold inR; simp [h0]]
    have h0' : ¬ n ≥ 0 := h0
    go_enter Tryd.func26, Tryd.ntmps26
    go_wp2
    go_ret
    exact ⟨rfl, rfl⟩

/-- sumOf of five parts. -/
theorem sum5_any (hT : TakeSaid) (M : List Int) (hM32 : M.length = 32) (hMB : Sha.Byt M) (g c q : Nat) (p0 p1 p2 p3 p4 : Option Addr) (n0 n1 n2 n3 n4 c0 c1 c2 c3 c4 : Nat) (l0 l1 l2 l3 l4 : List Int) (e0 : l0.length = n0) (e1 : l1.length = n1) (e2 : l2.length = n2) (e3 : l3.length = n3) (e4 : l4.length = n4)
    (x : World) (hg : Boxed x g c M) (hq : x.heap[q]? = some (.cells #[.slice p0 n0 c0, .slice p1 n1 c1, .slice p2 n2 c2, .slice p3 n3 c3, .slice p4 n4 c4] 22 (0, 0))) (h0 : Bs x p0 c0 l0) (h1 : Bs x p1 c1 l1) (h2 : Bs x p2 c2 l2) (h3 : Bs x p3 c3 l3) (h4 : Bs x p4 c4 l4)
    (hl : n0 + n1 + n2 + n3 + n4 ≤ 1000000000) (ht : Tab x 1) :
    Calls Tryd.prog 44 #[.pointer (some ⟨g, 0, none⟩), .slice (some ⟨q, 0, none⟩) 5 5] x (HmSay M (l0 ++ (l1 ++ (l2 ++ (l3 ++ l4)))) x) := by
  have e : Seal.cat (fun k => match k with | 0 => l0 | 1 => l1 | 2 => l2 | 3 => l3 | _ => l4) 5 = l0 ++ (l1 ++ (l2 ++ (l3 ++ l4))) := by simp [Seal.cat]
  have h := sumOf_any hT M hM32 hMB (fun k => match k with | 0 => p0 | 1 => p1 | 2 => p2 | 3 => p3 | _ => p4) (fun k => match k with | 0 => c0 | 1 => c1 | 2 => c2 | 3 => c3 | _ => c4) (fun k => match k with | 0 => l0 | 1 => l1 | 2 => l2 | 3 => l3 | _ => l4) 5 g c q (by omega) x hg
    (fun k hk => by
      rw [cell_of_row x q k _ _ _ hq]
      rcases k with _ | _ | _ | _ | _ | k
      · simp [e0]
      · simp [e1]
      · simp [e2]
      · simp [e3]
      · simp [e4]
      · omega)
    (fun k hk => by
      rcases k with _ | _ | _ | _ | _ | k
      · exact h0
      · exact h1
      · exact h2
      · exact h3
      · exact h4
      · omega)
    (by rw [e]; simp only [List.length_append]; omega)
    (by rw [e]; exact Sha.byt_append h0.byt (Sha.byt_append h1.byt (Sha.byt_append h2.byt (Sha.byt_append h3.byt h4.byt))))
    ht
  rw [e] at h
  exact h

set_option maxHeartbeats 2000000 in
set_option maxRecDepth 100000 in
theorem tag_any (hT : TakeSaid) (M : List Int) (hM32 : M.length = 32) (hMB : Sha.Byt M) (g c : Nat) (e n : Int) (he : 0 ≤ e ∧ e ≤ 9223372036854775807) (hn : 0 ≤ n ∧ n ≤ 9223372036854775807) (h t : List Int) (ph pt : Option Addr) (nh nt ch ct : Nat) (hnh : h.length = nh) (hnt : t.length = nt)
    (w : World) (hg : Boxed w g c M) (hh : Bs w ph ch h) (htt : Bs w pt ct t) (hl : nh + nt ≤ 900000000) (htb : Tab w 1) :
    Calls Tryd.prog 28 #[.pointer (some ⟨g, 0, none⟩), .int .i64 e, .int .i64 n, .slice ph nh ch, .slice pt nt ct] w (HmSay M (Seal.tin h e n t) w) := by
  have HT := Lib.hid hT; clear hT
  have Ht := Lib.hid htb; clear htb
  have Hg := Lib.hid hg; clear hg
  have Hh := Lib.hid hh; clear hh
  have Htt := Lib.hid htt; clear htt
  have Hnh := Lib.hid (And.intro hnh hnt); clear hnh hnt
  have Hl := Lib.hid hl; clear hl
  have He := Lib.hid he; clear he
  have Hn := Lib.hid hn; clear hn
  have HT0 : Hid (∀ x, Calls Tryd.prog 45 #[.int .i64 (nh : Nat)] x (TbSay (nh : Nat) x)) := fun x => toBytes_any _ ⟨by omega, by have := Hl.out; omega⟩ x
  have HT1 : Hid (∀ x, Calls Tryd.prog 45 #[.int .i64 e] x (TbSay e x)) := fun x => toBytes_any _ He.out x
  have HT2 : Hid (∀ x, Calls Tryd.prog 45 #[.int .i64 n] x (TbSay n x)) := fun x => toBytes_any _ Hn.out x
  obtain ⟨R, HR⟩ : ∃ R, Hid (R = Seal.tin h e n t) := ⟨_, rfl⟩
  obtain ⟨A, HA1, HA2, HA3⟩ : ∃ A : Array Value, Hid (A = ((hm M R).map (Value.int .u8)).toArray) ∧ Hid (A.size = 32) ∧ Hid (A.all (·.oneCell') = true) :=
    ⟨_, rfl, by show _ = _; simp [hm_len], all_oneCell_toArray (bytes_one _)⟩
  have HRR : Hid (Seal.be8 (nh : Nat) ++ (h ++ (Seal.be8 e ++ (Seal.be8 n ++ t))) = R) := by show _ = _; rw [HR.out, ← Hnh.out.1]; unfold Seal.tin; rfl
  have B0 : Hid (Below w.heap.size w (w.alloc (.cells (List.replicate 32 (Value.int .u8 0)).toArray 37))) := (Below.refl _ w).alloc (Nat.le_refl _) _
  have R0 : Hid ((w.alloc (.cells (List.replicate 32 (Value.int .u8 0)).toArray 37)).heap[w.heap.size]? = some (.cells (List.replicate 32 (Value.int .u8 0)).toArray 37 (0, 0))) := heap_alloc_new w _
  rw [show HmSay M (Seal.tin h e n t) w = HmSay M R w by rw [HR.out]]
  go_enter Tryd.func28, Tryd.ntmps28
  go_wp2_with (first
    | (go_at_call 45; refine (HT0.out _).mono ?_; rintro e1 w1 ⟨g1, rfl, HX1, hb1⟩; have B1 : Hid (Below w.heap.size w w1) := B0.out.trans (hb1.mono B0.out.size); have R1 := Lib.hid ((hb1.block _ (lt_of_block R0.out)).trans R0.out); clear hb1 HT0)
    | (go_at_call 45; refine (HT1.out _).mono ?_; rintro e2 w2 ⟨g2, rfl, HX2, hb2⟩; have B2 : Hid (Below w.heap.size w w2) := B1.out.trans (hb2.mono B1.out.size); have R2 := Lib.hid ((hb2.block _ (lt_of_block R1.out)).trans R1.out); have HX12 : Hid (BAt w2 (some ⟨g1, 0, none⟩) (Seal.be8 (nh : Nat))) := HX1.out.old hb2; clear hb2 HT1)
    | (go_at_call 45; refine (HT2.out _).mono ?_; rintro e3 w3 ⟨g3, rfl, HX3, hb3⟩; have B3 : Hid (Below w.heap.size w w3) := B2.out.trans (hb3.mono B2.out.size); have R3 := Lib.hid ((hb3.block _ (lt_of_block R2.out)).trans R2.out); have HX13 : Hid (BAt w3 (some ⟨g1, 0, none⟩) (Seal.be8 (nh : Nat))) := HX12.out.old hb3; have HX23 : Hid (BAt w3 (some ⟨g2, 0, none⟩) (Seal.be8 e)) := HX2.out.old hb3; clear hb3 HT2)
    | (go_at_call 44
       have B4 : Hid (Below w3.heap.size w3 (w3.alloc (.cells #[.slice (some ⟨g1, 0, none⟩) 8 8, .slice ph nh ch, .slice (some ⟨g2, 0, none⟩) 8 8, .slice (some ⟨g3, 0, none⟩) 8 8, .slice pt nt ct] 22))) := (Below.refl _ w3).alloc (Nat.le_refl _) _
       have B5 := Lib.hid (B3.out.trans (B4.out.mono B3.out.size))
       refine (sum5_any HT.out M hM32 hMB g c w3.heap.size (some ⟨g1, 0, none⟩) ph (some ⟨g2, 0, none⟩) (some ⟨g3, 0, none⟩) pt 8 nh 8 8 nt 8 ch 8 8 ct (Seal.be8 (nh : Nat)) h (Seal.be8 e) (Seal.be8 n) t (Seal.be8_len _) Hnh.out.1 (Seal.be8_len _) (Seal.be8_len _) Hnh.out.2 _ (Hg.out.old B5.out) (heap_alloc_new w3 _)
         ((bs_row HX13.out ⟨by rw [Seal.be8_len]; exact Nat.le_refl _, by omega⟩).old B4.out) (Hh.out.old B5.out) ((bs_row HX23.out ⟨by rw [Seal.be8_len]; exact Nat.le_refl _, by omega⟩).old B4.out) ((bs_row HX3.out ⟨by rw [Seal.be8_len]; exact Nat.le_refl _, by omega⟩).old B4.out) (Htt.out.old B5.out) (by have := Hl.out; omega) (Ht.out.below B5.out Ht.out.lt)).mono ?_
       rw [HRR.out]
       rintro e6 w6 ⟨rfl, hb6⟩
       rw [← HA1.out]
       have B6 : Hid (Below w.heap.size w w6) := B5.out.trans (hb6.mono B5.out.size)
       have R6 := Lib.hid ((hb6.block _ (Nat.lt_of_lt_of_le (lt_of_block R3.out) B4.out.size)).trans ((B4.out.block _ (lt_of_block R3.out)).trans R3.out))
       clear hb6)
    | ((with_reducible refine row_store _ _ _ _ _ _ _ ?_ ?_ R6.out (row_size Tryd.sizeSum HA2) ?_ HA3.out ?_); (exact rfl); (exact rfl); (rw [HA2.out]; rfl); intro w7 G7 ch7))
  refine bodyPost_ret (results_cell_row rfl _ _ w.heap.size 37 A (0, 0) _ rfl G7.out Tryd.underlying37 rfl (row_size Tryd.sizeSum HA2)) rfl ⟨?_, ch7.below B6.out (Nat.le_refl _)⟩
  rw [HA1.out]

end Go.Proofs.YtkhaiiiioieglaaDoor
