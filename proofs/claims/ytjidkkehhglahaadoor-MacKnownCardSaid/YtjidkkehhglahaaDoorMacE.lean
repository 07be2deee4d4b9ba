/-
  rilllaw02's helpers: row, hex, works.
-/
import Derived.Test.YtjidkkehhglahaaDoorMacD
namespace Go.Proofs.YtjidkkehhglahaaDoor
open Go.RowKit

/-- A row of the call's own, as a slice sees it. -/
theorem bat_own {w : World} {B n : Nat} {v : Value} {l : List Int} (h : w.ownsRow B 5 1 v n (U8s l)) (hb : Sha.Byt l) : ∃ p c, v = .slice p l.length c ∧ BAt w p l ∧ l.length ≤ c ∧ c ≤ 9223372036854775807 := by
  have hl : l.length = n := by
    have := h.1
    unfold U8s at this
    simpa using this
  by_cases h0 : 0 < n
  · obtain ⟨g, c, rfl⟩ := own_some h h0
    obtain ⟨h1, h2⟩ := own_cap h
    refine ⟨some ⟨g, 0, none⟩, c, by rw [hl], ⟨hb, fun _ => ⟨g, 0, rfl, fun j hj => ?_⟩⟩, by omega, by unfold maxLen at h2; omega⟩
    rw [Nat.zero_add]
    exact u8_at h j (by omega)
  · rcases h.2 with ⟨rfl, _⟩ | ⟨g, cap, cur, rfl, _, _, h1, h2, _⟩
    · exact ⟨none, 0, by rw [hl]; congr 1; omega, ⟨hb, fun h3 => by omega⟩, by omega, by omega⟩
    · exact ⟨some ⟨g, 0, none⟩, cap, by rw [hl], ⟨hb, fun h3 => by omega⟩, by omega, by unfold maxLen at h2; omega⟩

set_option maxHeartbeats 1000000 in
set_option maxRecDepth 100000 in
theorem mrow_any (n : Nat) (x : Int) (hn : n ≤ 100000) (w : World) :
    Calls Tryd.prog 14 #[.int .i64 n, .int .u8 x] w fun e w' => ∃ v, e = .returned v ∧ w'.ownsRow w.heap.size 5 1 v n (U8s (List.replicate n x)) ∧ Below w.heap.size w w' := by
  obtain ⟨i0, hi, hz0, hz1, hz2⟩ := info_parts Tryd.info_u8
  go_enter Tryd.func14, Tryd.ntmps14
  go_wp2
  go_loopw [5, 6] (fun v i wr => ∃ k : Nat, k ≤ n ∧ i = .int .i64 k ∧ Hid (wr.ownsRow w.heap.size 5 1 v k (U8s (List.replicate k x))) ∧ Hid (Below w.heap.size w wr)) (fun _ i _ => n - (intOf i).toNat)
  case atStart => exact ⟨0, Nat.zero_le _, rfl, by unfold U8s; exact World.ownsRow_nil _ _ _ _, Below.refl _ _⟩
  case round =>
    obtain ⟨k, hk, rfl, HO, HB⟩ := hrel
    by_cases hlt : k < n
    · go_wp2_with (first
        | (at_builtin; refine wpList_append_own _ rfl _ _ 25 rfl w.heap.size 5 i0 (.int .u8 0) 1 1 Tryd.underlying25 hi hz0 hz1 hz2 rfl (by decide) _ _ _ rfl (HO.out.alloc _) ⟨wr.heap.size, 0, none⟩ 1 1 [.int .u8 x] rfl rfl (u8_cell _ _ _) (u8_one _) (by unfold maxLen; omega) (by omega) (by have := HB.out.size; simp; omega) ?_)
        | go_in)
      intro v' w1 hown' hgrow _
      have hb1 := below_own HB.out (HB.out.size) HO.out hgrow
      rw [U8s_snoc, ← List.replicate_succ'] at hown'
      clear hgrow HO HB
      go_wp2
      exact ⟨⟨k + 1, by omega, by go_num, hown', hb1⟩, by simp [intOf]; omega⟩
    · have E : k = n := by omega
      have hge : n ≤ k := by omega
      subst E
      go_wp2
      go_ret
      exact ⟨_, rfl, HO.out, HB.out⟩

/-- A digit of sixteen, and the bytes behind k digits. -/
def dig (c : Int) : Int := if 97 ≤ c then c - 97 + 10 else c - 48
def hxs (l : List Int) : Nat → List Int
  | 0 => List.replicate 32 0
  | k + 1 => (hxs l k).set (k / 2) (((hxs l k).getD (k / 2) 0 * 16 + dig (l.getD k 0)) % 256)
theorem hxs_len (l : List Int) (k : Nat) : (hxs l k).length = 32 := by
  induction k with
  | zero => simp [hxs]
  | succ k ih => simp [hxs, ih]
theorem hxs_zero (l : List Int) : (hxs l 0).map (Value.int .u8) = List.replicate 32 (Value.int .u8 0) := by simp [hxs]
theorem hxs_hi (l : List Int) (k : Nat) (h : 97 ≤ l.getD k 0) : (hxs l k).set (k / 2) (((hxs l k).getD (k / 2) 0 * 16 + (l.getD k 0 - 97 + 10)) % 256) = hxs l (k + 1) := by
  rw [hxs, dig, if_pos h]
theorem hxs_lo (l : List Int) (k : Nat) (h : ¬ 97 ≤ l.getD k 0) : (hxs l k).set (k / 2) (((hxs l k).getD (k / 2) 0 * 16 + (l.getD k 0 - 48)) % 256) = hxs l (k + 1) := by
  rw [hxs, dig, if_neg h]
attribute [irreducible] hxs

set_option maxHeartbeats 1000000 in
set_option maxRecDepth 100000 in
theorem hex_any (S : ByteArray) (l : List Int) (hS : S.size = 64) (hl : ∀ k (h : k < S.size), ((S[k]).toNat : Int) = l.getD k 0) (w : World) :
    Calls Tryd.prog 18 #[.string S] w (RowSay (hxs l 64) w) := by
  have HL := Lib.hid hl; clear hl
  obtain ⟨A, HA1, HA2, HA3⟩ : ∃ A : Array Value, Hid (A = ((hxs l 64).map (Value.int .u8)).toArray) ∧ Hid (A.size = 32) ∧ Hid (A.all (·.oneCell') = true) :=
    ⟨_, rfl, by show _ = _; simp [hxs_len], all_oneCell_toArray (bytes_one _)⟩
  go_enter Tryd.func18, Tryd.ntmps18
  go_wp2
  go_loopw [4] (fun v4 wr => ∃ k : Nat, k ≤ 64 ∧ v4 = .int .i64 k ∧ Hid (wr.heap[w.heap.size + 1]? = some (.cells ((hxs l k).map (Value.int .u8)).toArray 30 (0, 0))) ∧
      Hid (wr.heap[w.heap.size]? = some (.cells (List.replicate 32 (Value.int .u8 0)).toArray 30 (0, 0))) ∧ Hid (Below w.heap.size w wr)) (fun v4 _ => 64 - (intOf v4).toNat)
  case atStart =>
    refine ⟨0, by omega, rfl, ?_, ?_, ?_⟩
    · show _ = _; rw [hxs_zero]; exact heap_alloc2_new w _ _
    · exact heap_alloc2_old w _ _
    · exact ((Below.refl _ _).alloc (Nat.le_refl _) _).alloc (by simp) _
  case round =>
    obtain ⟨k, hk, rfl, HG, HRES, HB⟩ := hrel
    by_cases hlt : k < 64
    · have hks : k < S.size := by omega
      have hkn : (k : Int) < 64 := by omega
      have c0 := row_cell HG.out (k / 2) (by rw [hxs_len]; omega)
      have f0 := frozen_of_row wr (w.heap.size + 1) (k / 2) _ _ HG.out
      have hy := HL.out k hks
      have HH : Hid (97 ≤ l.getD k 0 → (hxs l k).set (k / 2) (((hxs l k).getD (k / 2) 0 * 16 + (l.getD k 0 - 97 + 10)) % 256) = hxs l (k + 1)) := hxs_hi l k
      have HLO : Hid (¬ 97 ≤ l.getD k 0 → (hxs l k).set (k / 2) (((hxs l k).getD (k / 2) 0 * 16 + (l.getD k 0 - 48)) % 256) = hxs l (k + 1)) := hxs_lo l k
      generalize (hxs l k).getD (k / 2) 0 = y at *
      generalize l.getD k 0 = c at *
      go_wp2
      · refine ⟨⟨k + 1, by omega, by go_num, ?_, ?_, ?_⟩, by simp [intOf]; omega⟩
        · have h := set_u8' (i := k / 2) (x := (y * 16 + (c - 97 + 10)) % 256) HG.out
          rw [HH.out (by first | assumption | omega)] at h
          exact h
        · show _ = _; rw [heap_setCell_other _ _ _ _ (by simp)]; exact HRES.out
        · exact HB.out.setCell (by simp) _
      · refine ⟨⟨k + 1, by omega, by go_num, ?_, ?_, ?_⟩, by simp [intOf]; omega⟩
        · have h := set_u8' (i := k / 2) (x := (y * 16 + (c - 48)) % 256) HG.out
          rw [HLO.out (by first | assumption | omega)] at h
          exact h
        · show _ = _; rw [heap_setCell_other _ _ _ _ (by simp)]; exact HRES.out
        · exact HB.out.setCell (by simp) _
    · have E : k = 64 := by omega
      subst E
      have HG8 : Hid (wr.heap[w.heap.size + 1]? = some (.cells A 30 (0, 0))) := by
        have h := HG.out
        rw [← HA1.out] at h
        exact h
      clear hlt HG
      go_wp2_with (first
        | ((with_reducible refine row_load _ _ _ _ _ _ _ ?_ HG8.out Tryd.underlying30 ?_ (row_size Tryd.sizeSum HA2) ?_); (exact rfl); (exact rfl))
        | ((with_reducible refine row_store _ _ _ _ _ _ _ ?_ ?_ HRES.out (row_size Tryd.sizeSum HA2) ?_ HA3.out ?_); (exact rfl); (exact rfl); (rw [HA2.out]; rfl); intro w6 G6 ch6))
      refine bodyPost_ret (results_cell_row rfl _ _ w.heap.size 30 A (0, 0) _ rfl G6.out Tryd.underlying30 rfl (row_size Tryd.sizeSum HA2)) rfl ⟨?_, ch6.below HB.out (Nat.le_refl _)⟩
      rw [HA1.out]

def hiHex : List Int := [98, 48, 51, 52, 52, 99, 54, 49, 100, 56, 100, 98, 51, 56, 53, 51, 53, 99, 97, 56, 97, 102, 99, 101, 97, 102, 48, 98, 102, 49, 50, 98, 56, 56, 49, 100, 99, 50, 48, 48, 99, 57, 56, 51, 51, 100, 97, 55, 50, 54, 101, 57, 51, 55, 54, 99, 50, 101, 51, 50, 99, 102, 102, 55]
def hiText : List Int := [72, 105, 32, 84, 104, 101, 114, 101]
theorem hi_sum : hxs hiHex 64 = hm (List.replicate 20 11) hiText := by decide +kernel
theorem hi_byt : Sha.Byt hiText := fun x hx => by
  simp [hiText] at hx
  omega
set_option maxHeartbeats 2000000 in
set_option maxRecDepth 100000 in
theorem works_any (hT : TakeSaid) (w : World) (ht : Tab w 0) : Calls Tryd.prog 21 #[] w (YesSay w) := by
  have HT := Lib.hid hT; clear hT
  have Ht := Lib.hid ht; clear ht
  have kc := fun (w : World) (C : Array Value) (n c : Nat) => Lib.run_convert_bytes_const (P := Tryd.prog) w 25 5 C n c Tryd.underlying25 Tryd.underlying5
  go_enter Tryd.func21, Tryd.ntmps21
  obtain ⟨A, HA⟩ : ∃ A : Array Value, Hid (A = ((hm (List.replicate 20 11) hiText).map (Value.int .u8)).toArray) := ⟨_, rfl⟩
  have HEQ : ∀ w, (Op.equalIn 10000 30 (.agg A) (.agg A)).run Tryd.prog w = .ok true w := fun w => by rw [HA.out]; exact sum_same _ (hm_len _ _) w
  have hng := Tryd.noGuard
  have HHX : Hid (hxs hiHex 64 = hm (List.replicate 20 11) hiText) := hi_sum
  go_wp2_with (first
    | (go_at_call 14; refine (mrow_any 20 11 (by omega) _).mono ?_; rintro e w1 ⟨v, rfl, ho1, hb1⟩; obtain ⟨p, c, rfl, hba, hcl, hcm⟩ := bat_own ho1 (byt_rep 20 11 (by omega)); have HBA := Lib.hid hba; have HB1 := Lib.hid hb1; have HC := Lib.hid (And.intro hcl hcm); clear hba hb1 ho1 hcl hcm)
    | (go_at_call 19; refine (mac_of_any HT.out (List.replicate 20 11) hiText p (some ⟨w1.heap.size, 0, none⟩) _ 8 c 8 rfl rfl _ (HBA.out.old ((Below.refl _ w1).alloc (Nat.le_refl _) _)) (bat_row (l := hiText) (heap_alloc_new w1 _) hi_byt) HC.out.1 HC.out.2 (by omega) (by omega) (by simp) (by decide) (Ht.out.below (HB1.out.alloc HB1.out.size _) Ht.out.lt)).mono ?_; rintro e w2 ⟨rfl, hb2⟩; rw [← HA.out]; have HB2 : Hid (Below w.heap.size w w2) := (HB1.out.alloc HB1.out.size _).trans (hb2.mono (by have := HB1.out.size; simp; omega)); clear hb2)
    | (go_at_call 18; refine (hex_any _ hiHex ?_ ?_ _).mono ?_; (decide +kernel); (decide +kernel); rintro e w3 ⟨rfl, hb3⟩; rw [HHX.out, ← HA.out]; have HB3 : Hid (Below w.heap.size w w3) := HB2.out.trans (hb3.mono HB2.out.size); clear hb3))
  go_ret
  exact ⟨rfl, HB3.out⟩

end Go.Proofs.YtjidkkehhglahaaDoor
