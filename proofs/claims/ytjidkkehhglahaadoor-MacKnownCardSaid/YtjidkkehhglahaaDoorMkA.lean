/-
  rilllaw02.MacKnown walked.
-/
import Derived.Test.YtjidkkehhglahaaDoorSameB
import Derived.Test.YtjidkkehhglahaaDoorMacF
import Derived.Test.YtjidkkehhglahaaDoorAnyH
import Derived.Laws.IdiomStrings
import Derived.Lib.BufferRead
namespace Go.Proofs.YtjidkkehhglahaaDoor
open Go.RowKit

set_option maxHeartbeats 1000000 in
set_option maxRecDepth 100000 in
theorem hex_two (S : ByteArray) (l : List Int) (hS : S.size = 2) (hl : ∀ k (h : k < S.size), ((S[k]).toNat : Int) = l.getD k 0) (w : World) :
    Calls Tryd.prog 18 #[.string S] w (RowSay (hxs l 2) w) := by
  have HL := Lib.hid hl; clear hl
  obtain ⟨A, HA1, HA2, HA3⟩ : ∃ A : Array Value, Hid (A = ((hxs l 2).map (Value.int .u8)).toArray) ∧ Hid (A.size = 32) ∧ Hid (A.all (·.oneCell') = true) :=
    ⟨_, rfl, by show _ = _; simp [hxs_len], all_oneCell_toArray (bytes_one _)⟩
  go_enter Tryd.func18, Tryd.ntmps18
  go_wp2
  go_loopw [4] (fun v4 wr => ∃ k : Nat, k ≤ 2 ∧ v4 = .int .i64 k ∧ Hid (wr.heap[w.heap.size + 1]? = some (.cells ((hxs l k).map (Value.int .u8)).toArray 30 (0, 0))) ∧
      Hid (wr.heap[w.heap.size]? = some (.cells (List.replicate 32 (Value.int .u8 0)).toArray 30 (0, 0))) ∧ Hid (Below w.heap.size w wr)) (fun v4 _ => 2 - (intOf v4).toNat)
  case atStart =>
    refine ⟨0, by omega, rfl, ?_, ?_, ?_⟩
    · show _ = _; rw [hxs_zero]; exact heap_alloc2_new w _ _
    · exact heap_alloc2_old w _ _
    · exact ((Below.refl _ _).alloc (Nat.le_refl _) _).alloc (by simp) _
  case round =>
    obtain ⟨k, hk, rfl, HG, HRES, HB⟩ := hrel
    by_cases hlt : k < 2
    · have hks : k < S.size := by omega
      have hkn : (k : Int) < 64 := by omega
      have hkn2 : (k : Int) < 2 := by omega
      have c0 := row_cell HG.out (k / 2) (by rw [hxs_len]; omega)
      have f0 := frozen_of_row wr (w.heap.size + 1) (k / 2) _ _ HG.out
      have hy := HL.out k hks
      have HH : Hid (97 ≤ l.getD k 0 → (hxs l k).set (k / 2) (((hxs l k).getD (k / 2) 0 * 16 + (l.getD k 0 - 97 + 10)) % 256) = hxs l (k + 1)) := hxs_hi l k
      have HLO : Hid (¬ 97 ≤ l.getD k 0 → (hxs l k).set (k / 2) (((hxs l k).getD (k / 2) 0 * 16 + (l.getD k 0 - 48)) % 256) = hxs l (k + 1)) := hxs_lo l k
      generalize (hxs l k).getD (k / 2) 0 = y at *
      generalize l.getD k 0 = c at *
      go_wp2
      · refine ⟨⟨k + 1, by omega, by go_num, ?_, ?_, ?_⟩, by simp [intOf]; omega⟩
        · have h := set_u8' (i := k / 2) (x := (y * 16 + (c - 97 + 10)) % 256) HG.out
          rw [HH.out (by first | assumption | omega)] at h
          exact h
        · show _ = _; rw [heap_setCell_other _ _ _ _ (by simp)]; exact HRES.out
        · exact HB.out.setCell (by simp) _
      · refine ⟨⟨k + 1, by omega, by go_num, ?_, ?_, ?_⟩, by simp [intOf]; omega⟩
        · have h := set_u8' (i := k / 2) (x := (y * 16 + (c - 48)) % 256) HG.out
          rw [HLO.out (by first | assumption | omega)] at h
          exact h
        · show _ = _; rw [heap_setCell_other _ _ _ _ (by simp)]; exact HRES.out
        · exact HB.out.setCell (by simp) _
    · have E : k = 2 := by omega
      subst E
      have HG8 : Hid (wr.heap[w.heap.size + 1]? = some (.cells A 30 (0, 0))) := by
        have h := HG.out
        rw [← HA1.out] at h
        exact h
      clear hlt HG
      go_wp2_with (first
        | ((with_reducible refine row_load _ _ _ _ _ _ _ ?_ HG8.out Tryd.underlying30 ?_ (row_size Tryd.sizeSum HA2) ?_); (exact rfl); (exact rfl))
        | ((with_reducible refine row_store _ _ _ _ _ _ _ ?_ ?_ HRES.out (row_size Tryd.sizeSum HA2) ?_ HA3.out ?_); (exact rfl); (exact rfl); (rw [HA2.out]; rfl); intro w6 G6 ch6))
      refine bodyPost_ret (results_cell_row rfl _ _ w.heap.size 30 A (0, 0) _ rfl G6.out Tryd.underlying30 rfl (row_size Tryd.sizeSum HA2)) rfl ⟨?_, ch6.below HB.out (Nat.le_refl _)⟩
      rw [HA1.out]


def mkJ : List Int := [74, 101, 102, 101]
def mkT : List Int := [119, 104, 97, 116, 32, 100, 111, 32, 121, 97, 32, 119, 97, 110, 116, 32, 102, 111, 114, 32, 110, 111, 116, 104, 105, 110, 103, 63]
def mkL : List Int := [84, 101, 115, 116, 32, 85, 115, 105, 110, 103, 32, 76, 97, 114, 103, 101, 114, 32, 84, 104, 97, 110, 32, 66, 108, 111, 99, 107, 45, 83, 105, 122, 101, 32, 75, 101, 121, 32, 45, 32, 72, 97, 115, 104, 32, 75, 101, 121, 32, 70, 105, 114, 115, 116]
def hexJ : List Int := [53, 98, 100, 99, 99, 49, 52, 54, 98, 102, 54, 48, 55, 53, 52, 101, 54, 97, 48, 52, 50, 52, 50, 54, 48, 56, 57, 53, 55, 53, 99, 55, 53, 97, 48, 48, 51, 102, 48, 56, 57, 100, 50, 55, 51, 57, 56, 51, 57, 100, 101, 99, 53, 56, 98, 57, 54, 52, 101, 99, 51, 56, 52, 51]
def hexL : List Int := [54, 48, 101, 52, 51, 49, 53, 57, 49, 101, 101, 48, 98, 54, 55, 102, 48, 100, 56, 97, 50, 54, 97, 97, 99, 98, 102, 53, 98, 55, 55, 102, 56, 101, 48, 98, 99, 54, 50, 49, 51, 55, 50, 56, 99, 53, 49, 52, 48, 53, 52, 54, 48, 52, 48, 102, 48, 101, 101, 51, 55, 102, 53, 52]
theorem mkJ_byt : Sha.Byt mkJ := fun x hx => by
  simp [mkJ] at hx
  omega
theorem mkT_byt : Sha.Byt mkT := fun x hx => by
  simp [mkT] at hx
  omega
theorem mkL_byt : Sha.Byt mkL := fun x hx => by
  simp [mkL] at hx
  omega

theorem sum_two : hxs hexJ 64 = hm mkJ mkT := by decide +kernel
theorem sum_six : hxs hexL 64 = hm (List.replicate 131 170) mkL := by decide +kernel
theorem ff_val : hxs [102, 102] 2 = [255, 0, 0, 0, 0, 0, 0, 0, 0, 0, 0, 0, 0, 0, 0, 0, 0, 0, 0, 0, 0, 0, 0, 0, 0, 0, 0, 0, 0, 0, 0, 0] := by decide +kernel
theorem bl_mkT : bl ⟨#[119, 104, 97, 116, 32, 100, 111, 32, 121, 97, 32, 119, 97, 110, 116, 32, 102, 111, 114, 32, 110, 111, 116, 104, 105, 110, 103, 63]⟩ = mkT := by decide +kernel
theorem conv_str (x : World) (p : Option Addr) (n c : Nat) (h : BAt x p (List.replicate n 97)) : ∃ S : ByteArray, Hid (S.size = n) ∧ (convert 25 9 (.slice p n c)).run Tryd.prog x = .ok (.string S) x := by
  have hl : (List.replicate n (97 : UInt8)).length = n := List.length_replicate ..
  cases p with
  | none =>
    have hn : n = 0 := by
      by_cases h0 : n = 0
      · exact h0
      · obtain ⟨ab, ao, h1, _⟩ := h.2 (by rw [List.length_replicate]; omega)
        cases h1
    subst hn
    exact ⟨ByteArray.empty, rfl, Lib.run_convert_nil_bytes x _ _ 5 c Tryd.underlying25 Tryd.underlying5 Tryd.underlying9⟩
  | some ad =>
    refine ⟨⟨(List.replicate n (97 : UInt8)).toArray⟩, by show _ = _; simp [ByteArray.size], ?_⟩
    have hr := run_convert_bytes_back (P := Tryd.prog) x 25 9 5 ad c (List.replicate n (97 : UInt8)) Tryd.underlying25 Tryd.underlying5 Tryd.underlying9 (fun j hj => by
      rw [List.length_replicate] at hj
      obtain ⟨ab, ao, h1, h2⟩ := h.2 (by rw [List.length_replicate]; omega)
      cases h1
      rw [Addr.add_mid, h2 j (by rw [List.length_replicate]; exact hj), List.getElem_replicate, List.getD_eq_getElem?_getD, List.getElem?_replicate, if_pos hj]
      rfl)
    rw [hl] at hr
    exact hr
theorem keys_s (hT : TakeSaid) (K b : List Int) (p q : Option Addr) (n m c d : Nat) (hn : K.length = n) (hm' : b.length = m) (i : Int) (w : World) (hkl : n ≤ 16384) (hp : BAt w p K) (hq : BAt w q b) (hc : n ≤ c) (hcm : c ≤ 9223372036854775807) (hd : m ≤ d) (hdm : d ≤ 9223372036854775807) (hml : m ≤ 16384) (ht : Tab w 0) :
    Calls Tryd.prog 15 #[.slice p n c, .slice q m d, .int .i64 i] w (YesSay w) := by
  by_cases h : 64 < n
  · exact keys_short_a hT K b p q n m c d hn hm' i w ⟨h, hkl⟩ hp hq hc hcm hd hdm hml ht
  · exact keys_short_b hT K b p q n m c d hn hm' i w (by omega) hp hq hc hcm hd hdm hml ht
def nv : List Nat := [0, 1, 31, 32, 33, 55, 56, 63, 64, 65, 119, 120, 128, 131, 200]
def NVC : Array Value := (nv.map fun (n : Nat) => Value.int .i64 (n : Int)).toArray
theorem nv_le (i : Nat) : nv.getD i 0 ≤ 200 := by
  by_cases h : i < 15
  · have : ((List.range 15).all fun i => decide (nv.getD i 0 ≤ 200)) = true := by decide
    exact of_decide_eq_true (List.all_eq_true.1 this i (List.mem_range.2 h))
  · rw [List.getD_eq_getElem?_getD, List.getElem?_eq_none (by show nv.length ≤ i; simp [nv]; omega)]; simp
theorem nv_cell {x : World} {GN : Nat} (h : x.heap[GN]? = some (.cells NVC 3 (0, 0))) (i : Nat) (hi : i < 15) : x.cell? ⟨GN, i, none⟩ = some (.int .i64 ((nv.getD i 0 : Nat) : Int)) := by
  have hl : i < nv.length := by simp [nv]; omega
  rw [cell_of_row x GN i _ _ _ h]
  unfold NVC
  simp [List.getD_eq_getElem?_getD, hl]
theorem nvc_lit : (#[.int .i64 0, .int .i64 1, .int .i64 31, .int .i64 32, .int .i64 33, .int .i64 55, .int .i64 56, .int .i64 63, .int .i64 64, .int .i64 65, .int .i64 119, .int .i64 120, .int .i64 128, .int .i64 131, .int .i64 200] : Array Value) = NVC := rfl
attribute [irreducible] NVC nv

set_option maxHeartbeats 8000000 in
set_option maxRecDepth 100000 in
theorem macknown_law (hT : TakeSaid) (w : World) (ht : Tab w 0) (htk : Tab w 1) :
    Calls Tryd.prog 4 #[] w (YesSay w) := by
  have HT := Lib.hid hT; clear hT
  have Ht := Lib.hid ht; clear ht
  have Hk := Lib.hid htk; clear htk
  have hng := Tryd.noGuard
  have HRWW : Hid (∀ (n : Nat) (x : Int) (y : World), n ≤ 1000 → (0 ≤ x ∧ x ≤ 255) → Calls Tryd.prog 14 #[.int .i64 n, .int .u8 x] y fun e y' => ∃ p c, e = .returned (.slice p n c) ∧ Hid (BAt y' p (List.replicate n x)) ∧ (n ≤ c ∧ c ≤ 9223372036854775807) ∧ Hid (Below y.heap.size y y')) := fun n x y hn hx => by
    refine (mrow_any n x (by omega) y).mono ?_
    rintro e y' ⟨v, rfl, ho, hb⟩
    obtain ⟨p, c, rfl, hba, hcl, hcm⟩ := bat_own ho (byt_rep n x hx)
    rw [List.length_replicate] at hcl
    exact ⟨p, c, by rw [List.length_replicate], hba, ⟨hcl, hcm⟩, hb⟩
  go_enter Tryd.func4, Tryd.ntmps4
  go_upto_region 2 with fail
  have HN0 : Hid ((w.alloc (.cells #[.int .i64 0, .int .i64 1, .int .i64 31, .int .i64 32, .int .i64 33, .int .i64 55, .int .i64 56, .int .i64 63, .int .i64 64, .int .i64 65, .int .i64 119, .int .i64 120, .int .i64 128, .int .i64 131, .int .i64 200] 3)).heap[w.heap.size]? = some (.cells NVC 3 (0, 0))) := by show _ = _; rw [← nvc_lit]; exact heap_alloc_new _ _
  have HB0 : Hid (Below w.heap.size w (w.alloc (.cells #[.int .i64 0, .int .i64 1, .int .i64 31, .int .i64 32, .int .i64 33, .int .i64 55, .int .i64 56, .int .i64 63, .int .i64 64, .int .i64 65, .int .i64 119, .int .i64 120, .int .i64 128, .int .i64 131, .int .i64 200] 3))) := (Below.refl _ w).alloc (Nat.le_refl _) _
  generalize hGN : w.heap.size = GN at HN0 ⊢
  generalize w.alloc (.cells #[.int .i64 0, .int .i64 1, .int .i64 31, .int .i64 32, .int .i64 33, .int .i64 55, .int .i64 56, .int .i64 63, .int .i64 64, .int .i64 65, .int .i64 119, .int .i64 120, .int .i64 128, .int .i64 131, .int .i64 200] 3) = w1 at *
  go_wp2
  go_loopw [2] (fun v wr => ∃ i : Nat, i ≤ 15 ∧ v = .int .i64 i ∧ Hid (Below w.heap.size w wr) ∧ Hid (wr.heap[GN]? = some (.cells NVC 3 (0, 0)))) (fun v _ => 15 - (intOf v).toNat)
  case atStart => exact ⟨0, by omega, rfl, HB0.out, HN0.out⟩
  case round =>
    clear HB0 HN0
    obtain ⟨i, hi, rfl, HB, HN⟩ := hrel
    by_cases hlt : i < 15
    · have hii : (i : Int) < 15 := by omega
      generalize wr = wL at *
      go_wp2
      go_loopw [3] (fun v wr => ∃ k : Nat, k ≤ 15 ∧ v = .int .i64 k ∧ Hid (Below w.heap.size w wr) ∧ Hid (wr.heap[GN]? = some (.cells NVC 3 (0, 0)))) (fun v _ => 15 - (intOf v).toNat)
      case atStart => exact ⟨0, by omega, rfl, HB.out, HN.out⟩
      case round =>
        clear HB HN
        obtain ⟨k, hk, rfl, HB, HN⟩ := hrel
        by_cases hlk : k < 15
        · have hkk : (k : Int) < 15 := by omega
          have hk256 : (k : Int) % 256 = k := by omega
          have hwk : IntKind.u8.wrap (k : Int) = (k : Int) := IntWalk.u8_in _ (by omega)
          obtain ⟨a, Ha⟩ : ∃ a, Hid (a = nv.getD i 0) := ⟨_, rfl⟩
          obtain ⟨b, Hb⟩ : ∃ b, Hid (b = nv.getD k 0) := ⟨_, rfl⟩
          have ha200 : a ≤ 200 := by rw [Ha.out]; exact nv_le i
          have hb200 : b ≤ 200 := by rw [Hb.out]; exact nv_le k
          go_upto_region 8 with fail
          refine wp_region_any (by kernel_rfl) ?_
          change wpAny _ _ _ _ _ _ _ (World.drew _)
          have HB8 : Hid (Below w.heap.size w wr.drew) := HB.out.drew
          have HN8 : Hid (wr.drew.heap[GN]? = some (.cells NVC 3 (0, 0))) := HN.out
          clear HB HN
          generalize wr.drew = w8 at *
          have Sz0 : Hid (Below w8.heap.size w8 w8) := Below.refl _ _
          have HNA : Hid (∀ x, Below w8.heap.size w8 x → x.cell? ⟨GN, i, none⟩ = some (.int .i64 (a : Int))) := fun x hx => by
            rw [Ha.out]; exact nv_cell ((hx.block _ (lt_of_block HN8.out)).trans HN8.out) i hlt
          have HNB : Hid (∀ x, Below w8.heap.size w8 x → x.cell? ⟨GN, k, none⟩ = some (.int .i64 (b : Int))) := fun x hx => by
            rw [Hb.out]; exact nv_cell ((hx.block _ (lt_of_block HN8.out)).trans HN8.out) k hlk
          have HTB : Hid (∀ x, Below w8.heap.size w8 x → Tab x 0 ∧ Tab x 1) := fun x hx => by
            have hb : Below w.heap.size w x := HB8.out.trans (hx.mono HB8.out.size)
            exact ⟨Ht.out.below hb Ht.out.lt, Hk.out.below hb Hk.out.lt⟩
          have HRW := HRWW
          have HSU : Hid (∀ (n m : Nat) p q c d x, Below w8.heap.size w8 x → n ≤ 200 → m ≤ 200 → BAt x p (List.replicate n 170) → BAt x q (List.replicate m 221) → Calls Tryd.prog 13 #[.slice p n c, .slice q m d] x fun e x' => e = .returned (.bool true) ∧ Hid (Below x.heap.size x x')) := fun n m p q c d x hx hn hm hp hq =>
            (sums_short HT.out _ _ p q n m c d (List.length_replicate ..) (List.length_replicate ..) (by omega) (by omega) x hp hq (HTB.out x hx).1 (HTB.out x hx).2).mono fun e x' hh => ⟨hh.1, hh.2⟩
          have HKE : Hid (∀ (n m : Nat) (y : Int) p q c d (i : Int) x, Below w8.heap.size w8 x → n ≤ 200 → m ≤ 200 → BAt x p (List.replicate n y) → BAt x q (List.replicate m 7) → (n ≤ c ∧ c ≤ 9223372036854775807) → (m ≤ d ∧ d ≤ 9223372036854775807) → Calls Tryd.prog 15 #[.slice p n c, .slice q m d, .int .i64 i] x fun e x' => e = .returned (.bool true) ∧ Hid (Below x.heap.size x x')) := fun n m y p q c d i x hx hn hm hp hq hc hd =>
            (keys_s HT.out _ _ p q n m c d (List.length_replicate ..) (List.length_replicate ..) i x (by omega) hp hq hc.1 hc.2 hd.1 hd.2 (by omega) (HTB.out x hx).1).mono fun e x' hh => ⟨hh.1, hh.2⟩
          have HDE : Hid (∀ (n : Nat) p c (S : ByteArray) x, Below w8.heap.size w8 x → n ≤ 200 → S.size ≤ 200 → BAt x p (List.replicate n 3) → (n ≤ c ∧ c ≤ 9223372036854775807) → Calls Tryd.prog 16 #[.slice p n c, .string S] x fun e x' => e = .returned (.bool true) ∧ Hid (Below x.heap.size x x')) := fun n p c S x hx hn hS hp hc =>
            (derives_short HT.out _ S p n c (List.length_replicate ..) (by omega) (by omega) x hp hc.1 hc.2 (HTB.out x hx).1 (HTB.out x hx).2).mono fun e x' hh => ⟨hh.1, hh.2⟩
          clear Ha Hb HTB
          refine wpAny_of_held (S := fun x : World => Below w8.heap.size w8 x) _ _ _ _ ?_
          refine anyH_take 0 19 (.slice (some ⟨GN, 0, none⟩) 15 15) Sz0.out rfl (by kernel_rfl) (by kernel_rfl) (by kernel_rfl) (fun _ _ _ h => h) (by rfl) (by intro x hx; go_simp; try (intro h; omega)) ?_
          try simp only [Act.put, List.setIfInBounds_toArray, List.set_cons_zero, List.set_cons_succ]
          refine anyH_take 1 20 (.int .i64 (i : Int)) Sz0.out rfl (by kernel_rfl) (by kernel_rfl) (by kernel_rfl) (fun _ _ _ h => h) (by rfl) (by intro x hx; go_simp; try (intro h; omega)) ?_
          try simp only [Act.put, List.setIfInBounds_toArray, List.set_cons_zero, List.set_cons_succ]
          refine anyH_take 2 21 (.pointer (some ⟨GN, i, none⟩)) Sz0.out rfl (by kernel_rfl) (by kernel_rfl) (by kernel_rfl) (fun _ _ _ h => h) (by rfl) (by intro x hx; go_simp; try (intro h; omega)) ?_
          try simp only [Act.put, List.setIfInBounds_toArray, List.set_cons_zero, List.set_cons_succ]
          refine anyH_take 3 22 (.int .i64 (a : Int)) Sz0.out rfl (by kernel_rfl) (by kernel_rfl) (by kernel_rfl) (fun _ _ _ h => h) (by rfl) (by intro x hx; have hc := HNA.out x hx; go_simp) ?_
          try simp only [Act.put, List.setIfInBounds_toArray, List.set_cons_zero, List.set_cons_succ]
          refine anyH_take 5 24 (.slice (some ⟨GN, 0, none⟩) 15 15) Sz0.out rfl (by kernel_rfl) (by kernel_rfl) (by kernel_rfl) (fun _ _ _ h => h) (by rfl) (by intro x hx; go_simp; try (intro h; omega)) ?_
          try simp only [Act.put, List.setIfInBounds_toArray, List.set_cons_zero, List.set_cons_succ]
          refine anyH_take 6 25 (.int .i64 (k : Int)) Sz0.out rfl (by kernel_rfl) (by kernel_rfl) (by kernel_rfl) (fun _ _ _ h => h) (by rfl) (by intro x hx; go_simp; try (intro h; omega)) ?_
          try simp only [Act.put, List.setIfInBounds_toArray, List.set_cons_zero, List.set_cons_succ]
          refine anyH_take 7 26 (.pointer (some ⟨GN, k, none⟩)) Sz0.out rfl (by kernel_rfl) (by kernel_rfl) (by kernel_rfl) (fun _ _ _ h => h) (by rfl) (by intro x hx; go_simp; try (intro h; omega)) ?_
          try simp only [Act.put, List.setIfInBounds_toArray, List.set_cons_zero, List.set_cons_succ]
          refine anyH_take 8 27 (.int .i64 (b : Int)) Sz0.out rfl (by kernel_rfl) (by kernel_rfl) (by kernel_rfl) (fun _ _ _ h => h) (by rfl) (by intro x hx; have hc := HNB.out x hx; go_simp) ?_
          try simp only [Act.put, List.setIfInBounds_toArray, List.set_cons_zero, List.set_cons_succ]
          refine anyH_one 4 (by kernel_rfl) ?_
          refine wpOp_step rfl (fun Kc hKc => ?_)
          go_simp
          refine (HRW.out a 170 _ (by omega) (by omega)).mono ?_
          rintro e z1 ⟨p1, c1, rfl, HP1, HC1, hb⟩
          have Sz1 : Hid (Below w8.heap.size w8 z1) := Sz0.out.trans (hb.out.mono Sz0.out.size)
          dsimp only
          refine hKc _ _ ⟨Sz1.out, ?_⟩
          clear hKc Kc
          have HBq1 := hb; clear hb
          try simp only [Act.put, List.setIfInBounds_toArray, List.set_cons_zero, List.set_cons_succ]
          refine anyH_one 9 (by kernel_rfl) ?_
          refine wpOp_step rfl (fun Kc hKc => ?_)
          go_simp
          refine (HRW.out b 221 _ (by omega) (by omega)).mono ?_
          rintro e z2 ⟨p2, c2, rfl, HP2, HC2, hb⟩
          have Sz2 : Hid (Below w8.heap.size w8 z2) := Sz1.out.trans (hb.out.mono Sz1.out.size)
          dsimp only
          refine hKc _ _ ⟨Sz2.out, ?_⟩
          clear hKc Kc
          have HBq2 := hb; clear hb
          try simp only [Act.put, List.setIfInBounds_toArray, List.set_cons_zero, List.set_cons_succ]
          have HP1' := Lib.hid (HP1.out.old HBq2.out)
          refine anyH_one 10 (by kernel_rfl) ?_
          refine wpOp_step rfl (fun Kc hKc => ?_)
          go_simp
          refine ((HSU.out a b p1 p2 c1 c2 _ Sz2.out (by omega) (by omega) HP1'.out HP2.out)).mono ?_
          rintro e z3 ⟨rfl, hb⟩
          have Sz3 : Hid (Below w8.heap.size w8 z3) := Sz2.out.trans (hb.out.mono Sz2.out.size)
          dsimp only
          refine hKc _ _ ⟨Sz3.out, ?_⟩
          clear hKc Kc hb
          try simp only [Act.put, List.setIfInBounds_toArray, List.set_cons_zero, List.set_cons_succ]
          refine anyH_take 11 30 (.bool false) Sz3.out rfl (by kernel_rfl) (by kernel_rfl) (by kernel_rfl) (fun _ _ _ h => h) (by rfl) (by intro x hx; go_simp; try (intro h; omega)) ?_
          try simp only [Act.put, List.setIfInBounds_toArray, List.set_cons_zero, List.set_cons_succ]
          refine anyH_take 12 31 (.bool false) Sz3.out rfl (by kernel_rfl) (by kernel_rfl) (by kernel_rfl) (fun _ _ _ h => h) (by rfl) (by intro x hx; go_simp; try (intro h; omega)) ?_
          try simp only [Act.put, List.setIfInBounds_toArray, List.set_cons_zero, List.set_cons_succ]
          refine anyH_take 13 32 (.slice (some ⟨GN, 0, none⟩) 15 15) Sz3.out rfl (by kernel_rfl) (by kernel_rfl) (by kernel_rfl) (fun _ _ _ h => h) (by rfl) (by intro x hx; go_simp; try (intro h; omega)) ?_
          try simp only [Act.put, List.setIfInBounds_toArray, List.set_cons_zero, List.set_cons_succ]
          refine anyH_take 14 33 (.int .i64 (i : Int)) Sz3.out rfl (by kernel_rfl) (by kernel_rfl) (by kernel_rfl) (fun _ _ _ h => h) (by rfl) (by intro x hx; go_simp; try (intro h; omega)) ?_
          try simp only [Act.put, List.setIfInBounds_toArray, List.set_cons_zero, List.set_cons_succ]
          refine anyH_take 15 34 (.pointer (some ⟨GN, i, none⟩)) Sz3.out rfl (by kernel_rfl) (by kernel_rfl) (by kernel_rfl) (fun _ _ _ h => h) (by rfl) (by intro x hx; go_simp; try (intro h; omega)) ?_
          try simp only [Act.put, List.setIfInBounds_toArray, List.set_cons_zero, List.set_cons_succ]
          refine anyH_take 16 35 (.int .i64 (a : Int)) Sz3.out rfl (by kernel_rfl) (by kernel_rfl) (by kernel_rfl) (fun _ _ _ h => h) (by rfl) (by intro x hx; have hc := HNA.out x hx; go_simp) ?_
          try simp only [Act.put, List.setIfInBounds_toArray, List.set_cons_zero, List.set_cons_succ]
          refine anyH_take 17 36 (.int .i64 (k : Int)) Sz3.out rfl (by kernel_rfl) (by kernel_rfl) (by kernel_rfl) (fun _ _ _ h => h) (by rfl) (by intro x hx; go_simp; try (intro h; omega)) ?_
          try simp only [Act.put, List.setIfInBounds_toArray, List.set_cons_zero, List.set_cons_succ]
          refine anyH_take 18 37 (.int .u8 (k : Int)) Sz3.out rfl (by kernel_rfl) (by kernel_rfl) (by kernel_rfl) (fun _ _ _ h => h) (by rfl) (by intro x hx; go_simp; try (intro h; omega)) ?_
          try simp only [Act.put, List.setIfInBounds_toArray, List.set_cons_zero, List.set_cons_succ]
          refine anyH_take 20 39 (.slice (some ⟨GN, 0, none⟩) 15 15) Sz3.out rfl (by kernel_rfl) (by kernel_rfl) (by kernel_rfl) (fun _ _ _ h => h) (by rfl) (by intro x hx; go_simp; try (intro h; omega)) ?_
          try simp only [Act.put, List.setIfInBounds_toArray, List.set_cons_zero, List.set_cons_succ]
          refine anyH_take 21 40 (.int .i64 (k : Int)) Sz3.out rfl (by kernel_rfl) (by kernel_rfl) (by kernel_rfl) (fun _ _ _ h => h) (by rfl) (by intro x hx; go_simp; try (intro h; omega)) ?_
          try simp only [Act.put, List.setIfInBounds_toArray, List.set_cons_zero, List.set_cons_succ]
          refine anyH_take 22 41 (.pointer (some ⟨GN, k, none⟩)) Sz3.out rfl (by kernel_rfl) (by kernel_rfl) (by kernel_rfl) (fun _ _ _ h => h) (by rfl) (by intro x hx; go_simp; try (intro h; omega)) ?_
          try simp only [Act.put, List.setIfInBounds_toArray, List.set_cons_zero, List.set_cons_succ]
          refine anyH_take 23 42 (.int .i64 (b : Int)) Sz3.out rfl (by kernel_rfl) (by kernel_rfl) (by kernel_rfl) (fun _ _ _ h => h) (by rfl) (by intro x hx; have hc := HNB.out x hx; go_simp) ?_
          try simp only [Act.put, List.setIfInBounds_toArray, List.set_cons_zero, List.set_cons_succ]
          refine anyH_take 25 44 (.int .i64 (k : Int)) Sz3.out rfl (by kernel_rfl) (by kernel_rfl) (by kernel_rfl) (fun _ _ _ h => h) (by rfl) (by intro x hx; go_simp; try (intro h; omega)) ?_
          try simp only [Act.put, List.setIfInBounds_toArray, List.set_cons_zero, List.set_cons_succ]
          refine anyH_one 19 (by kernel_rfl) ?_
          refine wpOp_step rfl (fun Kc hKc => ?_)
          go_simp
          refine (HRW.out a (k : Int) _ (by omega) (by omega)).mono ?_
          rintro e z4 ⟨p3, c3, rfl, HP3, HC3, hb⟩
          have Sz4 : Hid (Below w8.heap.size w8 z4) := Sz3.out.trans (hb.out.mono Sz3.out.size)
          dsimp only
          refine hKc _ _ ⟨Sz4.out, ?_⟩
          clear hKc Kc
          have HBq3 := hb; clear hb
          try simp only [Act.put, List.setIfInBounds_toArray, List.set_cons_zero, List.set_cons_succ]
          refine anyH_one 24 (by kernel_rfl) ?_
          refine wpOp_step rfl (fun Kc hKc => ?_)
          go_simp
          refine (HRW.out b 7 _ (by omega) (by omega)).mono ?_
          rintro e z5 ⟨p4, c4, rfl, HP4, HC4, hb⟩
          have Sz5 : Hid (Below w8.heap.size w8 z5) := Sz4.out.trans (hb.out.mono Sz4.out.size)
          dsimp only
          refine hKc _ _ ⟨Sz5.out, ?_⟩
          clear hKc Kc
          have HBq4 := hb; clear hb
          try simp only [Act.put, List.setIfInBounds_toArray, List.set_cons_zero, List.set_cons_succ]
          have HP3' := Lib.hid (HP3.out.old HBq4.out)
          refine anyH_one 26 (by kernel_rfl) ?_
          refine wpOp_step rfl (fun Kc hKc => ?_)
          go_simp
          refine ((HKE.out a b (k : Int) p3 p4 c3 c4 k _ Sz5.out (by omega) (by omega) HP3'.out HP4.out HC3 HC4)).mono ?_
          rintro e z6 ⟨rfl, hb⟩
          have Sz6 : Hid (Below w8.heap.size w8 z6) := Sz5.out.trans (hb.out.mono Sz5.out.size)
          dsimp only
          refine hKc _ _ ⟨Sz6.out, ?_⟩
          clear hKc Kc hb
          try simp only [Act.put, List.setIfInBounds_toArray, List.set_cons_zero, List.set_cons_succ]
          refine anyH_take 27 46 (.bool false) Sz6.out rfl (by kernel_rfl) (by kernel_rfl) (by kernel_rfl) (fun _ _ _ h => h) (by rfl) (by intro x hx; go_simp; try (intro h; omega)) ?_
          try simp only [Act.put, List.setIfInBounds_toArray, List.set_cons_zero, List.set_cons_succ]
          refine anyH_take 28 47 (.bool false) Sz6.out rfl (by kernel_rfl) (by kernel_rfl) (by kernel_rfl) (fun _ _ _ h => h) (by rfl) (by intro x hx; go_simp; try (intro h; omega)) ?_
          try simp only [Act.put, List.setIfInBounds_toArray, List.set_cons_zero, List.set_cons_succ]
          refine anyH_take 29 48 (.bool false) Sz6.out rfl (by kernel_rfl) (by kernel_rfl) (by kernel_rfl) (fun _ _ _ h => h) (by rfl) (by intro x hx; go_simp; try (intro h; omega)) ?_
          try simp only [Act.put, List.setIfInBounds_toArray, List.set_cons_zero, List.set_cons_succ]
          refine anyH_take 30 49 (.slice (some ⟨GN, 0, none⟩) 15 15) Sz6.out rfl (by kernel_rfl) (by kernel_rfl) (by kernel_rfl) (fun _ _ _ h => h) (by rfl) (by intro x hx; go_simp; try (intro h; omega)) ?_
          try simp only [Act.put, List.setIfInBounds_toArray, List.set_cons_zero, List.set_cons_succ]
          refine anyH_take 31 50 (.int .i64 (i : Int)) Sz6.out rfl (by kernel_rfl) (by kernel_rfl) (by kernel_rfl) (fun _ _ _ h => h) (by rfl) (by intro x hx; go_simp; try (intro h; omega)) ?_
          try simp only [Act.put, List.setIfInBounds_toArray, List.set_cons_zero, List.set_cons_succ]
          refine anyH_take 32 51 (.pointer (some ⟨GN, i, none⟩)) Sz6.out rfl (by kernel_rfl) (by kernel_rfl) (by kernel_rfl) (fun _ _ _ h => h) (by rfl) (by intro x hx; go_simp; try (intro h; omega)) ?_
          try simp only [Act.put, List.setIfInBounds_toArray, List.set_cons_zero, List.set_cons_succ]
          refine anyH_take 33 52 (.int .i64 (a : Int)) Sz6.out rfl (by kernel_rfl) (by kernel_rfl) (by kernel_rfl) (fun _ _ _ h => h) (by rfl) (by intro x hx; have hc := HNA.out x hx; go_simp) ?_
          try simp only [Act.put, List.setIfInBounds_toArray, List.set_cons_zero, List.set_cons_succ]
          refine anyH_take 35 54 (.slice (some ⟨GN, 0, none⟩) 15 15) Sz6.out rfl (by kernel_rfl) (by kernel_rfl) (by kernel_rfl) (fun _ _ _ h => h) (by rfl) (by intro x hx; go_simp; try (intro h; omega)) ?_
          try simp only [Act.put, List.setIfInBounds_toArray, List.set_cons_zero, List.set_cons_succ]
          refine anyH_take 36 55 (.int .i64 (k : Int)) Sz6.out rfl (by kernel_rfl) (by kernel_rfl) (by kernel_rfl) (fun _ _ _ h => h) (by rfl) (by intro x hx; go_simp; try (intro h; omega)) ?_
          try simp only [Act.put, List.setIfInBounds_toArray, List.set_cons_zero, List.set_cons_succ]
          refine anyH_take 37 56 (.pointer (some ⟨GN, k, none⟩)) Sz6.out rfl (by kernel_rfl) (by kernel_rfl) (by kernel_rfl) (fun _ _ _ h => h) (by rfl) (by intro x hx; go_simp; try (intro h; omega)) ?_
          try simp only [Act.put, List.setIfInBounds_toArray, List.set_cons_zero, List.set_cons_succ]
          refine anyH_take 38 57 (.int .i64 (b : Int)) Sz6.out rfl (by kernel_rfl) (by kernel_rfl) (by kernel_rfl) (fun _ _ _ h => h) (by rfl) (by intro x hx; have hc := HNB.out x hx; go_simp) ?_
          try simp only [Act.put, List.setIfInBounds_toArray, List.set_cons_zero, List.set_cons_succ]
          refine anyH_one 34 (by kernel_rfl) ?_
          refine wpOp_step rfl (fun Kc hKc => ?_)
          go_simp
          refine (HRW.out a 3 _ (by omega) (by omega)).mono ?_
          rintro e z7 ⟨p5, c5, rfl, HP5, HC5, hb⟩
          have Sz7 : Hid (Below w8.heap.size w8 z7) := Sz6.out.trans (hb.out.mono Sz6.out.size)
          dsimp only
          refine hKc _ _ ⟨Sz7.out, ?_⟩
          clear hKc Kc
          have HBq5 := hb; clear hb
          try simp only [Act.put, List.setIfInBounds_toArray, List.set_cons_zero, List.set_cons_succ]
          refine anyH_one 39 (by kernel_rfl) ?_
          refine wpOp_step rfl (fun Kc hKc => ?_)
          go_simp
          refine (HRW.out b 97 _ (by omega) (by omega)).mono ?_
          rintro e z8 ⟨p6, c6, rfl, HP6, HC6, hb⟩
          have Sz8 : Hid (Below w8.heap.size w8 z8) := Sz7.out.trans (hb.out.mono Sz7.out.size)
          dsimp only
          refine hKc _ _ ⟨Sz8.out, ?_⟩
          clear hKc Kc
          have HBq6 := hb; clear hb
          try simp only [Act.put, List.setIfInBounds_toArray, List.set_cons_zero, List.set_cons_succ]
          have HP5' := Lib.hid (HP5.out.old HBq6.out)
          obtain ⟨S, HSz, hcv⟩ := conv_str z8 p6 b c6 HP6.out
          refine anyH_one 40 (by kernel_rfl) ?_
          refine wpOp_step rfl (fun Kc hKc => ?_)
          go_simp
          refine hKc _ _ ⟨Sz8.out, ?_⟩
          clear hKc Kc hcv
          try simp only [Act.put, List.setIfInBounds_toArray, List.set_cons_zero, List.set_cons_succ]
          refine anyH_one 41 (by kernel_rfl) ?_
          refine wpOp_step rfl (fun Kc hKc => ?_)
          go_simp
          refine ((HDE.out a p5 c5 S _ Sz8.out (by omega) (by rw [HSz.out]; omega) HP5'.out HC5)).mono ?_
          rintro e z9 ⟨rfl, hb⟩
          have Sz9 : Hid (Below w8.heap.size w8 z9) := Sz8.out.trans (hb.out.mono Sz8.out.size)
          dsimp only
          refine hKc _ _ ⟨Sz9.out, ?_⟩
          clear hKc Kc hb
          try simp only [Act.put, List.setIfInBounds_toArray, List.set_cons_zero, List.set_cons_succ]
          refine anyH_take 42 61 (.bool false) Sz9.out rfl (by kernel_rfl) (by kernel_rfl) (by kernel_rfl) (fun _ _ _ h => h) (by rfl) (by intro x hx; go_simp; try (intro h; omega)) ?_
          try simp only [Act.put, List.setIfInBounds_toArray, List.set_cons_zero, List.set_cons_succ]
          refine anyH_take 43 62 (.bool false) Sz9.out rfl (by kernel_rfl) (by kernel_rfl) (by kernel_rfl) (fun _ _ _ h => h) (by rfl) (by intro x hx; go_simp; try (intro h; omega)) ?_
          try simp only [Act.put, List.setIfInBounds_toArray, List.set_cons_zero, List.set_cons_succ]
          refine anyH_done (by kernel_rfl) ?_ _
          have HB9 : Hid (Below w.heap.size w z9) := HB8.out.trans (Sz9.out.mono HB8.out.size)
          have HN9 : Hid (z9.heap[GN]? = some (.cells NVC 3 (0, 0))) := (Sz9.out.block _ (lt_of_block HN8.out)).trans HN8.out
          clear HB8 HN8 HNA HNB HRW HSU HKE HDE
          go_wp2
          refine ⟨⟨k + 1, by omega, by go_num, HB9, HN9⟩, ?_⟩
          simp [intOf]
          omega
        · have hge : 15 ≤ k := by omega
          clear hlk
          have hwi : IntKind.u8.wrap (i : Int) = (i : Int) := IntWalk.u8_in _ (by omega)
          have hi256 : (i : Int) % 256 = i := by omega
          obtain ⟨lf, Hlf⟩ : ∃ lf, Hid (lf = hxs [102, 102] 2) := ⟨_, rfl⟩
          obtain ⟨FF, HFF⟩ : ∃ F : Array Value, Hid (F = (lf.map (Value.int .u8)).toArray) := ⟨_, rfl⟩
          have HHX : Hid (∀ x, Calls Tryd.prog 18 #[.string ⟨#[102, 102]⟩] x fun e x' => e = .returned (.agg FF) ∧ Hid (Below x.heap.size x x')) := fun x => by
            refine (hex_two ⟨#[102, 102]⟩ [102, 102] (by decide +kernel) (by decide +kernel) x).mono ?_
            rintro e x' ⟨h1, h2⟩
            exact ⟨by rw [h1, HFF.out, Hlf.out], h2⟩
          have HSM : Hid (∀ x, Below w.heap.size w x → Calls Tryd.prog 17 #[.agg #[.int .u8 0, .int .u8 0, .int .u8 0, .int .u8 0, .int .u8 0, .int .u8 0, .int .u8 0, .int .u8 0, .int .u8 0, .int .u8 0, .int .u8 0, .int .u8 0, .int .u8 0, .int .u8 0, .int .u8 0, .int .u8 0, .int .u8 0, .int .u8 0, .int .u8 0, .int .u8 0, .int .u8 0, .int .u8 0, .int .u8 0, .int .u8 0, .int .u8 0, .int .u8 0, .int .u8 0, .int .u8 0, .int .u8 0, .int .u8 0, .int .u8 0, .int .u8 0], .agg FF, .int .i64 ((i : Int) * 9), .int .u8 (i : Int)] x fun e x' => e = .returned (.bool true) ∧ Hid (Below x.heap.size x x')) := fun x hx => by
            have h := same_law HT.out (List.replicate 32 0) lf (List.length_replicate ..) (by rw [Hlf.out]; exact hxs_len _ _) (byt_rep 32 0 (by omega)) (by rw [Hlf.out, ff_val]; intro y hy; simp at hy; omega) ((i : Int) * 9) (i : Int) ⟨by omega, by omega⟩ x (Ht.out.below hx Ht.out.lt)
            rw [← HFF.out] at h
            exact h.mono fun e x' hh => ⟨hh.1, hh.2⟩
          clear Hlf HFF
          have R0 := HB
          clear HB
          go_wp2_with (first
            | (go_at_call 17; have R := R1.out; refine (HSM.out _ R).mono ?_; rintro e y2 ⟨rfl, hb⟩; have R2 : Hid (Below w.heap.size w y2) := R.trans (hb.out.mono R.size); have HN2 : Hid (y2.heap[GN]? = some (.cells NVC 3 (0, 0))) := (hb.out.block _ (lt_of_block HN1.out)).trans HN1.out; clear R1 hb R)
            | (go_at_call 18; have R := R0.out; refine (HHX.out _).mono ?_; rintro e y1 ⟨rfl, hb⟩; have R1 : Hid (Below w.heap.size w y1) := R.trans (hb.out.mono R.size); have HN1 : Hid (y1.heap[GN]? = some (.cells NVC 3 (0, 0))) := (hb.out.block _ (lt_of_block HN.out)).trans HN.out; clear R0 hb R))
          refine ⟨⟨i + 1, by omega, by go_num, R2.out, HN2.out⟩, ?_⟩
          simp [intOf]
          omega
    · have hge : 15 ≤ i := by omega
      clear hlt
      have kc := fun (w : World) (C : Array Value) (n c : Nat) => Lib.run_convert_bytes_const (P := Tryd.prog) w 25 5 C n c Tryd.underlying25 Tryd.underlying5
      have kc2 : ∀ (x : World) (O : Obj) (C : Array Value) (n c : Nat), (convert 25 25 (.slice (some ⟨x.heap.size + 1, 0, none⟩) n c)).run Tryd.prog ((x.alloc O).alloc (.cells C 5)) = .ok (.slice (some ⟨x.heap.size + 1, 0, none⟩) n c) ((x.alloc O).alloc (.cells C 5 (C.size, C.size + 1))) := fun x O C n c => by
        have h := kc (x.alloc O) C n c
        rw [show (x.alloc O).heap.size = x.heap.size + 1 by simp] at h
        exact h
      obtain ⟨D2, HD2⟩ : ∃ D : Array Value, Hid (D = ((hm mkJ mkT).map (Value.int .u8)).toArray) := ⟨_, rfl⟩
      obtain ⟨D6, HD6⟩ : ∃ D : Array Value, Hid (D = ((hm (List.replicate 131 170) mkL).map (Value.int .u8)).toArray) := ⟨_, rfl⟩
      have HE2 : ∀ w, (Op.equalIn 10000 30 (.agg D2) (.agg D2)).run Tryd.prog w = .ok true w := fun w => by rw [HD2.out]; exact sum_same _ (hm_len _ _) w
      have HE6 : ∀ w, (Op.equalIn 10000 30 (.agg D6) (.agg D6)).run Tryd.prog w = .ok true w := fun w => by rw [HD6.out]; exact sum_same _ (hm_len _ _) w
      have HMO2 : Hid (∀ x, Below w.heap.size w x → Calls Tryd.prog 19 #[.slice (some ⟨x.heap.size, 0, none⟩) 4 4, .slice (some ⟨x.heap.size + 1, 0, none⟩) 28 28] ((x.alloc (.cells #[.int .u8 74, .int .u8 101, .int .u8 102, .int .u8 101] 5 (4, 5))).alloc (.cells #[.int .u8 119, .int .u8 104, .int .u8 97, .int .u8 116, .int .u8 32, .int .u8 100, .int .u8 111, .int .u8 32, .int .u8 121, .int .u8 97, .int .u8 32, .int .u8 119, .int .u8 97, .int .u8 110, .int .u8 116, .int .u8 32, .int .u8 102, .int .u8 111, .int .u8 114, .int .u8 32, .int .u8 110, .int .u8 111, .int .u8 116, .int .u8 104, .int .u8 105, .int .u8 110, .int .u8 103, .int .u8 63] 5 (28, 29))) fun e x' => e = .returned (.agg D2) ∧ Hid (Below x.heap.size x x')) := fun x hx => by
        have hb2 := ((Below.refl _ x).alloc (Nat.le_refl _) (.cells #[.int .u8 74, .int .u8 101, .int .u8 102, .int .u8 101] 5 (4, 5))).alloc (by simp) (.cells #[.int .u8 119, .int .u8 104, .int .u8 97, .int .u8 116, .int .u8 32, .int .u8 100, .int .u8 111, .int .u8 32, .int .u8 121, .int .u8 97, .int .u8 32, .int .u8 119, .int .u8 97, .int .u8 110, .int .u8 116, .int .u8 32, .int .u8 102, .int .u8 111, .int .u8 114, .int .u8 32, .int .u8 110, .int .u8 111, .int .u8 116, .int .u8 104, .int .u8 105, .int .u8 110, .int .u8 103, .int .u8 63] 5 (28, 29))
        refine (mac_of_any HT.out mkJ mkT (some ⟨x.heap.size, 0, none⟩) (some ⟨x.heap.size + 1, 0, none⟩) 4 28 4 28 rfl rfl _ (bat_row (l := mkJ) (heap_alloc2_old x _ _) mkJ_byt) (bat_row (l := mkT) (heap_alloc2_new x _ _) mkT_byt) (by omega) (by omega) (by omega) (by omega) (by decide) (by decide) (Ht.out.below (hx.trans (hb2.mono hx.size)) Ht.out.lt)).mono ?_
        rintro e x' ⟨h1, h2⟩
        exact ⟨by rw [h1, HD2.out], hb2.trans (h2.mono (by simp; omega))⟩
      have HX2 : Hid (∀ x, Calls Tryd.prog 18 #[.string ⟨#[53, 98, 100, 99, 99, 49, 52, 54, 98, 102, 54, 48, 55, 53, 52, 101, 54, 97, 48, 52, 50, 52, 50, 54, 48, 56, 57, 53, 55, 53, 99, 55, 53, 97, 48, 48, 51, 102, 48, 56, 57, 100, 50, 55, 51, 57, 56, 51, 57, 100, 101, 99, 53, 56, 98, 57, 54, 52, 101, 99, 51, 56, 52, 51]⟩] x fun e x' => e = .returned (.agg D2) ∧ Hid (Below x.heap.size x x')) := fun x => by
        refine (hex_any ⟨#[53, 98, 100, 99, 99, 49, 52, 54, 98, 102, 54, 48, 55, 53, 52, 101, 54, 97, 48, 52, 50, 52, 50, 54, 48, 56, 57, 53, 55, 53, 99, 55, 53, 97, 48, 48, 51, 102, 48, 56, 57, 100, 50, 55, 51, 57, 56, 51, 57, 100, 101, 99, 53, 56, 98, 57, 54, 52, 101, 99, 51, 56, 52, 51]⟩ hexJ (by decide +kernel) (by decide +kernel) x).mono ?_
        rintro e x' ⟨h1, h2⟩
        exact ⟨by rw [h1, sum_two, HD2.out], h2⟩
      have HX6 : Hid (∀ x, Calls Tryd.prog 18 #[.string ⟨#[54, 48, 101, 52, 51, 49, 53, 57, 49, 101, 101, 48, 98, 54, 55, 102, 48, 100, 56, 97, 50, 54, 97, 97, 99, 98, 102, 53, 98, 55, 55, 102, 56, 101, 48, 98, 99, 54, 50, 49, 51, 55, 50, 56, 99, 53, 49, 52, 48, 53, 52, 54, 48, 52, 48, 102, 48, 101, 101, 51, 55, 102, 53, 52]⟩] x fun e x' => e = .returned (.agg D6) ∧ Hid (Below x.heap.size x x')) := fun x => by
        refine (hex_any ⟨#[54, 48, 101, 52, 51, 49, 53, 57, 49, 101, 101, 48, 98, 54, 55, 102, 48, 100, 56, 97, 50, 54, 97, 97, 99, 98, 102, 53, 98, 55, 55, 102, 56, 101, 48, 98, 99, 54, 50, 49, 51, 55, 50, 56, 99, 53, 49, 52, 48, 53, 52, 54, 48, 52, 48, 102, 48, 101, 101, 51, 55, 102, 53, 52]⟩ hexL (by decide +kernel) (by decide +kernel) x).mono ?_
        rintro e x' ⟨h1, h2⟩
        exact ⟨by rw [h1, sum_six, HD6.out], h2⟩
      have HR6 : Hid (∀ y : World, Calls Tryd.prog 14 #[.int .i64 131, .int .u8 170] y fun e y' => ∃ p c, e = .returned (.slice p 131 c) ∧ Hid (BAt y' p (List.replicate 131 170)) ∧ (131 ≤ c ∧ c ≤ 9223372036854775807) ∧ Hid (Below y.heap.size y y')) := fun y => HRWW.out 131 170 y (by omega) (by omega)
      have HMO6 : Hid (∀ x p c, Below w.heap.size w x → BAt x p (List.replicate 131 170) → (131 ≤ c ∧ c ≤ 9223372036854775807) → Calls Tryd.prog 19 #[.slice p 131 c, .slice (some ⟨x.heap.size, 0, none⟩) 54 54] (x.alloc (.cells #[.int .u8 84, .int .u8 101, .int .u8 115, .int .u8 116, .int .u8 32, .int .u8 85, .int .u8 115, .int .u8 105, .int .u8 110, .int .u8 103, .int .u8 32, .int .u8 76, .int .u8 97, .int .u8 114, .int .u8 103, .int .u8 101, .int .u8 114, .int .u8 32, .int .u8 84, .int .u8 104, .int .u8 97, .int .u8 110, .int .u8 32, .int .u8 66, .int .u8 108, .int .u8 111, .int .u8 99, .int .u8 107, .int .u8 45, .int .u8 83, .int .u8 105, .int .u8 122, .int .u8 101, .int .u8 32, .int .u8 75, .int .u8 101, .int .u8 121, .int .u8 32, .int .u8 45, .int .u8 32, .int .u8 72, .int .u8 97, .int .u8 115, .int .u8 104, .int .u8 32, .int .u8 75, .int .u8 101, .int .u8 121, .int .u8 32, .int .u8 70, .int .u8 105, .int .u8 114, .int .u8 115, .int .u8 116] 5 (54, 55))) fun e x' => e = .returned (.agg D6) ∧ Hid (Below x.heap.size x x')) := fun x p c hx hp hc => by
        have hb2 := (Below.refl _ x).alloc (Nat.le_refl _) (.cells #[.int .u8 84, .int .u8 101, .int .u8 115, .int .u8 116, .int .u8 32, .int .u8 85, .int .u8 115, .int .u8 105, .int .u8 110, .int .u8 103, .int .u8 32, .int .u8 76, .int .u8 97, .int .u8 114, .int .u8 103, .int .u8 101, .int .u8 114, .int .u8 32, .int .u8 84, .int .u8 104, .int .u8 97, .int .u8 110, .int .u8 32, .int .u8 66, .int .u8 108, .int .u8 111, .int .u8 99, .int .u8 107, .int .u8 45, .int .u8 83, .int .u8 105, .int .u8 122, .int .u8 101, .int .u8 32, .int .u8 75, .int .u8 101, .int .u8 121, .int .u8 32, .int .u8 45, .int .u8 32, .int .u8 72, .int .u8 97, .int .u8 115, .int .u8 104, .int .u8 32, .int .u8 75, .int .u8 101, .int .u8 121, .int .u8 32, .int .u8 70, .int .u8 105, .int .u8 114, .int .u8 115, .int .u8 116] 5 (54, 55))
        refine (mac_of_any HT.out (List.replicate 131 170) mkL p (some ⟨x.heap.size, 0, none⟩) 131 54 c 54 (List.length_replicate ..) rfl _ (hp.old hb2) (bat_row (l := mkL) (heap_alloc_new x _) mkL_byt) hc.1 hc.2 (by omega) (by omega) (by rw [List.length_replicate]; omega) (by decide) (Ht.out.below (hx.trans (hb2.mono hx.size)) Ht.out.lt)).mono ?_
        rintro e x' ⟨h1, h2⟩
        exact ⟨by rw [h1, HD6.out], hb2.trans (h2.mono (by simp))⟩
      have HDV : Hid (∀ x, Below w.heap.size w x → Calls Tryd.prog 20 #[.slice (some ⟨x.heap.size, 0, none⟩) 4 4, .string ⟨#[119, 104, 97, 116, 32, 100, 111, 32, 121, 97, 32, 119, 97, 110, 116, 32, 102, 111, 114, 32, 110, 111, 116, 104, 105, 110, 103, 63]⟩] (x.alloc (.cells #[.int .u8 74, .int .u8 101, .int .u8 102, .int .u8 101] 5 (4, 5))) fun e x' => e = .returned (.agg D2) ∧ Hid (Below x.heap.size x x')) := fun x hx => by
        have hb2 := (Below.refl _ x).alloc (Nat.le_refl _) (.cells #[.int .u8 74, .int .u8 101, .int .u8 102, .int .u8 101] 5 (4, 5))
        refine (derive_any HT.out mkJ ⟨#[119, 104, 97, 116, 32, 100, 111, 32, 121, 97, 32, 119, 97, 110, 116, 32, 102, 111, 114, 32, 110, 111, 116, 104, 105, 110, 103, 63]⟩ (some ⟨x.heap.size, 0, none⟩) 4 4 rfl (by omega) (by decide +kernel) _ (bat_row (l := mkJ) (heap_alloc_new x _) mkJ_byt) (by omega) (by omega) (Ht.out.below (hx.trans (hb2.mono hx.size)) Ht.out.lt)).mono ?_
        rintro e x' ⟨h1, h2⟩
        exact ⟨by rw [h1, bl_mkT, HD2.out], hb2.trans (h2.mono (by simp))⟩
      have HWK : Hid (∀ x, Below w.heap.size w x → Calls Tryd.prog 21 #[] x fun e x' => e = .returned (.bool true) ∧ Hid (Below x.heap.size x x')) := fun x hx => (works_any HT.out x (Ht.out.below hx Ht.out.lt)).mono fun e x' hh => ⟨hh.1, hh.2⟩
      have R0 := HB
      clear HB HN HD2 HD6 HT Ht Hk
      generalize wr = y0 at *
      go_wp2_with (first
        | (go_at_call 21; have R := R7.out; refine (HWK.out _ R).mono ?_; rintro e y8 ⟨rfl, hb⟩; have R8 : Hid (Below w.heap.size w y8) := R.trans (hb.out.mono R.size); clear R7 hb R)
        | (go_at_call 19; have R := R6.out; refine (HMO2.out y6 R).mono ?_; rintro e y7 ⟨rfl, hb⟩; have R7 : Hid (Below w.heap.size w y7) := R.trans (hb.out.mono R.size); clear R6 hb R)
        | (go_at_call 20; have R := R5.out; refine (HDV.out y5 R).mono ?_; rintro e y6 ⟨rfl, hb⟩; have R6 : Hid (Below w.heap.size w y6) := R.trans (hb.out.mono R.size); clear R5 hb R)
        | (go_at_call 18; have R := R4.out; refine (HX6.out _).mono ?_; rintro e y5 ⟨rfl, hb⟩; have R5 : Hid (Below w.heap.size w y5) := R.trans (hb.out.mono R.size); clear R4 hb R)
        | (go_at_call 19; have R := R3.out; refine (HMO6.out y3 p3 c3 R HP3.out HC3).mono ?_; rintro e y4 ⟨rfl, hb⟩; have R4 : Hid (Below w.heap.size w y4) := R.trans (hb.out.mono R.size); clear R3 hb R)
        | (go_at_call 14; have R := R2.out; refine (HR6.out _).mono ?_; rintro e y3 ⟨p3, c3, rfl, HP3, HC3, hb⟩; have R3 : Hid (Below w.heap.size w y3) := R.trans (hb.out.mono R.size); clear R2 hb R)
        | (go_at_call 18; have R := R1.out; refine (HX2.out _).mono ?_; rintro e y2 ⟨rfl, hb⟩; have R2 : Hid (Below w.heap.size w y2) := R.trans (hb.out.mono R.size); clear R1 hb R)
        | (go_at_call 19; have R := R0.out; refine (HMO2.out y0 R).mono ?_; rintro e y1 ⟨rfl, hb⟩; have R1 : Hid (Below w.heap.size w y1) := R.trans (hb.out.mono R.size); clear R0 hb R))
      go_ret
      exact ⟨rfl, R8.out⟩

end Go.Proofs.YtjidkkehhglahaaDoor
