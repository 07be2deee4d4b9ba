/-
  Contract: rillref02.Block.
-/
import Derived.Test.YtjidkkehhglahaaDoorMacE
namespace Go.Proofs.YtjidkkehhglahaaDoor
open Go.RowKit

theorem own_block {w : World} {B n g c : Nat} {xs : List Value} (h : w.ownsRow B 5 1 (.slice (some ⟨g, 0, none⟩) n c) n xs) : B ≤ g ∧ ∃ cur : Array Value, w.heap[g]? = some (.cells cur 5 (0, 0)) ∧ n ≤ c ∧ c ≤ maxLen ∧ cur.size = c * 1 ∧ cur.toList.take (n * 1) = xs := by
  rcases h.2 with ⟨h1, _⟩ | ⟨g', cap, cur, h1, h2, h3, h4, h5, h6, h7⟩
  · cases h1
  · cases h1; exact ⟨h2, cur, h3, h4, h5, h6, h7⟩
theorem own_set {w : World} {B n g c k : Nat} {l : List Int} {x : Int} (h : w.ownsRow B 5 1 (.slice (some ⟨g, 0, none⟩) n c) n (U8s l)) (hk : k < n) :
    (w.setCell ⟨g, k, none⟩ (.int .u8 x)).ownsRow B 5 1 (.slice (some ⟨g, 0, none⟩) n c) n (U8s (l.set k x)) := by
  obtain ⟨h2, cur, h3, h4, h5, h6, h7⟩ := own_block h
  have hl : l.length = n := by
    have := h.1
    unfold U8s at this
    simpa using this
  refine ⟨by unfold U8s; simp [hl], Or.inr ⟨g, c, cur.setIfInBounds k (.int .u8 x), rfl, h2, heap_setCell_same w g k _ _ _ h3, h4, h5, by simpa using h6, ?_⟩⟩
  unfold U8s at h7 ⊢
  rw [Array.toList_setIfInBounds, List.take_set, h7, List.map_set]
theorem own_frozen {w : World} {B n g c : Nat} {xs : List Value} (h : w.ownsRow B 5 1 (.slice (some ⟨g, 0, none⟩) n c) n xs) (k : Nat) : w.frozen? ⟨g, k, none⟩ = false := by
  obtain ⟨_, cur, h3, _⟩ := own_block h
  exact frozen_of_row w g k _ _ h3
theorem own_mono {w : World} {B B' n : Nat} {e : TypeId} {v : Value} {xs : List Value} (h : w.ownsRow B e 1 v n xs) (hb : B' ≤ B) : w.ownsRow B' e 1 v n xs := by
  refine ⟨h.1, ?_⟩
  rcases h.2 with h1 | ⟨g, cap, cur, h1, h2, h3⟩
  · exact Or.inl h1
  · exact Or.inr ⟨g, cap, cur, h1, Nat.le_trans hb h2, h3⟩
theorem xl_kb_len (x : Int) (K : List Int) : (xl x (kb K)).length = 64 := by rw [xl_len, kb_len]
theorem k64_rep (K : List Int) (z : Nat) (h : K.length + z = 64) : K ++ List.replicate z 0 = k64 K := by
  unfold k64
  congr 2
  omega

def BlockSay (x : Int) (K : List Int) (w : World) (e : Ending) (w' : World) : Prop := ∃ v, e = .returned v ∧ w'.ownsRow w.heap.size 5 1 v 64 (U8s (xl x (kb K))) ∧ Below w.heap.size w w'

set_option maxHeartbeats 2000000 in
set_option maxRecDepth 100000 in
theorem block_short (x : Int) (K : List Int) (p : Option Addr) (n cap : Nat) (hn : K.length = n) (hk : n ≤ 64) (w : World) (hp : BAt w p K) :
    Calls Tryd.prog 42 #[.slice p n cap, .int .u8 x] w (BlockSay x K w) := by
  subst hn
  obtain ⟨i0, hi, hz0, hz1, hz2⟩ := info_parts Tryd.info_u8
  have Hp := Lib.hid hp; clear hp
  have HKB : Hid (k64 K = kb K) := (kb_short K hk).symm
  go_enter Tryd.func42, Tryd.ntmps42
  go_wp2
  go_loopw [5, 6] (fun v i wr => ∃ k : Nat, k ≤ K.length ∧ i = .int .i64 k ∧ Hid (wr.ownsRow w.heap.size 5 1 v k (U8s (K.take k))) ∧ Hid (Below w.heap.size w wr)) (fun _ i _ => K.length - (intOf i).toNat)
  case atStart => exact ⟨0, Nat.zero_le _, rfl, by unfold U8s; exact World.ownsRow_nil _ _ _ _, Below.refl _ _⟩
  case round =>
    obtain ⟨k, hk', rfl, HO, HB⟩ := hrel
    by_cases hlt : k < K.length
    · obtain ⟨ab, ao, hpp, hcs⟩ := (Hp.out.old HB.out).2 (by omega)
      subst hpp
      have c0 := hcs k hlt
      clear hcs
      obtain ⟨y, hy⟩ : ∃ y, K.getD k 0 = y := ⟨_, rfl⟩
      rw [hy] at c0
      go_wp2_with (first
        | (at_builtin; refine wpList_append_own _ rfl _ _ 25 rfl w.heap.size 5 i0 (.int .u8 0) 1 1 Tryd.underlying25 hi hz0 hz1 hz2 rfl (by decide) _ _ _ rfl (HO.out.alloc _) ⟨wr.heap.size, 0, none⟩ 1 1 [.int .u8 y] rfl rfl (u8_cell _ _ _) (u8_one _) (by unfold maxLen; omega) (by omega) (by have := HB.out.size; simp; omega) ?_)
        | go_in)
      intro v' w1 hown' hgrow _
      have hb1 := below_own HB.out (HB.out.size) HO.out hgrow
      rw [U8s_snoc, ← hy, take_snoc K k hlt] at hown'
      clear hgrow HO HB
      go_wp2
      exact ⟨⟨k + 1, by omega, by go_num, hown', hb1⟩, by simp [intOf]; omega⟩
    · have E : k = K.length := by omega
      have HO0 : Hid (wr.ownsRow w.heap.size 5 1 u5 K.length (U8s K)) := by
        have := HO.out
        rw [E, List.take_length] at this
        exact this
      have HB0 := HB
      have hge : K.length ≤ k := by omega
      clear hlt HO E HB
      go_wp2
      go_loopw [5] (fun v wr => ∃ z : Nat, K.length + z ≤ 64 ∧ lenOf v = K.length + z ∧ Hid (wr.ownsRow w.heap.size 5 1 v (K.length + z) (U8s (K ++ List.replicate z 0))) ∧ Hid (Below w.heap.size w wr)) (fun v _ => 64 - lenOf v)
      case atStart =>
        refine ⟨0, by omega, ?_, ?_, HB0.out⟩
        · obtain ⟨p, c, rfl⟩ := own_slice HO0.out
          rfl
        · have h := HO0.out
          show World.ownsRow _ _ _ _ _ _ _
          simpa using h
      case round =>
        clear HO0 HB0
        obtain ⟨z, hz, hlv, HO, HB⟩ := hrel
        obtain ⟨pv, cv, hv⟩ := own_slice HO.out
        rw [hv] at HO hlv ⊢
        clear hv hlv
        by_cases hzl : K.length + z < 64
        · go_wp2_with (first
            | (at_builtin; refine wpList_append_own _ rfl _ _ 25 rfl w.heap.size 5 i0 (.int .u8 0) 1 1 Tryd.underlying25 hi hz0 hz1 hz2 rfl (by decide) _ _ _ rfl (HO.out.alloc _) ⟨wr.heap.size, 0, none⟩ 1 1 [.int .u8 0] rfl rfl (u8_cell _ _ _) (u8_one _) (by unfold maxLen; omega) (by omega) (by have := HB.out.size; simp; omega) ?_)
            | go_in)
          intro v' w1 hown' hgrow _
          have hb1 := below_own HB.out (HB.out.size) HO.out hgrow
          rw [U8s_snoc, List.append_assoc, rep_snoc] at hown'
          have hl' : lenOf v' = K.length + z + 1 := by
            obtain ⟨p, c, rfl⟩ := own_slice hown'
            rfl
          clear hgrow HO HB
          go_wp2
          exact ⟨⟨z + 1, by omega, hl', hown', hb1⟩, by rw [hl']; simp [lenOf]; omega⟩
        · have hz64 : K.length + z = 64 := by omega
          have HO4 : Hid (wr.ownsRow w.heap.size 5 1 (.slice pv (K.length + z) cv) 64 (U8s (mx x (kb K) 0))) := by
            have h := HO.out
            rw [k64_rep K z (by omega), HKB.out] at h
            rw [mx_zero]
            rw [hz64] at h ⊢
            exact h
          clear HO
          obtain ⟨g4, hp4⟩ : ∃ g4, pv = some ⟨g4, 0, none⟩ := by
            obtain ⟨g, c, h⟩ := own_some HO4.out (by decide)
            injection h with h1 _ _
            exact ⟨g, h1⟩
          subst hp4
          have hz2' : 64 ≤ K.length + z := by omega
          rw [hz64] at HO4 ⊢
          go_wp2
          go_loopw [9] (fun v9 wr => ∃ k : Nat, k ≤ 64 ∧ v9 = .int .i64 k ∧ Hid (wr.ownsRow w.heap.size 5 1 (.slice (some ⟨g4, 0, none⟩) 64 cv) 64 (U8s (mx x (kb K) k))) ∧ Hid (Below w.heap.size w wr)) (fun v9 _ => 64 - (intOf v9).toNat)
          case atStart => exact ⟨0, by omega, rfl, HO4.out, HB.out⟩
          case round =>
            clear HO4 HB
            obtain ⟨k, hk, rfl, HO, HB⟩ := hrel
            by_cases hk64 : k < 64
            · have c0 := u8_at HO.out k hk64
              rw [mx_get x (kb K) k (by rw [kb_len]; exact hk64)] at c0
              have f0 := own_frozen HO.out k
              have hgB := (own_block HO.out).1
              have HF : Hid ((mx x (kb K) k).set k (bits .xor .u8 ((kb K).getD k 0) x) = mx x (kb K) (k + 1)) := mx_step x (kb K) k (by rw [kb_len]; exact hk64)
              generalize (kb K).getD k 0 = y at *
              go_wp2
              refine ⟨⟨k + 1, by omega, by go_num, ?_, ?_⟩, by simp [intOf]; omega⟩
              · have h := own_set (k := k) (x := bits .xor .u8 y x) HO.out hk64
                rw [HF.out] at h
                exact h
              · exact HB.out.setCell hgB _
            · have E : k = 64 := by omega
              subst E
              have h := HO.out
              rw [mx_all x (kb K) 64 (by rw [kb_len]; omega)] at h
              have HF := Lib.hid h
              clear h HO
              go_wp2
              go_ret
              exact ⟨_, rfl, HF.out, HB.out⟩

set_option maxHeartbeats 2000000 in
set_option maxRecDepth 100000 in
theorem block_long (x : Int) (K : List Int) (p : Option Addr) (n cap : Nat) (hn : K.length = n) (hk : 64 < n) (hkm : n ≤ 1000000) (w : World) (hp : BAt w p K) (htk : Tab w 1) :
    Calls Tryd.prog 42 #[.slice p n cap, .int .u8 x] w (BlockSay x K w) := by
  subst hn
  obtain ⟨i0, hi, hz0, hz1, hz2⟩ := info_parts Tryd.info_u8
  have Hp := Lib.hid hp; clear hp
  have Hk := Lib.hid htk; clear htk
  have HKB : Hid (k64 (Sha.dg K) = kb K) := (kb_long K hk).symm
  obtain ⟨D, HD1, HD2, HD3⟩ : ∃ A : Array Value, Hid (A = ((Sha.dg K).map (Value.int .u8)).toArray) ∧ Hid (A.size = 32) ∧ Hid (A.all (·.oneCell') = true) :=
    ⟨_, rfl, by show _ = _; simp [dg_len], all_oneCell_toArray (bytes_one _)⟩
  have HD32 : Hid ((Sha.dg K).length = 32) := dg_len K
  have hkn : 64 < (K.length : Int) := by omega
  go_enter Tryd.func42, Tryd.ntmps42
  go_wp2
  go_loopw [5, 6] (fun v5 v6 wr => v5 = .slice none 0 0 ∧ v6 = .int .i64 0 ∧ wr = w) (fun _ _ _ => 0)
  case atStart => exact ⟨rfl, rfl, rfl⟩
  case round =>
    obtain ⟨rfl, rfl, rfl⟩ := hrel
    go_upto_region 8 with (first
      | (go_at_call 26; refine (ref_of_any K p cap _ (fun g hg => Hp.out.bytes g hg) hkm Hk.out).mono ?_; rintro e w1 ⟨rfl, hb1⟩; rw [← HD1.out]; have HB1 := Lib.hid hb1; clear hb1)
      | ((with_reducible refine row_store _ _ _ _ _ _ _ ?_ ?_ (heap_alloc_new _ _) (row_size Tryd.sizeSum HD2) ?_ HD3.out ?_); (exact rfl); (exact rfl); (rw [HD2.out]; rfl); intro w2 g2 ch2))
    have hs1 : wr.heap.size ≤ w1.heap.size := HB1.out.size
    have BW2 : Hid (Below wr.heap.size wr w2) := ch2.below (HB1.out.alloc hs1 _) hs1
    have hs2 : w1.heap.size < w2.heap.size := by rw [ch2.size]; simp
    have G2 : Hid (w2.heap[w1.heap.size]? = some (.cells ((Sha.dg K).map (Value.int .u8)).toArray 30 (0, 0))) := by
      have h := g2.out
      rw [HD1.out] at h
      exact h
    clear g2 ch2 HB1
    have hs12 : wr.heap.size ≤ w2.heap.size := by omega
    generalize w1.heap.size = G1 at *
    generalize wr = w at *
    go_wp2
    go_loopw [5, 8] (fun v i wr => ∃ k : Nat, k ≤ 32 ∧ i = .int .i64 k ∧ Hid (wr.ownsRow w2.heap.size 5 1 v (0 + k) (U8s ([] ++ (Sha.dg K).take k))) ∧ Hid (Below w2.heap.size w2 wr)) (fun _ i _ => 32 - (intOf i).toNat)
    case atStart => exact ⟨0, Nat.zero_le _, rfl, by unfold U8s; exact World.ownsRow_nil _ _ _ _, Below.refl _ _⟩
    case round =>
      obtain ⟨k, hk', rfl, HO, HB⟩ := hrel
      simp only [Nat.zero_add, List.nil_append] at HO
      by_cases hlt : k < 32
      · have c0 := row_cell ((HB.out.block _ hs2).trans G2.out) k (by rw [HD32.out]; exact hlt)
        obtain ⟨y, hy⟩ : ∃ y, (Sha.dg K).getD k 0 = y := ⟨_, rfl⟩
        rw [hy] at c0
        go_wp2_with (first
          | (at_builtin; refine wpList_append_own _ rfl _ _ 25 rfl w2.heap.size 5 i0 (.int .u8 0) 1 1 Tryd.underlying25 hi hz0 hz1 hz2 rfl (by decide) _ _ _ rfl (HO.out.alloc _) ⟨wr.heap.size, 0, none⟩ 1 1 [.int .u8 y] rfl rfl (u8_cell _ _ _) (u8_one _) (by unfold maxLen; omega) (by omega) (by have := HB.out.size; simp; omega) ?_)
          | go_in)
        intro v' w1 hown' hgrow _
        have hb1 := below_own HB.out (HB.out.size) HO.out hgrow
        rw [U8s_snoc, ← hy, take_snoc (Sha.dg K) k (by rw [HD32.out]; exact hlt)] at hown'
        clear hgrow HO HB
        go_wp2
        exact ⟨⟨k + 1, by omega, by go_num, by show World.ownsRow _ _ _ _ _ _ _; simpa using hown', hb1⟩, by simp [intOf]; omega⟩
      · have E : k = 32 := by omega
        have HO0 : Hid (wr.ownsRow w.heap.size 5 1 u5 32 (U8s (Sha.dg K))) := by
          have := HO.out
          rw [E, List.take_of_length_le (by rw [HD32.out]; omega)] at this
          exact own_mono this hs12
        have HB0 : Hid (Below w.heap.size w wr) := BW2.out.trans (HB.out.mono hs12)
        have hge : 32 ≤ k := by omega
        clear hlt HO E HB
        go_wp2
        go_loopw [5] (fun v wr => ∃ z : Nat, 32 + z ≤ 64 ∧ lenOf v = 32 + z ∧ Hid (wr.ownsRow w.heap.size 5 1 v (32 + z) (U8s ((Sha.dg K) ++ List.replicate z 0))) ∧ Hid (Below w.heap.size w wr)) (fun v _ => 64 - lenOf v)
        case atStart =>
          refine ⟨0, by omega, ?_, ?_, HB0.out⟩
          · obtain ⟨p, c, rfl⟩ := own_slice HO0.out
            rfl
          · have h := HO0.out
            show World.ownsRow _ _ _ _ _ _ _
            simpa using h
        case round =>
          clear HO0 HB0
          obtain ⟨z, hz, hlv, HO, HB⟩ := hrel
          obtain ⟨pv, cv, hv⟩ := own_slice HO.out
          rw [hv] at HO hlv ⊢
          clear hv hlv
          by_cases hzl : 32 + z < 64
          · go_wp2_with (first
              | (at_builtin; refine wpList_append_own _ rfl _ _ 25 rfl w.heap.size 5 i0 (.int .u8 0) 1 1 Tryd.underlying25 hi hz0 hz1 hz2 rfl (by decide) _ _ _ rfl (HO.out.alloc _) ⟨wr.heap.size, 0, none⟩ 1 1 [.int .u8 0] rfl rfl (u8_cell _ _ _) (u8_one _) (by unfold maxLen; omega) (by omega) (by have := HB.out.size; simp; omega) ?_)
              | go_in)
            intro v' w1 hown' hgrow _
            have hb1 := below_own HB.out (HB.out.size) HO.out hgrow
            rw [U8s_snoc, List.append_assoc, rep_snoc] at hown'
            have hl' : lenOf v' = 32 + z + 1 := by
              obtain ⟨p, c, rfl⟩ := own_slice hown'
              rfl
            clear hgrow HO HB
            go_wp2
            exact ⟨⟨z + 1, by omega, hl', hown', hb1⟩, by rw [hl']; simp [lenOf]; omega⟩
          · have hz64 : 32 + z = 64 := by omega
            have HO4 : Hid (wr.ownsRow w.heap.size 5 1 (.slice pv (32 + z) cv) 64 (U8s (mx x (kb K) 0))) := by
              have h := HO.out
              rw [k64_rep (Sha.dg K) z (by rw [HD32.out]; omega), HKB.out] at h
              rw [mx_zero]
              rw [hz64] at h ⊢
              exact h
            clear HO
            obtain ⟨g4, hp4⟩ : ∃ g4, pv = some ⟨g4, 0, none⟩ := by
              obtain ⟨g, c, h⟩ := own_some HO4.out (by decide)
              injection h with h1 _ _
              exact ⟨g, h1⟩
            subst hp4
            have hz2' : 64 ≤ 32 + z := by omega
            rw [hz64] at HO4 ⊢
            go_wp2
            go_loopw [9] (fun v9 wr => ∃ k : Nat, k ≤ 64 ∧ v9 = .int .i64 k ∧ Hid (wr.ownsRow w.heap.size 5 1 (.slice (some ⟨g4, 0, none⟩) 64 cv) 64 (U8s (mx x (kb K) k))) ∧ Hid (Below w.heap.size w wr)) (fun v9 _ => 64 - (intOf v9).toNat)
            case atStart => exact ⟨0, by omega, rfl, HO4.out, HB.out⟩
            case round =>
              clear HO4 HB
              obtain ⟨k, hk, rfl, HO, HB⟩ := hrel
              by_cases hk64 : k < 64
              · have c0 := u8_at HO.out k hk64
                rw [mx_get x (kb K) k (by rw [kb_len]; exact hk64)] at c0
                have f0 := own_frozen HO.out k
                have hgB := (own_block HO.out).1
                have HF : Hid ((mx x (kb K) k).set k (bits .xor .u8 ((kb K).getD k 0) x) = mx x (kb K) (k + 1)) := mx_step x (kb K) k (by rw [kb_len]; exact hk64)
                generalize (kb K).getD k 0 = y at *
                go_wp2
                refine ⟨⟨k + 1, by omega, by go_num, ?_, ?_⟩, by simp [intOf]; omega⟩
                · have h := own_set (k := k) (x := bits .xor .u8 y x) HO.out hk64
                  rw [HF.out] at h
                  exact h
                · exact HB.out.setCell hgB _
              · have E : k = 64 := by omega
                subst E
                have h := HO.out
                rw [mx_all x (kb K) 64 (by rw [kb_len]; omega)] at h
                have HF := Lib.hid h
                clear h HO
                go_wp2
                go_ret
                exact ⟨_, rfl, HF.out, HB.out⟩


theorem block_any (x : Int) (K : List Int) (p : Option Addr) (n cap : Nat) (hn : K.length = n) (hkm : n ≤ 1000000) (w : World) (hp : BAt w p K) (htk : Tab w 1) :
    Calls Tryd.prog 42 #[.slice p n cap, .int .u8 x] w (BlockSay x K w) := by
  by_cases h : n ≤ 64
  · exact block_short x K p n cap hn h w hp
  · exact block_long x K p n cap hn (by omega) hkm w hp htk

end Go.Proofs.YtjidkkehhglahaaDoor
