/-
  The law MacInner walked: two hashes under way.
-/
import Derived.Test.YtamdmkknaobgcaaDoorMacG
namespace Go.Proofs.YtamdmkknaobgcaaDoor
open Go.RowKit

theorem Holds.only {wi w' : World} {G G2 : Nat} {L : List Int} (h : Holds wi G2 L) (ho : Only G wi w') (hne : G2 ≠ G) : Holds w' G2 L := by
  obtain ⟨R, h1, h2⟩ := h
  refine ⟨R, h1, ?_⟩
  unfold HBlk at h2 ⊢
  rw [ho.block _ (lt_of_block h2) hne]
  exact h2
/-- Two hashes under way. -/
def S2 (w wi : World) (G1 G2 : Nat) (L1 L2 : List Int) : Prop := St w wi G1 L1 ∧ St w wi G2 L2 ∧ G1 ≠ G2
theorem S2.alloc {w wi : World} {G1 G2 : Nat} {L1 L2 : List Int} (h : S2 w wi G1 G2 L1 L2) (o : Obj) : S2 w (wi.alloc o) G1 G2 L1 L2 :=
  ⟨h.1.below ((Below.refl _ wi).alloc (Nat.le_refl _) o), h.2.1.below ((Below.refl _ wi).alloc (Nat.le_refl _) o), h.2.2⟩
theorem S2.below {w wi w' : World} {G1 G2 : Nat} {L1 L2 : List Int} (h : S2 w wi G1 G2 L1 L2) (hb : Below wi.heap.size wi w') : S2 w w' G1 G2 L1 L2 :=
  ⟨h.1.below hb, h.2.1.below hb, h.2.2⟩
theorem St.other {w wi w' : World} {G G2 : Nat} {L : List Int} (h : St w wi G2 L) (hb : Below w.heap.size w w') (ht : Tab w' 1) (ho : Only G wi w') (hne : G2 ≠ G) : St w w' G2 L :=
  ⟨h.1.only ho hne, hb, ht, h.2.2.2.1, h.2.2.2.2.1, Nat.le_trans h.2.2.2.2.2 ho.size⟩
theorem add_one (hT : TakeSaid) {w wi : World} {G1 G2 : Nat} {L1 L2 : List Int} (c : List Int) (p : Option Addr) (n cap : Nat) (hn : c.length = n) (hs : S2 w wi G1 G2 L1 L2) (hb : BytesAt wi G1 p c) (hc : n ≤ cap) (hcm : cap ≤ 9223372036854775807) (hL : L1.length + n ≤ 1152921504606846000) :
    Calls Tryd.prog 20 #[.pointer (some ⟨G1, 0, none⟩), .slice p n cap] wi fun e w' => e = .returned (.tuple #[]) ∧ S2 w w' G1 G2 (L1 ++ c) L2 :=
  (add_st hT c p n cap hn hs.1 hb hc hcm hL).mono fun _ _ h => ⟨h.1, h.2.1, hs.2.1.other h.2.1.2.1 h.2.1.2.2.1 h.2.2 (Ne.symm hs.2.2), hs.2.2⟩
theorem add_two (hT : TakeSaid) {w wi : World} {G1 G2 : Nat} {L1 L2 : List Int} (c : List Int) (p : Option Addr) (n cap : Nat) (hn : c.length = n) (hs : S2 w wi G1 G2 L1 L2) (hb : BytesAt wi G2 p c) (hc : n ≤ cap) (hcm : cap ≤ 9223372036854775807) (hL : L2.length + n ≤ 1152921504606846000) :
    Calls Tryd.prog 20 #[.pointer (some ⟨G2, 0, none⟩), .slice p n cap] wi fun e w' => e = .returned (.tuple #[]) ∧ S2 w w' G1 G2 L1 (L2 ++ c) :=
  (add_st hT c p n cap hn hs.2.1 hb hc hcm hL).mono fun _ _ h => ⟨h.1, hs.1.other h.2.1.2.1 h.2.1.2.2.1 h.2.2 hs.2.2, h.2.1, hs.2.2⟩
/-- One byte in a block of the call's own. -/
theorem one_byte (w : World) (x : Int) (t : TypeId) (g : Nat) (hx : 0 ≤ x ∧ x ≤ 255) (hg : g < w.heap.size) : BytesAt (w.alloc (.cells #[.int .u8 x] t)) g (some ⟨w.heap.size, 0, none⟩) [x] :=
  bytes_at' (l := [x]) (t := t) (fun y hy => by simp at hy; subst hy; exact hx) (by omega) (heap_alloc_new w _)

theorem bytes_nil {w : World} {g : Nat} {p : Option Addr} {l : List Int} (h : l.length = 0) : BytesAt w g p l := by
  obtain rfl : l = [] := List.eq_nil_of_length_eq_zero h
  exact ⟨fun x hx => by simp at hx, fun h0 => by simp at h0⟩
theorem bat_bytes {w : World} {g B : Nat} {p : Option Addr} {l : List Int} (h : BAt w p l) (hp : p = some ⟨B, 0, none⟩) (hne : B ≠ g) : BytesAt w g p l :=
  ⟨h.1, fun h0 => by
    obtain ⟨ab, ao, h1, h2⟩ := h.2 h0
    rw [hp] at h1
    cases h1
    exact ⟨B, 0, hp, hne, h2⟩⟩
theorem lt_holds {w wi : World} {G : Nat} {L : List Int} (h : St w wi G L) : G < wi.heap.size := by
  obtain ⟨R, _, h2⟩ := h.1
  exact lt_of_block h2

theorem k64_get (K : List Int) (j : Nat) (h1 : K.length ≤ 64) (h2 : j < 64) : (kb K).getD j 0 = if j < K.length then K.getD j 0 else 0 := by
  rw [kb_short K h1]
  unfold k64
  rw [List.getD_eq_getElem?_getD]
  by_cases h : j < K.length
  · rw [if_pos h, List.getElem?_append_left h, List.getD_eq_getElem?_getD]
  · rw [if_neg h, List.getElem?_append_right (by omega), List.getElem?_replicate, if_pos (by omega)]
    rfl
theorem xl_get (x : Int) (l : List Int) (j : Nat) (h : j < l.length) : (xl x l).take j ++ [bits .xor .u8 (l.getD j 0) x] = (xl x l).take (j + 1) := by
  rw [← take_snoc (xl x l) j (by rw [xl_len]; exact h)]
  congr 2
  unfold xl
  rw [List.getD_eq_getElem?_getD, List.getD_eq_getElem?_getD, List.getElem?_map, List.getElem?_eq_getElem h]
  rfl

set_option maxHeartbeats 1000000 in
set_option maxRecDepth 100000 in
theorem inner_long (hT : TakeSaid) (p q : Option Addr) (n m c d : Nat) (i : Int) (w : World) (hn : 64 < n ∨ 16384 < m) (ht : Tab w 1) :
    Calls Tryd.prog 13 #[.slice p n c, .slice q m d, .int .i64 i] w (YesSay w) := by
  have HT := Lib.hid hT; clear hT
  have Ht := Lib.hid ht; clear ht
  by_cases h1 : 64 < n
  · go_enter Tryd.func13, Tryd.ntmps13
    go_wp2_with (go_at_call 25; refine (works_any HT.out _ Ht.out).mono ?_; rintro e w1 ⟨rfl, hb1⟩)
    go_ret
    exact ⟨rfl, hb1⟩
  · have h2 : 16384 < m := by omega
    go_enter Tryd.func13, Tryd.ntmps13
    go_wp2_with (go_at_call 25; refine (works_any HT.out _ Ht.out).mono ?_; rintro e w1 ⟨rfl, hb1⟩)
    go_ret
    exact ⟨rfl, hb1⟩

set_option maxHeartbeats 2000000 in
set_option maxRecDepth 100000 in
theorem inner_some (hT : TakeSaid) (K b : List Int) (p : Option Addr) (ab ao : Nat) (n m c d : Nat) (hn : K.length = n) (hm' : b.length = m) (i : Int) (w : World) (hk : n ≤ 64) (hml : m ≤ 16384) (hp : BAt w p K) (hq : BAt w (some ⟨ab, ao, none⟩) b) (hc : n ≤ c) (hcm : c ≤ 9223372036854775807) (hd : m ≤ d) (hdm : d ≤ 9223372036854775807) (ht : Tab w 1) (hd0 : 0 < d) :
    Calls Tryd.prog 13 #[.slice p n c, .slice (some ⟨ab, ao, none⟩) m d, .int .i64 i] w (YesSay w) := by
  subst hn
  subst hm'
  have HT := Lib.hid hT; clear hT
  have Ht := Lib.hid ht; clear ht
  have Hp := Lib.hid hp; clear hp
  have Hq := Lib.hid hq; clear hq
  have HX1 := Lib.hid (xl_kb_len 54 K)
  have HX2 := Lib.hid (xl_kb_len 92 K)
  obtain ⟨A, HA1, HA2, HA3⟩ : ∃ A : Array Value, Hid (A = ((hm K b).map (Value.int .u8)).toArray) ∧ Hid (A.size = 32) ∧ Hid (A.all (·.oneCell') = true) :=
    ⟨_, rfl, by show _ = _; simp [hm_len], all_oneCell_toArray (bytes_one _)⟩
  have HEQ : ∀ w, (Op.equalIn 10000 26 (.agg A) (.agg A)).run Tryd.prog w = .ok true w := fun w => by rw [HA1.out]; exact sum_same _ (hm_len _ _) w
  have hng := Tryd.noGuard
  obtain ⟨IN, HIN⟩ : ∃ IN, Hid (IN = Sha.dg (xl 54 (kb K) ++ b)) := ⟨_, rfl⟩
  have HIN32 : Hid (IN.length = 32) := by rw [HIN.out]; exact dg_len _
  have HINB : Hid (Sha.Byt IN) := by rw [HIN.out]; exact dg_byt _
  obtain ⟨IA, HIA1, HIA2, HIA3⟩ : ∃ A : Array Value, Hid (A = (IN.map (Value.int .u8)).toArray) ∧ Hid (A.size = 32) ∧ Hid (A.all (·.oneCell') = true) :=
    ⟨_, rfl, by show _ = _; simp [HIN32.out], all_oneCell_toArray (bytes_one _)⟩
  have HHM : Hid (hm K b = Sha.dg (xl 92 (kb K) ++ IN)) := by show _ = _; rw [hm_eq, HIN.out]
  have HPK : Hid (∀ w, Calls Tryd.prog 23 #[.int .i64 i, .int .i64 ((b.length : Int) + 1)] w (PickSay ((b.length : Int) + 1) w)) := fun w => pick_any i ((b.length : Int) + 1) (by omega) (by omega) w
  go_enter Tryd.func13, Tryd.ntmps13
  go_upto_region 4 with (go_at_call 19; refine (new_any _).mono ?_; rintro e w1 ⟨rfl, hh1, hb1, hs1⟩)
  have ST1 : Hid (St w w1 w.heap.size []) := St.new Ht.out hh1 hb1
  have hsz1 : w1.heap.size = w.heap.size + 1 := hs1
  clear hh1 hb1 hs1
  go_upto_region 5 with (go_at_call 19; refine (new_any _).mono ?_; rintro e w2 ⟨rfl, hh2, hb2, hs2⟩)
  have S20 : Hid (S2 w w2 w.heap.size (w.heap.size + 1) [] []) := by
    have hbw : Below w.heap.size w w2 := ST1.out.2.1.trans (hb2.mono (by omega))
    rw [hsz1] at hh2
    refine ⟨ST1.out.below hb2, ⟨hh2, hbw, Ht.out.below hbw Ht.out.lt, by omega, by have := Ht.out.lt; omega, hbw.size⟩, by omega⟩
  clear hh2 hb2 hs2 ST1
  clear hsz1
  go_wp2
  go_loopw [9] (fun v9 wr => ∃ j : Nat, j ≤ 64 ∧ v9 = .int .i64 j ∧ Hid (S2 w wr w.heap.size (w.heap.size + 1) ((xl 54 (kb K)).take j) ((xl 92 (kb K)).take j))) (fun v9 _ => 64 - (intOf v9).toNat)
  case atStart => exact ⟨0, by omega, rfl, S20.out⟩
  case round =>
    clear S20
    obtain ⟨j, hj, rfl, S0⟩ := hrel
    by_cases hlt : j < 64
    · by_cases hjk : j < K.length
      · obtain ⟨ab0, ao0, hpp, hcs⟩ := (Hp.out.old S0.out.1.2.1).2 (by omega)
        subst hpp
        have c0 := hcs j hjk
        clear hcs
        have HS1 : Hid ((xl 54 (kb K)).take j ++ [bits .xor .u8 (K.getD j 0) 54] = (xl 54 (kb K)).take (j + 1)) := by
          have h := xl_get 54 (kb K) j (by rw [kb_len]; exact hlt)
          rw [k64_get K j hk hlt, if_pos hjk] at h
          exact h
        have HS2 : Hid ((xl 92 (kb K)).take j ++ [bits .xor .u8 (K.getD j 0) 92] = (xl 92 (kb K)).take (j + 1)) := by
          have h := xl_get 92 (kb K) j (by rw [kb_len]; exact hlt)
          rw [k64_get K j hk hlt, if_pos hjk] at h
          exact h
        generalize K.getD j 0 = y at *
        go_wp2_with (first
          | (go_at_call 20; refine (add_two HT.out [bits .xor .u8 y 92] _ 1 1 rfl (SA.out.alloc _) (one_byte _ _ _ _ (xor_byt _ _) (lt_holds SA.out.2.1)) (by omega) (by omega) (by rw [List.length_take, HX2.out]; omega)).mono ?_; rintro e w6 ⟨rfl, s6⟩; have SB := Lib.hid s6; clear s6)
          | (go_at_call 20; refine (add_one HT.out [bits .xor .u8 y 54] _ 1 1 rfl (S0.out.alloc _) (one_byte _ _ _ _ (xor_byt _ _) (lt_holds S0.out.1)) (by omega) (by omega) (by rw [List.length_take, HX1.out]; omega)).mono ?_; rintro e w5 ⟨rfl, s5⟩; have SA := Lib.hid s5; clear s5))
        have SC : Hid (S2 w w6 w.heap.size (w.heap.size + 1) ((xl 54 (kb K)).take (j + 1)) ((xl 92 (kb K)).take (j + 1))) := by
          have h := SB.out
          rw [HS1.out, HS2.out] at h
          exact h
        clear SA SB S0 HS1 HS2
        exact ⟨⟨j + 1, by omega, by go_num, SC.out⟩, by simp [intOf]; omega⟩
      · have HS1 : Hid ((xl 54 (kb K)).take j ++ [bits .xor .u8 0 54] = (xl 54 (kb K)).take (j + 1)) := by
          have h := xl_get 54 (kb K) j (by rw [kb_len]; exact hlt)
          rw [k64_get K j hk hlt, if_neg hjk] at h
          exact h
        have HS2 : Hid ((xl 92 (kb K)).take j ++ [bits .xor .u8 0 92] = (xl 92 (kb K)).take (j + 1)) := by
          have h := xl_get 92 (kb K) j (by rw [kb_len]; exact hlt)
          rw [k64_get K j hk hlt, if_neg hjk] at h
          exact h
        go_wp2_with (first
          | (go_at_call 20; refine (add_two HT.out [bits .xor .u8 0 92] _ 1 1 rfl (SA.out.alloc _) (one_byte _ _ _ _ (xor_byt _ _) (lt_holds SA.out.2.1)) (by omega) (by omega) (by rw [List.length_take, HX2.out]; omega)).mono ?_; rintro e w6 ⟨rfl, s6⟩; have SB := Lib.hid s6; clear s6)
          | (go_at_call 20; refine (add_one HT.out [bits .xor .u8 0 54] _ 1 1 rfl (S0.out.alloc _) (one_byte _ _ _ _ (xor_byt _ _) (lt_holds S0.out.1)) (by omega) (by omega) (by rw [List.length_take, HX1.out]; omega)).mono ?_; rintro e w5 ⟨rfl, s5⟩; have SA := Lib.hid s5; clear s5))
        have SC : Hid (S2 w w6 w.heap.size (w.heap.size + 1) ((xl 54 (kb K)).take (j + 1)) ((xl 92 (kb K)).take (j + 1))) := by
          have h := SB.out
          rw [HS1.out, HS2.out] at h
          exact h
        clear SA SB S0 HS1 HS2
        exact ⟨⟨j + 1, by omega, by go_num, SC.out⟩, by simp [intOf]; omega⟩
    · have E : j = 64 := by omega
      have S64 : Hid (S2 w wr w.heap.size (w.heap.size + 1) (xl 54 (kb K)) (xl 92 (kb K))) := by
        have h := S0.out
        rw [E, List.take_of_length_le (by rw [HX1.out]; omega), List.take_of_length_le (by rw [HX2.out]; omega)] at h
        exact h
      have hge : 64 ≤ j := by omega
      clear hlt S0 E
      have HG1 : Hid (w.heap.size ≤ w.heap.size) := Nat.le_refl _
      go_upto_region 14 with (go_at_call 23; refine (HPK.out _).mono ?_; rintro e w3 ⟨r, rfl, hr, rfl⟩)
      have hrb : r ≤ b.length := by omega
      have hk1 : (0 : Int) ≤ (r : Int) := by omega
      have hk2 : (r : Int) ≤ (d : Int) := by omega
      have hk3 : ((r : Int)).toNat = r := by omega
      have hk4 : (r : Int) ≤ (b.length : Int) := by omega
      have HTD : Hid (xl 54 (kb K) ++ b.take r ++ (b.drop r).take (b.length - r) = xl 54 (kb K) ++ b) := by
        show _ = _
        rw [show (b.drop r).take (b.length - r) = b.drop r from List.take_of_length_le (by rw [List.length_drop]; omega), List.append_assoc, List.take_append_drop]
      have HLB : Hid ((xl 54 (kb K) ++ b.take r).length ≤ 100000 ∧ (xl 54 (kb K) ++ b).length ≤ 100000 ∧ (xl 92 (kb K) ++ IN).length ≤ 100000 ∧ ((b.drop r).take (b.length - r)).length = b.length - r ∧ (b.take r).length = r) := by
        refine ⟨?_, ?_, ?_, ?_, ?_⟩
        · rw [List.length_append, HX1.out, List.length_take]; omega
        · rw [List.length_append, HX1.out]; omega
        · rw [List.length_append, HX2.out, HIN32.out]; omega
        · rw [List.length_take, List.length_drop]; omega
        · rw [List.length_take]; omega
      clear HPK hr
      go_wp2_with (first
        | (go_at_call 20; refine (add_two HT.out IN _ 32 32 HIN32.out SE.out (bat_bytes IE.out rfl (Nat.ne_of_gt (lt_holds SD.out.2.1))) (by omega) (by omega) (by rw [HX2.out]; omega)).mono ?_; rintro e w9 ⟨rfl, s9⟩; have SF := Lib.hid s9; clear s9)
        | (go_at_call 20; refine (add_one HT.out ((b.drop r).take (b.length - r)) _ (b.length - r) _ HLB.out.2.2.2.1 SC1.out (BytesAt.part (bytes_of Hq.out SC1.out.1.2.1 HG1.out) (by omega) hd) (by omega) (by omega) (by have := HLB.out.1; omega)).mono ?_; rintro e w6 ⟨rfl, s6⟩; rw [HTD.out] at s6; have SC2 := Lib.hid s6; clear s6)
        | (go_at_call 20; refine (add_one HT.out (b.take r) _ r _ HLB.out.2.2.2.2 S64.out ((bytes_of Hq.out S64.out.1.2.1 HG1.out).take hrb) (by omega) (by omega) (by rw [HX1.out]; omega)).mono ?_; rintro e w5 ⟨rfl, s5⟩; have SC1 := Lib.hid s5; clear s5)
        | (go_at_call 22; refine (sum_st HT.out SF.out.2.1 (by have := HLB.out.2.2.1; omega)).mono ?_; rintro e wA ⟨rfl, stA, _⟩; rw [← HHM.out, ← HA1.out]; have STA := Lib.hid stA; clear stA)
        | (go_at_call 22; refine (sum_st HT.out SC2.out.1 (by have := HLB.out.2.1; omega)).mono ?_; rintro e w7 ⟨rfl, _, hb7⟩; rw [← HIN.out, ← HIA1.out]; have SD : Hid (S2 w w7 w.heap.size (w.heap.size + 1) (xl 54 (kb K) ++ b) (xl 92 (kb K))) := SC2.out.below hb7; clear hb7)
        | ((with_reducible refine row_store _ _ _ _ _ _ _ ?_ ?_ (heap_alloc_new _ _) (row_size Tryd.sizeSum HIA2) ?_ HIA3.out ?_); (exact rfl); (exact rfl); (rw [HIA2.out]; rfl); intro w8 g8 ch8; have SE : Hid (S2 w w8 w.heap.size (w.heap.size + 1) (xl 54 (kb K) ++ b) (xl 92 (kb K))) := SD.out.below (ch8.below ((Below.refl _ _).alloc (Nat.le_refl _) _) (Nat.le_refl _)); have IE : Hid (BAt w8 (some ⟨w7.heap.size, 0, none⟩) IN) := (by have h := g8.out; rw [HIA1.out] at h; exact bat_row h HINB.out); clear g8 ch8)
        | (go_at_call 26; refine (mac_of_any HT.out K b p (some ⟨ab, ao, none⟩) _ _ c d rfl rfl _ (Hp.out.old STA.out.2.1) (Hq.out.old STA.out.2.1) hc hcm hd hdm (by omega) (by omega) STA.out.2.2.1).mono ?_; rintro e wB ⟨rfl, hbB⟩; rw [← HA1.out]; have BWB : Hid (Below w.heap.size w wB) := STA.out.2.1.trans (hbB.mono STA.out.2.2.2.2.2); clear hbB)
        | (go_at_call 25; refine (works_any HT.out _ (Ht.out.below BWB.out Ht.out.lt)).mono ?_; rintro e wC ⟨rfl, hbC⟩; have BWC : Hid (Below w.heap.size w wC) := BWB.out.trans (hbC.mono BWB.out.size); clear hbC))
      all_goals
        go_ret
        exact ⟨rfl, BWC.out⟩

set_option maxHeartbeats 2000000 in
set_option maxRecDepth 100000 in
theorem inner_nil (hT : TakeSaid) (K : List Int) (p : Option Addr) (q : Option Addr) (n c : Nat) (hn : K.length = n) (i : Int) (w : World) (hk : n ≤ 64) (hp : BAt w p K) (hc : n ≤ c) (hcm : c ≤ 9223372036854775807) (ht : Tab w 1) :
    Calls Tryd.prog 13 #[.slice p n c, .slice q 0 0, .int .i64 i] w (YesSay w) := by
  subst hn
  have HT := Lib.hid hT; clear hT
  have Ht := Lib.hid ht; clear ht
  have Hp := Lib.hid hp; clear hp
  have HX1 := Lib.hid (xl_kb_len 54 K)
  have HX2 := Lib.hid (xl_kb_len 92 K)
  obtain ⟨A, HA1, HA2, HA3⟩ : ∃ A : Array Value, Hid (A = ((hm K ([] : List Int)).map (Value.int .u8)).toArray) ∧ Hid (A.size = 32) ∧ Hid (A.all (·.oneCell') = true) :=
    ⟨_, rfl, by show _ = _; simp [hm_len], all_oneCell_toArray (bytes_one _)⟩
  have HEQ : ∀ w, (Op.equalIn 10000 26 (.agg A) (.agg A)).run Tryd.prog w = .ok true w := fun w => by rw [HA1.out]; exact sum_same _ (hm_len _ _) w
  have hng := Tryd.noGuard
  obtain ⟨IN, HIN⟩ : ∃ IN, Hid (IN = Sha.dg (xl 54 (kb K) ++ ([] : List Int))) := ⟨_, rfl⟩
  have HIN32 : Hid (IN.length = 32) := by rw [HIN.out]; exact dg_len _
  have HINB : Hid (Sha.Byt IN) := by rw [HIN.out]; exact dg_byt _
  obtain ⟨IA, HIA1, HIA2, HIA3⟩ : ∃ A : Array Value, Hid (A = (IN.map (Value.int .u8)).toArray) ∧ Hid (A.size = 32) ∧ Hid (A.all (·.oneCell') = true) :=
    ⟨_, rfl, by show _ = _; simp [HIN32.out], all_oneCell_toArray (bytes_one _)⟩
  have HHM : Hid (hm K ([] : List Int) = Sha.dg (xl 92 (kb K) ++ IN)) := by show _ = _; rw [hm_eq, HIN.out]
  have HPK : Hid (∀ w, Calls Tryd.prog 23 #[.int .i64 i, .int .i64 (1)] w (PickSay (1) w)) := fun w => pick_any i (1) (by omega) (by omega) w
  go_enter Tryd.func13, Tryd.ntmps13
  go_upto_region 4 with (go_at_call 19; refine (new_any _).mono ?_; rintro e w1 ⟨rfl, hh1, hb1, hs1⟩)
  have ST1 : Hid (St w w1 w.heap.size []) := St.new Ht.out hh1 hb1
  have hsz1 : w1.heap.size = w.heap.size + 1 := hs1
  clear hh1 hb1 hs1
  go_upto_region 5 with (go_at_call 19; refine (new_any _).mono ?_; rintro e w2 ⟨rfl, hh2, hb2, hs2⟩)
  have S20 : Hid (S2 w w2 w.heap.size (w.heap.size + 1) [] []) := by
    have hbw : Below w.heap.size w w2 := ST1.out.2.1.trans (hb2.mono (by omega))
    rw [hsz1] at hh2
    refine ⟨ST1.out.below hb2, ⟨hh2, hbw, Ht.out.below hbw Ht.out.lt, by omega, by have := Ht.out.lt; omega, hbw.size⟩, by omega⟩
  clear hh2 hb2 hs2 ST1
  clear hsz1
  go_wp2
  go_loopw [9] (fun v9 wr => ∃ j : Nat, j ≤ 64 ∧ v9 = .int .i64 j ∧ Hid (S2 w wr w.heap.size (w.heap.size + 1) ((xl 54 (kb K)).take j) ((xl 92 (kb K)).take j))) (fun v9 _ => 64 - (intOf v9).toNat)
  case atStart => exact ⟨0, by omega, rfl, S20.out⟩
  case round =>
    clear S20
    obtain ⟨j, hj, rfl, S0⟩ := hrel
    by_cases hlt : j < 64
    · by_cases hjk : j < K.length
      · obtain ⟨ab0, ao0, hpp, hcs⟩ := (Hp.out.old S0.out.1.2.1).2 (by omega)
        subst hpp
        have c0 := hcs j hjk
        clear hcs
        have HS1 : Hid ((xl 54 (kb K)).take j ++ [bits .xor .u8 (K.getD j 0) 54] = (xl 54 (kb K)).take (j + 1)) := by
          have h := xl_get 54 (kb K) j (by rw [kb_len]; exact hlt)
          rw [k64_get K j hk hlt, if_pos hjk] at h
          exact h
        have HS2 : Hid ((xl 92 (kb K)).take j ++ [bits .xor .u8 (K.getD j 0) 92] = (xl 92 (kb K)).take (j + 1)) := by
          have h := xl_get 92 (kb K) j (by rw [kb_len]; exact hlt)
          rw [k64_get K j hk hlt, if_pos hjk] at h
          exact h
        generalize K.getD j 0 = y at *
        go_wp2_with (first
          | (go_at_call 20; refine (add_two HT.out [bits .xor .u8 y 92] _ 1 1 rfl (SA.out.alloc _) (one_byte _ _ _ _ (xor_byt _ _) (lt_holds SA.out.2.1)) (by omega) (by omega) (by rw [List.length_take, HX2.out]; omega)).mono ?_; rintro e w6 ⟨rfl, s6⟩; have SB := Lib.hid s6; clear s6)
          | (go_at_call 20; refine (add_one HT.out [bits .xor .u8 y 54] _ 1 1 rfl (S0.out.alloc _) (one_byte _ _ _ _ (xor_byt _ _) (lt_holds S0.out.1)) (by omega) (by omega) (by rw [List.length_take, HX1.out]; omega)).mono ?_; rintro e w5 ⟨rfl, s5⟩; have SA := Lib.hid s5; clear s5))
        have SC : Hid (S2 w w6 w.heap.size (w.heap.size + 1) ((xl 54 (kb K)).take (j + 1)) ((xl 92 (kb K)).take (j + 1))) := by
          have h := SB.out
          rw [HS1.out, HS2.out] at h
          exact h
        clear SA SB S0 HS1 HS2
        exact ⟨⟨j + 1, by omega, by go_num, SC.out⟩, by simp [intOf]; omega⟩
      · have HS1 : Hid ((xl 54 (kb K)).take j ++ [bits .xor .u8 0 54] = (xl 54 (kb K)).take (j + 1)) := by
          have h := xl_get 54 (kb K) j (by rw [kb_len]; exact hlt)
          rw [k64_get K j hk hlt, if_neg hjk] at h
          exact h
        have HS2 : Hid ((xl 92 (kb K)).take j ++ [bits .xor .u8 0 92] = (xl 92 (kb K)).take (j + 1)) := by
          have h := xl_get 92 (kb K) j (by rw [kb_len]; exact hlt)
          rw [k64_get K j hk hlt, if_neg hjk] at h
          exact h
        go_wp2_with (first
          | (go_at_call 20; refine (add_two HT.out [bits .xor .u8 0 92] _ 1 1 rfl (SA.out.alloc _) (one_byte _ _ _ _ (xor_byt _ _) (lt_holds SA.out.2.1)) (by omega) (by omega) (by rw [List.length_take, HX2.out]; omega)).mono ?_; rintro e w6 ⟨rfl, s6⟩; have SB := Lib.hid s6; clear s6)
          | (go_at_call 20; refine (add_one HT.out [bits .xor .u8 0 54] _ 1 1 rfl (S0.out.alloc _) (one_byte _ _ _ _ (xor_byt _ _) (lt_holds S0.out.1)) (by omega) (by omega) (by rw [List.length_take, HX1.out]; omega)).mono ?_; rintro e w5 ⟨rfl, s5⟩; have SA := Lib.hid s5; clear s5))
        have SC : Hid (S2 w w6 w.heap.size (w.heap.size + 1) ((xl 54 (kb K)).take (j + 1)) ((xl 92 (kb K)).take (j + 1))) := by
          have h := SB.out
          rw [HS1.out, HS2.out] at h
          exact h
        clear SA SB S0 HS1 HS2
        exact ⟨⟨j + 1, by omega, by go_num, SC.out⟩, by simp [intOf]; omega⟩
    · have E : j = 64 := by omega
      have S64 : Hid (S2 w wr w.heap.size (w.heap.size + 1) (xl 54 (kb K)) (xl 92 (kb K))) := by
        have h := S0.out
        rw [E, List.take_of_length_le (by rw [HX1.out]; omega), List.take_of_length_le (by rw [HX2.out]; omega)] at h
        exact h
      have hge : 64 ≤ j := by omega
      clear hlt S0 E
      have HG1 : Hid (w.heap.size ≤ w.heap.size) := Nat.le_refl _
      go_upto_region 14 with (go_at_call 23; refine (HPK.out _).mono ?_; rintro e w3 ⟨r, rfl, hr, rfl⟩)
      obtain rfl : r = 0 := by omega
      have HTD : Hid (xl 54 (kb K) ++ [] ++ [] = xl 54 (kb K) ++ []) := by show _ = _; simp
      have HLB : Hid ((xl 54 (kb K) ++ []).length ≤ 100000 ∧ (xl 54 (kb K) ++ []).length ≤ 100000 ∧ (xl 92 (kb K) ++ IN).length ≤ 100000) := by
        refine ⟨?_, ?_, ?_⟩
        · rw [List.append_nil, HX1.out]; omega
        · rw [List.append_nil, HX1.out]; omega
        · rw [List.length_append, HX2.out, HIN32.out]; omega
      clear HPK hr
      go_wp2_with (first
        | (go_at_call 20; refine (add_two HT.out IN _ 32 32 HIN32.out SE.out (bat_bytes IE.out rfl (Nat.ne_of_gt (lt_holds SD.out.2.1))) (by omega) (by omega) (by rw [HX2.out]; omega)).mono ?_; rintro e w9 ⟨rfl, s9⟩; have SF := Lib.hid s9; clear s9)
        | (go_at_call 20; refine (add_one HT.out [] _ 0 0 rfl SC1.out (bytes_nil rfl) (by omega) (by omega) (by have := HLB.out.1; omega)).mono ?_; rintro e w6 ⟨rfl, s6⟩; rw [HTD.out] at s6; have SC2 := Lib.hid s6; clear s6)
        | (go_at_call 20; refine (add_one HT.out [] _ 0 0 rfl S64.out (bytes_nil rfl) (by omega) (by omega) (by rw [HX1.out]; omega)).mono ?_; rintro e w5 ⟨rfl, s5⟩; have SC1 := Lib.hid s5; clear s5)
        | (go_at_call 22; refine (sum_st HT.out SF.out.2.1 (by have := HLB.out.2.2; omega)).mono ?_; rintro e wA ⟨rfl, stA, _⟩; rw [← HHM.out, ← HA1.out]; have STA := Lib.hid stA; clear stA)
        | (go_at_call 22; refine (sum_st HT.out SC2.out.1 (by have := HLB.out.2.1; omega)).mono ?_; rintro e w7 ⟨rfl, _, hb7⟩; rw [← HIN.out, ← HIA1.out]; have SD : Hid (S2 w w7 w.heap.size (w.heap.size + 1) (xl 54 (kb K) ++ ([] : List Int)) (xl 92 (kb K))) := SC2.out.below hb7; clear hb7)
        | ((with_reducible refine row_store _ _ _ _ _ _ _ ?_ ?_ (heap_alloc_new _ _) (row_size Tryd.sizeSum HIA2) ?_ HIA3.out ?_); (exact rfl); (exact rfl); (rw [HIA2.out]; rfl); intro w8 g8 ch8; have SE : Hid (S2 w w8 w.heap.size (w.heap.size + 1) (xl 54 (kb K) ++ ([] : List Int)) (xl 92 (kb K))) := SD.out.below (ch8.below ((Below.refl _ _).alloc (Nat.le_refl _) _) (Nat.le_refl _)); have IE : Hid (BAt w8 (some ⟨w7.heap.size, 0, none⟩) IN) := (by have h := g8.out; rw [HIA1.out] at h; exact bat_row h HINB.out); clear g8 ch8)
        | (go_at_call 26; refine (mac_of_any HT.out K ([] : List Int) p q K.length 0 c 0 rfl rfl _ (Hp.out.old STA.out.2.1) (BytesAt.bat (bytes_nil (g := 0) rfl)) hc hcm (by omega) (by omega) (by omega) (by simp) STA.out.2.2.1).mono ?_; rintro e wB ⟨rfl, hbB⟩; rw [← HA1.out]; have BWB : Hid (Below w.heap.size w wB) := STA.out.2.1.trans (hbB.mono STA.out.2.2.2.2.2); clear hbB)
        | (go_at_call 25; refine (works_any HT.out _ (Ht.out.below BWB.out Ht.out.lt)).mono ?_; rintro e wC ⟨rfl, hbC⟩; have BWC : Hid (Below w.heap.size w wC) := BWB.out.trans (hbC.mono BWB.out.size); clear hbC))
      all_goals
        go_ret
        exact ⟨rfl, BWC.out⟩


end Go.Proofs.YtamdmkknaobgcaaDoor
