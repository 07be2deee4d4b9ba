/-
  Contract: SpoilEntries; Get and the reference's Get, read alike.
-/
import Derived.Test.YtkgefogkdmbciaaBaR1
import Derived.Test.YtkgefogkdmbciaaBaM
namespace Go.Proofs.Ytkgefogkdmbciaa
open Go.RowKit

theorem built_kx (a : Int) : Try.prog.built 50 [(0, .int .i64 a)] = some (EnA ⟨a, 0, 0, Bt.Z⟩) := by
  rw [build_k]
  unfold kE EnA Bt.cells Bt.Z
  simp
theorem enx_size (a : Int) : (EnA ⟨a, 0, 0, Bt.Z⟩).size = 35 := by unfold EnA Bt.cells Bt.Z; simp
set_option maxHeartbeats 1000000 in
set_option maxRecDepth 100000 in
theorem spoile_cells (g c n S : Nat) (cur : Array Value) (hn : n ≤ 100000) (hS : cur.size = S) (hnS : n * 35 ≤ S) (w : World) (hg : w.heap[g]? = some (.cells cur 50 (0, 0))) (hc : ∀ j, j < n → ∃ a, cur[j * 35]? = some (.int .i64 a)) :
    Calls Try.prog 24 #[.slice (some ⟨g, 0, none⟩) n c] w fun r w' => r = .returned (.tuple #[]) ∧ Only g w w' := by
  have Hg := Lib.hid hg
  have Hc := Lib.hid hc
  have HS := Lib.hid hS
  have HNS := Lib.hid hnS
  clear hg hc hS hnS
  go_enter Try.func24, Try.ntmps24
  go_wp2
  go_loopw [2] (fun v2 wr => ∃ (k : Nat) (m : Array Value), k ≤ n ∧ v2 = .int .i64 k ∧ Hid (∀ j, k ≤ j → j < n → ∃ a, m[j * 35]? = some (.int .i64 a)) ∧ Hid (m.size = S) ∧ Hid (wr.heap[g]? = some (.cells m 50 (0, 0))) ∧ Hid (Only g w wr)) (fun v2 _ => n - (intOf v2).toNat)
  case atStart => exact ⟨0, cur, Nat.zero_le _, rfl, fun j _ hj => Hc.out j hj, HS.out, Hg.out, Only.refl _ _⟩
  case round =>
    clear Hg Hc HS
    obtain ⟨k, m, hk, rfl, HM, HS, HG, HO⟩ := hrel
    by_cases hlt : k < n
    · obtain ⟨a, ha⟩ := HM.out k (Nat.le_refl _) hlt
      have c0 : wr.cell? ⟨g, k * 35, none⟩ = some (.int .i64 a) := by rw [cell_of_row wr g (k * 35) _ _ _ HG.out]; exact ha
      have HB : Hid (k * 35 + (EnA ⟨bits .xor .i64 a 77, 0, 0, Bt.Z⟩).size ≤ m.size) := by show _ ≤ _; rw [enx_size, HS.out]; have := HNS.out; omega
      have HSX : Hid ((EnA ⟨bits .xor .i64 a 77, 0, 0, Bt.Z⟩).size = 35) := enx_size _
      have hi0 : 0 ≤ (k : Int) := by omega
      have hi1 : (k : Int) < (n : Int) := by omega
      clear ha
      go_wp2_with (first
        | ((with_reducible refine row_b1 _ _ _ _ ?_ (built_kx (bits .xor .i64 a 77)) ?_); (exact rfl))
        | ((with_reducible refine mid_store _ _ _ g (k * 35) _ m (EnA ⟨bits .xor .i64 a 77, 0, 0, Bt.Z⟩) ?_ ?_ HG.out (row_size Try.sizeEn HSX) HB.out (enA_one _) ?_); (exact rfl); (exact rfl); intro w2 G2 ch2))
      refine ⟨⟨k + 1, _, by omega, by go_num, ?_, ?_, G2.out, HO.out.trans ch2.only⟩, by simp [intOf]; omega⟩
      · intro j h1 h2
        obtain ⟨b, hb⟩ := HM.out j (by omega) h2
        refine ⟨b, ?_⟩
        have hks : k * 35 ≤ m.toList.length := by rw [Array.length_toList, HS.out]; have := HNS.out; omega
        have e1 : (m.toList.take (k * 35)).length = k * 35 := by rw [List.length_take]; omega
        have e2 : (EnA ⟨bits .xor .i64 a 77, 0, 0, Bt.Z⟩).toList.length = 35 := by rw [Array.length_toList]; exact enx_size _
        rw [List.getElem?_toArray, enx_size, List.getElem?_append_right (by rw [List.length_append, e1, e2]; omega), List.length_append, e1, e2, List.getElem?_drop, show k * 35 + 35 + (j * 35 - (k * 35 + 35)) = j * 35 by omega]
        simpa using hb
      · show _ = _
        have hks : k * 35 + 35 ≤ m.toList.length := by rw [Array.length_toList, HS.out]; have := HNS.out; omega
        have e2 : (EnA ⟨bits .xor .i64 a 77, 0, 0, Bt.Z⟩).toList.length = 35 := by rw [Array.length_toList]; exact enx_size _
        rw [List.size_toArray, enx_size, List.length_append, List.length_append, List.length_take, List.length_drop, e2, ← HS.out, ← Array.length_toList]
        omega
    · have hge : n ≤ k := by omega
      clear hlt
      go_wp2
      go_end0
      exact ⟨rfl, HO.out⟩
set_option maxHeartbeats 1000000 in
set_option maxRecDepth 100000 in
theorem spoile_nil (w : World) : Calls Try.prog 24 #[.slice none 0 0] w fun r w' => r = .returned (.tuple #[]) ∧ w' = w := by
  go_enter Try.func24, Try.ntmps24
  go_wp2
  go_loopw [2] (fun v2 wr => v2 = .int .i64 0 ∧ wr = w) (fun _ _ => 0)
  case atStart => exact ⟨rfl, rfl⟩
  case round =>
    obtain ⟨rfl, rfl⟩ := hrel
    go_wp2
    go_end0
    exact ⟨rfl, rfl⟩
theorem spoile_own {B : Nat} {v : Value} {L : List Bt.En} {w : World} (h : EsO B w v L) (hok : ∀ x ∈ L, x.ok) (hL : L.length ≤ 100000) : Calls Try.prog 24 #[v] w (SpSay v w) := by
  rcases h.2 with ⟨rfl, h0⟩ | ⟨g, cap, cur, rfl, _, hg, hn, hm, hs, ht⟩
  · exact (spoile_nil w).mono fun r w' hh => ⟨hh.1, Or.inl hh.2⟩
  · refine (spoile_cells g cap L.length (cap * 35) cur hL hs (by omega) w hg fun j hj => ⟨(L.getD j Bt.en0).k, ?_⟩).mono fun r w' hh => ⟨hh.1, Or.inr ⟨g, rfl, hh.2⟩⟩
    have e1 := Bt.ec_at hok j 0 hj (by omega)
    rw [← ht, List.getElem?_take, if_pos (by omega), Nat.add_zero] at e1
    unfold Bt.cells at e1
    simpa using e1
theorem Sp.blk {v : Value} {y z : World} {k : Nat} (h : Sp v y z) (hk : k < y.heap.size) (hne : ∀ g, v.ownBlock = some g → k ≠ g) : z.heap[k]? = y.heap[k]? := by
  rcases h with rfl | ⟨g, hg, ho⟩
  · rfl
  · exact ho.block k hk (hne g hg)
theorem EsO.mono {A B : Nat} {y : World} {v : Value} {L : List Bt.En} (h : EsO B y v L) (hA : A ≤ B) : EsO A y v L := by
  refine ⟨h.1, ?_⟩
  rcases h.2 with h' | ⟨g, cap, cur, hv, q0, q1⟩
  · exact Or.inl h'
  · exact Or.inr ⟨g, cap, cur, hv, Nat.le_trans hA q0, q1⟩
theorem EsRow.own {B g m : Nat} {y : World} {L : List Bt.En} (h : EsRow y g L) (hB : B ≤ g) (hok : ∀ x ∈ L, x.ok) (hm : L.length = m) (hL : m ≤ 1000000) : EsO B y (.slice (some ⟨g, 0, none⟩) m m) L := by
  subst hm
  refine ⟨Bt.ec_len hok |>.trans (Nat.mul_comm _ _), Or.inr ⟨g, L.length, _, rfl, hB, h, Nat.le_refl _, by unfold maxLen; omega, ?_, ?_⟩⟩
  · rw [List.size_toArray, Bt.ec_len hok, Nat.mul_comm]
  · rw [List.take_of_length_le (by rw [Bt.ec_len hok, Nat.mul_comm]; exact Nat.le_refl _)]
/-- Get, whatever it answers. -/
def GetG (t : Int) (P : List Int) (n : Int) (m : Nat) (L : List Bt.En) (r : Int) (w : World) (e : Ending) (w' : World) : Prop :=
  ∃ q c, e = .returned (.tuple #[.agg (SmA t P n (.slice q m c)), .int .i64 r]) ∧ Hid (EsO w.heap.size w' (.slice q m c) L) ∧ Hid (Below w.heap.size w w')
theorem getg_no {r : Int} {w w' : World} {e : Ending} (h : GetNo r w e w') : GetG 0 Bt.Z 0 0 [] r w e w' := ⟨none, 0, h.1, Lib.hid (eso_nil _ _), Lib.hid h.2⟩
theorem getg_ok {t n : Int} {P : List Int} {m : Nat} {L : List Bt.En} {w w' : World} {e : Ending} (hok : ∀ x ∈ L, x.ok) (hm : L.length = m) (hL : m ≤ 1000000) (h : GetOk t P n m L w e w') : GetG t P n m L 0 w e w' := by
  obtain ⟨g, h1, h2, h3, h4⟩ := h
  exact ⟨_, _, h1, Lib.hid (h2.out.own h3.out hok hm hL), h4⟩
theorem getg_ref {t n : Int} {P : List Int} {m : Nat} {L : List Bt.En} {w w' : World} {e : Ending} (h : RfOk t P n m L w e w') : GetG t P n m L 0 w e w' := by
  obtain ⟨q, d, B, h1, h2, h3, h4⟩ := h
  exact ⟨q, d, h1, Lib.hid (h2.out.mono h3.out), h4⟩
/-- The two tell the same. -/
theorem gets_alike (B : List Int) (n : Nat) (hn : B.length = n) (hL : n ≤ 100000) (hb : Sha.Byt B) : ∃ t P k m L r, P.length = 32 ∧ Sha.Byt P ∧ (∀ x ∈ L, x.ok) ∧ L.length = m ∧ m ≤ 16 ∧
    (∀ y q d, Bs y q d B → Calls Try.prog 20 #[.slice q n d] y (GetG t P k m L r y)) ∧ (∀ y q d, Bs y q d B → Calls Try.prog 21 #[.slice q n d] y (GetG t P k m L r y)) := by
  by_cases h0 : Bt.gc B = 0
  · have h1 := (Bt.gc_ok h0).2.2.2
    have hl := (Bt.ck_ok h1).1
    rw [Bt.re_len] at hl
    have hG4 : Sha.Byt (Bt.g4 B) := by rw [Bt.g4_def, Bt.g3_def, Bt.g2_def, Bt.g1_def]; exact Pk.nx_byt (Pk.nx_byt (Pk.nx_byt (Pk.nx_byt hb)))
    have hok := Bt.re_ok hG4 (Bt.vm B).toNat
    refine ⟨Bt.vt B, Bt.vp B, Bt.vn B, (Bt.vm B).toNat, Bt.re (Bt.g4 B) (Bt.vm B).toNat, 0, by rw [Bt.vp_def]; exact Pk.vs_len _, by rw [Bt.vp_def, Bt.g1_def]; exact Bt.vs_byt (Pk.nx_byt hb), hok, Bt.re_len _ _, hl, fun y q d hy => (get_any B q n d hn hL y hy).mono ?_, fun y q d hy => (refget_any B q n d hn hL y hy).mono ?_⟩
    · rintro e w' (⟨_, h⟩ | ⟨h, _⟩)
      · exact getg_ok hok (Bt.re_len _ _) (by omega) h
      · exact absurd h0 h
    · rintro e w' (⟨_, h⟩ | ⟨h, _⟩)
      · exact getg_ref h
      · exact absurd h0 h
  · refine ⟨0, Bt.Z, 0, 0, [], Bt.gc B, Bt.z_len, Bt.z_byt, (fun x hx => by cases hx), rfl, by omega, fun y q d hy => (get_any B q n d hn hL y hy).mono ?_, fun y q d hy => (refget_any B q n d hn hL y hy).mono ?_⟩
    · rintro e w' (⟨h, _⟩ | ⟨_, h⟩)
      · exact absurd h h0
      · exact getg_no h
    · rintro e w' (⟨h, _⟩ | ⟨_, h⟩)
      · exact absurd h h0
      · exact getg_no h
theorem same_own {t n : Int} {P : List Int} {m : Nat} {L : List Bt.En} (hP : P.length = 32) (hB : Sha.Byt P) (hok : ∀ x ∈ L, x.ok) (hm : L.length = m) (hL : m ≤ 100000) (y : World) (A A' : Nat) (q q' : Option Addr) (c c' : Nat) (h : EsO A y (.slice q m c) L) (h' : EsO A' y (.slice q' m c') L) :
    Calls Try.prog 22 #[.agg (SmA t P n (.slice q m c)), .agg (SmA t P n (.slice q' m c'))] y (YesSay y) := by
  obtain ⟨p, d, e, he⟩ := h.es hok
  obtain ⟨p', d', e', he'⟩ := h'.es hok
  rw [hm] at e e'
  cases e
  cases e'
  exact same_self t n P q q' m c c' L hm hL y ⟨hP, hB, he⟩ ⟨hP, hB, he'⟩
end Go.Proofs.Ytkgefogkdmbciaa
