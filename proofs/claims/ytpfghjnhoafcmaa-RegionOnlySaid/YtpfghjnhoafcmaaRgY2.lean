/-
  Contracts: long, run.
-/
import Derived.Test.YtpfghjnhoafcmaaRgY1
import Derived.Test.YtpfghjnhoafcmaaRgK
namespace Go.Proofs.Ytpfghjnhoafcmaa
open Go.RowKit

def Short (X : List Rg.O) (n : Nat) : Prop := n ≤ 60 ∧ ∀ i, i < n → (X.getD i Rg.ozero).D.length ≤ 1024 ∧ (X.getD i Rg.ozero).L.length ≤ 100
namespace Rg
theorem tpM_eq (m : Dk.M) (i : Int) (L : List Int) : (Dk.tpM m i L).wr = m.wr ∧ (Dk.tpM m i L).rd = m.rd ∧ (Dk.tpM m i L).n = m.n := by
  unfold Dk.tpM
  split <;> exact ⟨rfl, rfl, rfl⟩
theorem tpM_le (m : Dk.M) (i : Int) (L : List Int) : (Dk.tpM m i L).wr ≤ m.wr + 1 ∧ (∀ j, (Dk.tpM m i L).rd j ≤ m.rd j + 1) ∧ (Dk.tpM m i L).n = m.n := by
  obtain ⟨h1, h2, h3⟩ := tpM_eq m i L
  exact ⟨by omega, fun j => by rw [h2]; omega, h3⟩
theorem rdM_le (m : Dk.M) (i : Int) : (Dk.rdM m i).wr ≤ m.wr + 1 ∧ (∀ j, (Dk.rdM m i).rd j ≤ m.rd j + 1) ∧ (Dk.rdM m i).n = m.n := by
  unfold Dk.rdM
  split
  · refine ⟨Nat.le_succ _, fun j => ?_, rfl⟩
    show upd m.rd i.toNat (m.rd i.toNat + 1) j ≤ _
    unfold upd
    split
    · rename_i h; rw [h]; exact Nat.le_refl _
    · exact Nat.le_succ _
  · exact ⟨Nat.le_succ _, fun j => Nat.le_succ _, rfl⟩
theorem rdX_le {m : Dk.M} (h : Dk.Ok m) (i : Int) : (Dk.rdX m i).length ≤ 1024 := by
  unfold Dk.rdX
  split
  · unfold Dk.peek
    cases q : m.ca i.toNat with
    | none => exact h.lsb _
    | some L => exact h.cab _ L q
  · exact Nat.zero_le _
theorem vM_n (m : Dk.M) (S : Nm.St) (r : R) (n : Int) : (vM m S r n).n = m.n := by
  unfold vM wM
  split
  · split
    · unfold Dk.wrM
      split
      · rfl
      · split
        · rfl
        · split
          · exact Dk.spend_n m
          · exact Dk.spend_n m
    · rfl
  · rfl
end Rg
def LongSay (X : List Rg.O) (n : Nat) (w : World) (e : Ending) (w' : World) : Prop := ∃ b, e = .returned (.bool b) ∧ Hid (Below w.heap.size w w') ∧ Hid (b = false → Short X n) ∧ Hid (b = true → ¬ Short X n)
set_option maxHeartbeats 2000000 in
set_option maxRecDepth 100000 in
theorem long_any (X : List Rg.O) (p : Option Addr) (n c : Nat) (hn : X.length = n) (w : World) (hp : Os w p X) : Calls Try.prog 7 #[.slice p n c] w (LongSay X n w) := by
  have HP := Lib.hid hp
  have HN := Lib.hid hn
  clear hp hn
  by_cases h60 : (n : Int) > 60
  · go_enter Try.func7, Try.ntmps7
    go_wp2
    go_ret
    exact ⟨true, rfl, Below.refl _ _, (fun h => by cases h), fun _ h => by have := h.1; omega⟩
  · have hle : Hid (n ≤ 60) := by show _ ≤ _; omega
    go_enter Try.func7, Try.ntmps7
    go_wp2
    go_loopw [3] (fun v3 wr => ∃ k : Nat, k ≤ n ∧ v3 = .int .i64 k ∧ Hid (∀ i, i < k → (X.getD i Rg.ozero).D.length ≤ 1024 ∧ (X.getD i Rg.ozero).L.length ≤ 100) ∧ Hid (Below w.heap.size w wr)) (fun v3 _ => n - (intOf v3).toNat)
    case atStart => exact ⟨0, by omega, rfl, fun i hi => by omega, Below.refl _ _⟩
    case round =>
      obtain ⟨k, hk, rfl, HE, HB⟩ := hrel
      by_cases hlt : k < n
      · obtain ⟨ab, ao, hpp, hi⟩ := (HP.out.old HB.out) (by rw [HN.out]; omega)
        subst hpp
        obtain ⟨pd, cd, pf, cf, hr, hop⟩ := hi k (by rw [HN.out]; exact hlt)
        obtain ⟨_, _, _, _, a4, a5⟩ := oc_at (X.getD k Rg.ozero) hop.ok pd cd pf cf
        have c4 := hr 139 _ a4
        have c5 := hr 140 _ a5
        have HS : Hid ((X.getD k Rg.ozero).D.length ≤ 1024 → (X.getD k Rg.ozero).L.length ≤ 100 → ∀ i, i < k + 1 → (X.getD i Rg.ozero).D.length ≤ 1024 ∧ (X.getD i Rg.ozero).L.length ≤ 100) := fun h1 h2 i hi => by
          by_cases e : i = k
          · subst e; exact ⟨h1, h2⟩
          · exact HE.out i (by omega)
        have HNP : Hid ((X.getD k Rg.ozero).D.length > 1024 ∨ (X.getD k Rg.ozero).L.length > 100 → ¬ Short X n) := fun h hP => by have := hP.2 k hlt; omega
        clear hr hop a4 a5 hi
        have hi0 : 0 ≤ (k : Int) := by omega
        have hi1 : (k : Int) < (n : Int) := by omega
        generalize (X.getD k Rg.ozero).D.length = nd at *
        generalize (X.getD k Rg.ozero).L.length = nl at *
        by_cases h1 : (nd : Int) > 1024
        · go_wp2
          go_ret
          exact ⟨true, rfl, HB, (fun h => by cases h), fun _ => HNP.out (Or.inl (by omega))⟩
        · by_cases h2 : (nl : Int) > 100
          · go_wp2
            go_ret
            exact ⟨true, rfl, HB, (fun h => by cases h), fun _ => HNP.out (Or.inr (by omega))⟩
          · have HS2 := Lib.hid (HS.out (by omega) (by omega))
            clear HS HE
            go_wp2
            exact ⟨⟨k + 1, by omega, by go_num, HS2.out, HB.out⟩, by simp [intOf]; omega⟩
      · have hge : n ≤ k := by omega
        clear hlt
        go_wp2
        go_ret
        exact ⟨false, rfl, HB, fun _ => ⟨hle.out, fun i hi => HE.out i (by omega)⟩, fun h => by cases h⟩
theorem long_yes (X : List Rg.O) (p : Option Addr) (n c : Nat) (hn : X.length = n) (w : World) (hp : Os w p X) (h : ¬ Short X n) : Calls Try.prog 7 #[.slice p n c] w (BlSay true w) :=
  (long_any X p n c hn w hp).mono fun e w' ⟨b, h1, h2, h3, _⟩ => by
    cases b with
    | true => exact ⟨h1, h2.out⟩
    | false => exact absurd (h3.out rfl) h
theorem long_no (X : List Rg.O) (p : Option Addr) (n c : Nat) (hn : X.length = n) (w : World) (hp : Os w p X) (h : Short X n) : Calls Try.prog 7 #[.slice p n c] w (BlSay false w) :=
  (long_any X p n c hn w hp).mono fun e w' ⟨b, h1, h2, _, h4⟩ => by
    cases b with
    | false => exact ⟨h1, h2.out⟩
    | true => exact absurd h (h4.out rfl)
/-- Behind run. -/
def RunSay (x : World) (K d g g2 : Nat) (o : Rg.O) (m : Dk.M) (S S2 : Nm.St) (y : World) (e : Ending) (z : World) : Prop :=
  ∃ er m', e = .returned (.int .i64 er) ∧ Hid (Vt x K z d g g2 m' (Rg.rS S o) S2) ∧ Hid (m'.wr ≤ m.wr + 1 ∧ (∀ j, m'.rd j ≤ m.rd j + 1) ∧ m'.n = m.n) ∧ Hid (Kp K y z)
section
variable {x : World} {K d g g2 : Nat} {m : Dk.M} {S S2 : Nm.St}
set_option maxHeartbeats 2000000 in
set_option maxRecDepth 100000 in
theorem run_w (o : Rg.O) (hk : o.k = 0) (A : Array Value) (pd : Option Addr) (cd : Nat) (pf : Option Addr) (cf : Nat) (hA : OpK o A pd cd pf cf) (hop : OpOk x o pd cd pf cf) (w : World) (h : Vt x K w d g g2 m S S2) (hb : o.D.length ≤ 1024 ∧ m.wr ≤ 10000 ∧ S.ss.length ≤ 10000 ∧ ∀ j, m.rd j ≤ 10000) :
    Calls Try.prog 14 #[.pointer (some ⟨d, 0, none⟩), .iface 29 (.pointer (some ⟨g, 0, none⟩)), .agg A] w (RunSay x K d g g2 o m S S2 w) := by
  obtain ⟨w1, hw1⟩ : ∃ y, y = w.alloc (.cells A 44) := ⟨_, rfl⟩
  have R1 : Hid (w1.heap[w.heap.size]? = some (.cells A 44 (0, 0))) := by rw [hw1]; exact heap_alloc_new w _
  have B1 : Hid (Below w.heap.size w w1) := by rw [hw1]; exact (Below.refl _ w).alloc (Nat.le_refl _) _
  have V1 := Lib.hid (h.old B1.out)
  have HK0 : Hid (Kp K w w1) := Kp.of_below B1.out
  have HKW := Lib.hid h.size
  have hs := hA.size
  have h1 := hA.one
  obtain ⟨c0, c1, c2, rr, c4, c5⟩ := hA.at_ w1 w.heap.size _ R1.out
  have HRR := Lib.hid rr
  have HAT := Lib.hid hA.at_
  have HOP := Lib.hid hop
  have hsr := row_size Try.sizeRec (Lib.hid (rar_size hop.ok))
  have HC : Hid (∀ y, Vt x K y d g g2 m S S2 → Calls Try.prog 13 #[.pointer (some ⟨d, 0, none⟩), .iface 29 (.pointer (some ⟨g, 0, none⟩)), .agg (RAr o.r), .int .i64 o.n] y (VtSay x K d g g2 (.int .i64 (Rg.vE m S o.r o.n)) (Rg.vM m S o.r o.n) (Rg.vS S o.r o.n) S2 y)) := fun y hy => by
    have h2 := vt_write o.r hop.ok o.n hy (by omega) (by omega)
    rw [rv_eq] at h2
    exact h2
  have HM : Hid ((Rg.vM m S o.r o.n).wr ≤ m.wr + 1 ∧ (∀ j, (Rg.vM m S o.r o.n).rd j ≤ m.rd j + 1) ∧ (Rg.vM m S o.r o.n).n = m.n) := ⟨(Rg.wr_le m S o.r o.n).1, fun j => by rw [(Rg.wr_le m S o.r o.n).2]; omega, Rg.vM_n m S o.r o.n⟩
  clear hA rr hop hb h
  go_enter Try.func14, Try.ntmps14
  go_upto_region 1 with (fail)
  change Code.wp _ _ _ _ (w.alloc (.cells A 44))
  rw [← hw1]
  clear hw1
  rw [hk] at c0
  go_wp2_with (first
    | ((with_reducible refine rng_load_g _ _ w.heap.size 3 (RAr o.r) _ ?_ ?_ HRR.out Try.underlying40 ?_ hsr ?_); (exact rfl); (exact rfl); (exact rfl))
    | (go_at_call 13; refine (HC.out _ V1.out).mono ?_; rintro e2 w2 ⟨rfl, V2, HK2⟩))
  go_ret
  exact ⟨_, _, rfl, by show Vt _ _ _ _ _ _ _ _ _; unfold Rg.rS; rw [if_pos hk]; exact V2.out, HM.out, HK0.out.trans HK2.out⟩
set_option maxHeartbeats 2000000 in
set_option maxRecDepth 100000 in
theorem run_t (o : Rg.O) (hk : o.k = 1) (A : Array Value) (pd : Option Addr) (cd : Nat) (pf : Option Addr) (cf : Nat) (hA : OpK o A pd cd pf cf) (hop : OpOk x o pd cd pf cf) (w : World) (h : Vt x K w d g g2 m S S2) (hb : o.D.length ≤ 1024 ∧ m.wr ≤ 10000 ∧ S.ss.length ≤ 10000 ∧ ∀ j, m.rd j ≤ 10000) :
    Calls Try.prog 14 #[.pointer (some ⟨d, 0, none⟩), .iface 29 (.pointer (some ⟨g, 0, none⟩)), .agg A] w (RunSay x K d g g2 o m S S2 w) := by
  obtain ⟨w1, hw1⟩ : ∃ y, y = w.alloc (.cells A 44) := ⟨_, rfl⟩
  have R1 : Hid (w1.heap[w.heap.size]? = some (.cells A 44 (0, 0))) := by rw [hw1]; exact heap_alloc_new w _
  have B1 : Hid (Below w.heap.size w w1) := by rw [hw1]; exact (Below.refl _ w).alloc (Nat.le_refl _) _
  have V1 := Lib.hid (h.old B1.out)
  have HK0 : Hid (Kp K w w1) := Kp.of_below B1.out
  have HKW := Lib.hid h.size
  have hs := hA.size
  have h1 := hA.one
  obtain ⟨c0, c1, c2, rr, c4, c5⟩ := hA.at_ w1 w.heap.size _ R1.out
  have HRR := Lib.hid rr
  have HAT := Lib.hid hA.at_
  have HOP := Lib.hid hop
  have hsr := row_size Try.sizeRec (Lib.hid (rar_size hop.ok))
  have HC : Hid (∀ y, Vt x K y d g g2 m S S2 → Calls Try.prog 11 #[.pointer (some ⟨d, 0, none⟩), .int .i64 o.n, .slice pd o.D.length cd] y (VtSay x K d g g2 (.int .i64 (Dk.fault m o.n o.D)) (Dk.tpM m o.n o.D) S S2 y)) := fun y hy => vt_tamper o.n o.D pd _ cd rfl (by omega) hy (hop.D.old hy.low)
  have HM : Hid ((Dk.tpM m o.n o.D).wr ≤ m.wr + 1 ∧ (∀ j, (Dk.tpM m o.n o.D).rd j ≤ m.rd j + 1) ∧ (Dk.tpM m o.n o.D).n = m.n) := Rg.tpM_le m o.n o.D
  clear hA rr hop hb h
  go_enter Try.func14, Try.ntmps14
  go_upto_region 1 with (fail)
  change Code.wp _ _ _ _ (w.alloc (.cells A 44))
  rw [← hw1]
  clear hw1
  rw [hk] at c0
  go_wp2_with (go_at_call 11; refine (HC.out _ V1.out).mono ?_; rintro e2 w2 ⟨rfl, V2, HK2⟩)
  go_ret
  exact ⟨_, _, rfl, by show Vt _ _ _ _ _ _ _ _ _; unfold Rg.rS; rw [if_neg (by omega)]; exact V2.out, HM.out, HK0.out.trans HK2.out⟩
set_option maxHeartbeats 2000000 in
set_option maxRecDepth 100000 in
theorem run_c (o : Rg.O) (hk : o.k = 2) (A : Array Value) (pd : Option Addr) (cd : Nat) (pf : Option Addr) (cf : Nat) (hA : OpK o A pd cd pf cf) (hop : OpOk x o pd cd pf cf) (w : World) (h : Vt x K w d g g2 m S S2) (hb : o.D.length ≤ 1024 ∧ m.wr ≤ 10000 ∧ S.ss.length ≤ 10000 ∧ ∀ j, m.rd j ≤ 10000) :
    Calls Try.prog 14 #[.pointer (some ⟨d, 0, none⟩), .iface 29 (.pointer (some ⟨g, 0, none⟩)), .agg A] w (RunSay x K d g g2 o m S S2 w) := by
  obtain ⟨w1, hw1⟩ : ∃ y, y = w.alloc (.cells A 44) := ⟨_, rfl⟩
  have R1 : Hid (w1.heap[w.heap.size]? = some (.cells A 44 (0, 0))) := by rw [hw1]; exact heap_alloc_new w _
  have B1 : Hid (Below w.heap.size w w1) := by rw [hw1]; exact (Below.refl _ w).alloc (Nat.le_refl _) _
  have V1 := Lib.hid (h.old B1.out)
  have HK0 : Hid (Kp K w w1) := Kp.of_below B1.out
  have HKW := Lib.hid h.size
  have hs := hA.size
  have h1 := hA.one
  obtain ⟨c0, c1, c2, rr, c4, c5⟩ := hA.at_ w1 w.heap.size _ R1.out
  have HRR := Lib.hid rr
  have HAT := Lib.hid hA.at_
  have HOP := Lib.hid hop
  have hsr := row_size Try.sizeRec (Lib.hid (rar_size hop.ok))
  have HC : Hid (∀ y, Vt x K y d g g2 m S S2 → Calls Try.prog 17 #[.pointer (some ⟨d, 0, none⟩), .int .i64 o.m] y (VtRd x K d g g2 o.m m S S2 y)) := fun y hy => vt_read o.m (fun j => by have := hb.2.2.2 j; omega) hy
  have HT : Hid (∀ y p q, Dk.rdE m o.m = 0 → Vt x K y d g g2 (Dk.rdM m o.m) S S2 → Bs y p q (Dk.rdX m o.m) → Calls Try.prog 11 #[.pointer (some ⟨d, 0, none⟩), .int .i64 o.n, .slice p (Dk.rdX m o.m).length q] y (VtSay x K d g g2 (.int .i64 (Dk.fault (Dk.rdM m o.m) o.n (Dk.rdX m o.m))) (Dk.tpM (Dk.rdM m o.m) o.n (Dk.rdX m o.m)) S S2 y)) := fun y p q _ hy hb => vt_tamper o.n (Dk.rdX m o.m) p _ q rfl (by
    have := Rg.rdX_le h.vs.ok o.m
    omega) hy hb
  have HM2 : Hid ((Dk.rdM m o.m).wr ≤ m.wr + 1 ∧ (∀ j, (Dk.rdM m o.m).rd j ≤ m.rd j + 1) ∧ (Dk.rdM m o.m).n = m.n) := Rg.rdM_le m o.m
  have HM : Hid (∀ (i : Int) (L : List Int) (_ : Unit), (Dk.tpM (Dk.rdM m o.m) i L).wr ≤ m.wr + 1 ∧ (∀ j, (Dk.tpM (Dk.rdM m o.m) i L).rd j ≤ m.rd j + 1) ∧ (Dk.tpM (Dk.rdM m o.m) i L).n = m.n) := fun i L _ => by
    rw [(Rg.tpM_eq _ i L).1, (Rg.tpM_eq _ i L).2.1, (Rg.tpM_eq _ i L).2.2]
    exact HM2.out
  clear hA rr hop hb h
  go_enter Try.func14, Try.ntmps14
  go_upto_region 1 with (fail)
  change Code.wp _ _ _ _ (w.alloc (.cells A 44))
  rw [← hw1]
  clear hw1
  rw [hk] at c0
  go_upto_region 8 with (go_at_call 17; refine (HC.out _ V1.out).mono ?_; rintro e2 w2 ⟨p2, q2, rfl, HO2, HS2, V2, HK2⟩)
  have R2 := Lib.hid ((HK2.out.block _ HKW.out (lt_of_block R1.out)).trans R1.out)
  have d1 := (HAT.out w2 w.heap.size _ R2.out).2.1
  have HKA : Hid (Kp K w w2) := HK0.out.trans HK2.out
  clear c0 c1 c2 c4 c5 HO2 HK2
  by_cases hE : Dk.rdE m o.m = 0
  · rw [hE]
    have HTx := Lib.hid (HT.out _ p2 q2 hE V2.out HS2.out)
    obtain ⟨nx, hnx⟩ : ∃ nx, (Dk.rdX m o.m).length = nx := ⟨_, rfl⟩
    rw [hnx] at HTx ⊢
    go_wp2_with (go_at_call 11; refine HTx.out.mono ?_; rintro e3 w3 ⟨rfl, V3, HK3⟩)
    go_ret
    exact ⟨_, _, rfl, by show Vt _ _ _ _ _ _ _ _ _; unfold Rg.rS; rw [if_neg (by omega)]; exact V3.out, HM.out _ _ (), HKA.out.trans HK3.out⟩
  · have hne : (Dk.rdE m o.m == 0) = false := by simpa using hE
    generalize Dk.rdE m o.m = rE at *
    go_wp2
    go_ret
    exact ⟨_, _, rfl, by show Vt _ _ _ _ _ _ _ _ _; unfold Rg.rS; rw [if_neg (by omega)]; exact V2.out, HM2.out, HKA.out⟩
set_option maxHeartbeats 2000000 in
set_option maxRecDepth 100000 in
theorem run_s (o : Rg.O) (hk : o.k = 3) (A : Array Value) (pd : Option Addr) (cd : Nat) (pf : Option Addr) (cf : Nat) (hA : OpK o A pd cd pf cf) (hop : OpOk x o pd cd pf cf) (w : World) (h : Vt x K w d g g2 m S S2) (_hb : o.D.length ≤ 1024 ∧ m.wr ≤ 10000 ∧ S.ss.length ≤ 10000 ∧ ∀ j, m.rd j ≤ 10000) :
    Calls Try.prog 14 #[.pointer (some ⟨d, 0, none⟩), .iface 29 (.pointer (some ⟨g, 0, none⟩)), .agg A] w (RunSay x K d g g2 o m S S2 w) := by
  obtain ⟨w1, hw1⟩ : ∃ y, y = w.alloc (.cells A 44) := ⟨_, rfl⟩
  have R1 : Hid (w1.heap[w.heap.size]? = some (.cells A 44 (0, 0))) := by rw [hw1]; exact heap_alloc_new w _
  have B1 : Hid (Below w.heap.size w w1) := by rw [hw1]; exact (Below.refl _ w).alloc (Nat.le_refl _) _
  have V1 := Lib.hid (h.old B1.out)
  have HK0 : Hid (Kp K w w1) := Kp.of_below B1.out
  have HKW := Lib.hid h.size
  have hs := hA.size
  have h1 := hA.one
  obtain ⟨c0, c1, c2, rr, c4, c5⟩ := hA.at_ w1 w.heap.size _ R1.out
  have HRR := Lib.hid rr
  have HAT := Lib.hid hA.at_
  have HOP := Lib.hid hop
  have hsr := row_size Try.sizeRec (Lib.hid (rar_size hop.ok))
  have HM : Hid ((Dk.syM m).wr ≤ m.wr + 1 ∧ (∀ j, (Dk.syM m).rd j ≤ m.rd j + 1) ∧ (Dk.syM m).n = m.n) := ⟨(Dk.aft_sync m).wr, fun j => by rw [(Dk.aft_sync m).rd]; omega, (Dk.aft_sync m).n⟩
  clear hA rr hop _hb h
  go_enter Try.func14, Try.ntmps14
  go_upto_region 1 with (fail)
  change Code.wp _ _ _ _ (w.alloc (.cells A 44))
  rw [← hw1]
  clear hw1
  rw [hk] at c0
  go_wp2_with (go_at_call 38; refine (vt_sync V1.out).mono ?_; rintro e2 w2 ⟨rfl, V2, HK2⟩)
  go_ret
  exact ⟨_, _, rfl, by show Vt _ _ _ _ _ _ _ _ _; unfold Rg.rS; rw [if_neg (by omega)]; exact V2.out, HM.out, HK0.out.trans HK2.out⟩
set_option maxHeartbeats 2000000 in
set_option maxRecDepth 100000 in
theorem run_x (o : Rg.O) (hk : o.k = 4) (A : Array Value) (pd : Option Addr) (cd : Nat) (pf : Option Addr) (cf : Nat) (hA : OpK o A pd cd pf cf) (hop : OpOk x o pd cd pf cf) (w : World) (h : Vt x K w d g g2 m S S2) (hb : o.D.length ≤ 1024 ∧ m.wr ≤ 10000 ∧ S.ss.length ≤ 10000 ∧ ∀ j, m.rd j ≤ 10000) :
    Calls Try.prog 14 #[.pointer (some ⟨d, 0, none⟩), .iface 29 (.pointer (some ⟨g, 0, none⟩)), .agg A] w (RunSay x K d g g2 o m S S2 w) := by
  obtain ⟨w1, hw1⟩ : ∃ y, y = w.alloc (.cells A 44) := ⟨_, rfl⟩
  have R1 : Hid (w1.heap[w.heap.size]? = some (.cells A 44 (0, 0))) := by rw [hw1]; exact heap_alloc_new w _
  have B1 : Hid (Below w.heap.size w w1) := by rw [hw1]; exact (Below.refl _ w).alloc (Nat.le_refl _) _
  have V1 := Lib.hid (h.old B1.out)
  have HK0 : Hid (Kp K w w1) := Kp.of_below B1.out
  have HKW := Lib.hid h.size
  have hs := hA.size
  have h1 := hA.one
  obtain ⟨c0, c1, c2, rr, c4, c5⟩ := hA.at_ w1 w.heap.size _ R1.out
  have HRR := Lib.hid rr
  have HAT := Lib.hid hA.at_
  have HOP := Lib.hid hop
  have hsr := row_size Try.sizeRec (Lib.hid (rar_size hop.ok))
  have HC : Hid (∀ y, Vt x K y d g g2 m S S2 → Calls Try.prog 39 #[.pointer (some ⟨d, 0, none⟩), .slice pf o.L.length cf] y (VtSay x K d g g2 (.tuple #[]) (Dk.crash m (Dk.fate o.L)) S S2 y)) := fun y hy => vt_crash hy (by omega) o.L pf _ cf rfl hop.L
  have HM : Hid ((Dk.crash m (Dk.fate o.L)).wr ≤ m.wr + 1 ∧ (∀ j, (Dk.crash m (Dk.fate o.L)).rd j ≤ m.rd j + 1) ∧ (Dk.crash m (Dk.fate o.L)).n = m.n) := ⟨by rw [(Dk.crash_rd m _).2]; omega, fun j => by rw [(Dk.crash_rd m _).1]; omega, (Dk.crk_n m _ _).1⟩
  clear hA rr hop hb h
  go_enter Try.func14, Try.ntmps14
  go_upto_region 1 with (fail)
  change Code.wp _ _ _ _ (w.alloc (.cells A 44))
  rw [← hw1]
  clear hw1
  rw [hk] at c0
  go_wp2_with (go_at_call 39; refine (HC.out _ V1.out).mono ?_; rintro e2 w2 ⟨rfl, V2, HK2⟩)
  go_ret
  exact ⟨_, _, rfl, by show Vt _ _ _ _ _ _ _ _ _; unfold Rg.rS; rw [if_neg (by omega)]; exact V2.out, HM.out, HK0.out.trans HK2.out⟩
set_option maxHeartbeats 2000000 in
set_option maxRecDepth 100000 in
theorem run_a (o : Rg.O) (hk : o.k = 5) (A : Array Value) (pd : Option Addr) (cd : Nat) (pf : Option Addr) (cf : Nat) (hA : OpK o A pd cd pf cf) (hop : OpOk x o pd cd pf cf) (w : World) (h : Vt x K w d g g2 m S S2) (_hb : o.D.length ≤ 1024 ∧ m.wr ≤ 10000 ∧ S.ss.length ≤ 10000 ∧ ∀ j, m.rd j ≤ 10000) :
    Calls Try.prog 14 #[.pointer (some ⟨d, 0, none⟩), .iface 29 (.pointer (some ⟨g, 0, none⟩)), .agg A] w (RunSay x K d g g2 o m S S2 w) := by
  obtain ⟨w1, hw1⟩ : ∃ y, y = w.alloc (.cells A 44) := ⟨_, rfl⟩
  have R1 : Hid (w1.heap[w.heap.size]? = some (.cells A 44 (0, 0))) := by rw [hw1]; exact heap_alloc_new w _
  have B1 : Hid (Below w.heap.size w w1) := by rw [hw1]; exact (Below.refl _ w).alloc (Nat.le_refl _) _
  have V1 := Lib.hid (h.old B1.out)
  have HK0 : Hid (Kp K w w1) := Kp.of_below B1.out
  have HKW := Lib.hid h.size
  have hs := hA.size
  have h1 := hA.one
  obtain ⟨c0, c1, c2, rr, c4, c5⟩ := hA.at_ w1 w.heap.size _ R1.out
  have HRR := Lib.hid rr
  have HAT := Lib.hid hA.at_
  have HOP := Lib.hid hop
  have hsr := row_size Try.sizeRec (Lib.hid (rar_size hop.ok))
  have HC : Hid (∀ y, Vt x K y d g g2 m S S2 → Calls Try.prog 40 #[.pointer (some ⟨d, 0, none⟩), .int .i64 o.n] y (VtSay x K d g g2 (.tuple #[]) { m with left := o.n } S S2 y)) := fun y hy => vt_arm o.n (by have := hop.n; unfold Pk.In64 at this; unfold In64; exact this) hy
  clear hA rr hop _hb h
  go_enter Try.func14, Try.ntmps14
  go_upto_region 1 with (fail)
  change Code.wp _ _ _ _ (w.alloc (.cells A 44))
  rw [← hw1]
  clear hw1
  rw [hk] at c0
  go_wp2_with (go_at_call 40; refine (HC.out _ V1.out).mono ?_; rintro e2 w2 ⟨rfl, V2, HK2⟩)
  go_ret
  exact ⟨_, { m with left := o.n }, rfl, by show Vt _ _ _ _ _ _ _ _ _; unfold Rg.rS; rw [if_neg (by omega)]; exact V2.out, ⟨Nat.le_succ _, fun j => Nat.le_succ _, rfl⟩, HK0.out.trans HK2.out⟩
set_option maxHeartbeats 2000000 in
set_option maxRecDepth 100000 in
theorem run_e (o : Rg.O) (h0 : o.k ≠ 0) (h1k : o.k ≠ 1) (h2k : o.k ≠ 2) (h3k : o.k ≠ 3) (h4k : o.k ≠ 4) (h5k : o.k ≠ 5) (A : Array Value) (pd : Option Addr) (cd : Nat) (pf : Option Addr) (cf : Nat) (hA : OpK o A pd cd pf cf) (hop : OpOk x o pd cd pf cf) (w : World) (h : Vt x K w d g g2 m S S2) (_hb : o.D.length ≤ 1024 ∧ m.wr ≤ 10000 ∧ S.ss.length ≤ 10000 ∧ ∀ j, m.rd j ≤ 10000) :
    Calls Try.prog 14 #[.pointer (some ⟨d, 0, none⟩), .iface 29 (.pointer (some ⟨g, 0, none⟩)), .agg A] w (RunSay x K d g g2 o m S S2 w) := by
  obtain ⟨w1, hw1⟩ : ∃ y, y = w.alloc (.cells A 44) := ⟨_, rfl⟩
  have R1 : Hid (w1.heap[w.heap.size]? = some (.cells A 44 (0, 0))) := by rw [hw1]; exact heap_alloc_new w _
  have B1 : Hid (Below w.heap.size w w1) := by rw [hw1]; exact (Below.refl _ w).alloc (Nat.le_refl _) _
  have V1 := Lib.hid (h.old B1.out)
  have HK0 : Hid (Kp K w w1) := Kp.of_below B1.out
  have HKW := Lib.hid h.size
  have hs := hA.size
  have h1 := hA.one
  obtain ⟨c0, c1, c2, rr, c4, c5⟩ := hA.at_ w1 w.heap.size _ R1.out
  have HRR := Lib.hid rr
  have HAT := Lib.hid hA.at_
  have HOP := Lib.hid hop
  have hsr := row_size Try.sizeRec (Lib.hid (rar_size hop.ok))
  clear hA rr hop _hb h
  go_enter Try.func14, Try.ntmps14
  go_upto_region 1 with (fail)
  change Code.wp _ _ _ _ (w.alloc (.cells A 44))
  rw [← hw1]
  clear hw1
  have b0 : (o.k == 0) = false := by simpa using h0
  have b1 : (o.k == 1) = false := by simpa using h1k
  have b2 : (o.k == 2) = false := by simpa using h2k
  have b3 : (o.k == 3) = false := by simpa using h3k
  have b4 : (o.k == 4) = false := by simpa using h4k
  have b5 : (o.k == 5) = false := by simpa using h5k
  have HF : Hid (Vt x K w1 d g g2 m (Rg.rS S o) S2) := by show Vt _ _ _ _ _ _ _ _ _; unfold Rg.rS; rw [if_neg (by omega)]; exact V1.out
  clear h0 h1k h2k h3k h4k h5k
  generalize o.k = kk at c0 b0 b1 b2 b3 b4 b5
  go_wp2
  go_ret
  exact ⟨_, m, rfl, HF.out, ⟨by omega, fun j => by omega, rfl⟩, HK0.out⟩
theorem run_any (o : Rg.O) (A : Array Value) (pd : Option Addr) (cd : Nat) (pf : Option Addr) (cf : Nat) (hA : OpK o A pd cd pf cf) (hop : OpOk x o pd cd pf cf) (w : World) (h : Vt x K w d g g2 m S S2) (hb : o.D.length ≤ 1024 ∧ m.wr ≤ 10000 ∧ S.ss.length ≤ 10000 ∧ ∀ j, m.rd j ≤ 10000) :
    Calls Try.prog 14 #[.pointer (some ⟨d, 0, none⟩), .iface 29 (.pointer (some ⟨g, 0, none⟩)), .agg A] w (RunSay x K d g g2 o m S S2 w) := by
  by_cases h0 : o.k = 0
  · exact run_w o h0 A pd cd pf cf hA hop w h hb
  by_cases h1 : o.k = 1
  · exact run_t o h1 A pd cd pf cf hA hop w h hb
  by_cases h2 : o.k = 2
  · exact run_c o h2 A pd cd pf cf hA hop w h hb
  by_cases h3 : o.k = 3
  · exact run_s o h3 A pd cd pf cf hA hop w h hb
  by_cases h4 : o.k = 4
  · exact run_x o h4 A pd cd pf cf hA hop w h hb
  by_cases h5 : o.k = 5
  · exact run_a o h5 A pd cd pf cf hA hop w h hb
  exact run_e o h0 h1 h2 h3 h4 h5 A pd cd pf cf hA hop w h hb
end

end Go.Proofs.Ytpfghjnhoafcmaa
