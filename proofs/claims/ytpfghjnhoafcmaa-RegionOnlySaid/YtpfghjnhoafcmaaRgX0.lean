/-
  Pick with any bound; Sync and Crash of a disk that a law plays with.
-/
import Derived.Test.YtpfghjnhoafcmaaRg4
import Derived.Test.YtpfghjnhoafcmaaDk4
import Derived.Test.YtpfghjnhoafcmaaPa4
namespace Go.Proofs.Ytpfghjnhoafcmaa
open Go.RowKit

set_option maxHeartbeats 1000000 in
theorem pickz_any (k n : Int) (h1 : 1 ≤ n) (hn : n ≤ 1000000000000000) (w : World) : Calls Try.prog 12 #[.int .i64 k, .int .i64 n] w fun r w' => w' = w ∧ ∃ j : Int, 0 ≤ j ∧ j < n ∧ r = .returned (.int .i64 j) := by
  have hlt : k.tmod n < n := Int.tmod_lt_of_pos k (by omega)
  have hge : -n < k.tmod n := by
    have h := Int.tmod_lt_of_pos (-k) (show 0 < n by omega)
    rw [Int.neg_tmod] at h
    omega
  have hw : IntKind.i64.wrap (k.tmod n) = k.tmod n := IntWalk.i64_in _ ⟨by omega, by omega⟩
  have hnz : n ≠ 0 := by omega
  have hw2 : IntKind.i64.wrap (k.tmod n + n) = k.tmod n + n := IntWalk.i64_in _ ⟨by omega, by omega⟩
  by_cases h0 : k.tmod n < 0
  · go_enter Try.func12, Try.ntmps12
    go_wp2
    go_ret
    exact ⟨rfl, k.tmod n + n, by omega, by omega, rfl⟩
  · have h0' : 0 ≤ k.tmod n := by omega
    go_enter Try.func12, Try.ntmps12
    go_wp2
    go_ret
    exact ⟨rfl, k.tmod n, by omega, by omega, rfl⟩
section
variable {x y z : World} {K d g : Nat} {m m' : Dk.M} {S : Nm.St} {T : Nat → Prop} {lb rb cb b c : Nat}
theorem vs_step (h1 : DkAt y T d lb rb cb m) (h2 : StAt y g b c S) (h3 : ¬ T g ∧ ¬ T b ∧ ¬ T c) (h4 : Below x.heap.size x y) (h5 : ∀ k ∈ [d, lb, rb, cb, b], x.heap.size ≤ k ∧ k < K) (h6 : K ≤ y.heap.size) (hd : DkAt z (Own T y z) d lb rb cb m') (hm : Mv [d, lb, rb, cb] y z) : Vs x K z d g m' S ∧ Kp K y z := by
  have hks : ∀ k ∈ [d, lb, rb, cb], T k := fun k hk => by
    simp only [List.mem_cons, List.not_mem_nil, or_false] at hk
    rcases hk with rfl | rfl | rfl | rfl
    · exact h1.lt.1
    · exact h1.lt.2.1
    · exact h1.lt.2.2.1
    · exact h1.lt.2.2.2
  have hin : ∀ k ∈ [d, lb, rb, cb], k ∈ [d, lb, rb, cb, b] := fun k hk => by
    simp only [List.mem_cons, List.not_mem_nil, or_false] at hk ⊢
    rcases hk with q | q | q | q <;> simp [q]
  have key : StAt z g b c S := h2.keep (hm.block _ h2.lt.1 (fun q => h3.1 (hks _ q))) (hm.block _ h2.lt.2.1 (fun q => h3.2.1 (hks _ q))) (hm.block _ h2.lt.2.2 (fun q => h3.2.2 (hks _ q)))
  have hy : ∀ k, Own T y z k → k = g ∨ k = b ∨ k = c → False := fun k hk hq => by
    rcases hk with q | q
    · rcases hq with rfl | rfl | rfl
      · exact h3.1 q
      · exact h3.2.1 q
      · exact h3.2.2 q
    · have := h2.lt
      omega
  exact ⟨⟨Own T y z, lb, rb, cb, b, c, hd, key, ⟨fun q => hy _ q (Or.inl rfl), fun q => hy _ q (Or.inr (Or.inl rfl)), fun q => hy _ q (Or.inr (Or.inr rfl))⟩, hm.below h4 (fun k hk => (h5 k (hin k hk)).1) h4.size, h5, Nat.le_trans h6 hm.size⟩, Kp.of_mv hm (fun k hk => (h5 k (hin k hk)).2)⟩
theorem own_lift {z : World} (hd : DkAt z T d lb rb cb m) (y : World) : DkAt z (Own T y z) d lb rb cb m := hd.own
theorem vs_sync (h : Vs x K y d g m S) : Calls Try.prog 38 #[.pointer (some ⟨d, 0, none⟩)] y (VSay x K d g (.int .i64 (Dk.spendE m)) (Dk.syM m) S y) := by
  obtain ⟨T, lb, rb, cb, b, c, h1, h2, h3, h4, h5, h6⟩ := h
  refine (sync_any y h1).mono ?_
  rintro e z ⟨rfl, hd, hm⟩
  have h := vs_step h1 h2 h3 h4 h5 h6 (own_lift hd.out y) hm.out
  exact ⟨rfl, h.1, h.2⟩
theorem vs_crash (h : Vs x K y d g m S) (hwr : m.wr ≤ 1000000000) (L : List Int) (p : Option Addr) (n c' : Nat) (hn : L.length = n) (hl : ∀ lb rb cb z, Mv [d, lb, rb, cb] y z → (∀ k ∈ [d, lb, rb, cb], x.heap.size ≤ k) → IAt z p L) :
    Calls Try.prog 39 #[.pointer (some ⟨d, 0, none⟩), .slice p n c'] y (VSay x K d g (.tuple #[]) (Dk.crash m (Dk.fate L)) S y) := by
  obtain ⟨T, lb, rb, cb, b, c, h1, h2, h3, h4, h5, h6⟩ := h
  have hin : ∀ k ∈ [d, lb, rb, cb], k ∈ [d, lb, rb, cb, b] := fun k hk => by
    simp only [List.mem_cons, List.not_mem_nil, or_false] at hk ⊢
    rcases hk with q | q | q | q <;> simp [q]
  refine (crash_any L p n c' hn y h1 hwr (fun z hz => hl lb rb cb z hz (fun k hk => (h5 k (hin k hk)).1))).mono ?_
  rintro e z ⟨rfl, hd, hm⟩
  have h := vs_step h1 h2 h3 h4 h5 h6 (own_lift hd.out y) hm.out
  exact ⟨rfl, h.1, h.2⟩
end
/-- A row of the law's own turns, made behind the disk and the names; what it holds are no bytes. -/
theorem vs_far {x y z : World} {K d g : Nat} {m : Dk.M} {S : Nm.St} {e : TypeId} {row : Option Nat} {o : Obj} (h : Vs x K y d g m S) (hq : ∀ q, row = some q → K ≤ q ∧ ∃ cur, y.heap[q]? = some (.cells cur e (0, 0))) (he : e ≠ 5) (hn : e ≠ 79)
    (hg : (y.alloc o).grownBy z row) : Vs x K z d g m S := by
  obtain ⟨T, lb, rb, cb, b, c, h1, h2, h3, h4, h5, h6⟩ := h
  have hy : ∀ k, k < y.heap.size → (y.alloc o).heap[k]? = y.heap[k]? := fun k hk => ((Below.refl _ y).alloc (Nat.le_refl _) o).block k hk
  have hs : y.heap.size ≤ z.heap.size := Nat.le_trans ((Below.refl _ y).alloc (Nat.le_refl _) o).size hg.size
  have hb : ∀ k, k < y.heap.size → some k ≠ row → z.heap[k]? = y.heap[k]? := fun k hk hr => (hg.block k (Nat.lt_of_lt_of_le hk ((Below.refl _ y).alloc (Nat.le_refl _) o).size) hr).trans (hy k hk)
  have hlow : ∀ k, k < K → k < y.heap.size → z.heap[k]? = y.heap[k]? := fun k hk hk2 => hb k hk2 (fun q => by have := (hq k q.symm).1; omega)
  have htyp : ∀ (k : Nat) (ob : Obj), y.heap[k]? = some ob → (∀ cur, ob ≠ Obj.cells cur e (0, 0)) → z.heap[k]? = y.heap[k]? := fun k ob hk hne => hb k (lt_of_block hk) (fun q => by
    obtain ⟨_, cur, hc⟩ := hq k q.symm
    rw [hk] at hc
    injection hc with hc
    exact hne cur hc)
  have t1 := h1.lt
  have t2 := h1.top
  have kd : ∀ k ∈ [d, lb, rb, cb, b], k < y.heap.size → z.heap[k]? = y.heap[k]? := fun k hk hl => hlow k (h5 k hk).2 hl
  refine ⟨T, lb, rb, cb, b, c, h1.keep (fun k hk => Nat.lt_of_lt_of_le (t2 k hk) hs) (kd d (by simp) (t2 _ t1.1)) (kd lb (by simp) (t2 _ t1.2.1)) (kd rb (by simp) (t2 _ t1.2.2.1)) (kd cb (by simp) (t2 _ t1.2.2.2)) (fun k cur _ hk => htyp k _ hk (fun cur' q => ?_)), ?_, h3, ⟨?_, ?_, ?_, Nat.le_trans h4.size hs, fun k hk => ?_⟩, h5, Nat.le_trans h6 hs⟩
  · injection q with _ q _
    exact he q.symm
  · obtain ⟨_, _, es, cl, hc, _⟩ := h2.ts
    exact h2.keep (htyp g _ h2.row (fun cur q => by injection q with _ q _; exact hn q.symm)) (kd b (by simp) h2.lt.2.1) (htyp c _ hc (fun cur q => by cases q))
  · exact hg.os.trans h4.os
  · exact hg.tape.trans h4.tape
  · exact hg.output.trans h4.output
  · have hkk : k < y.heap.size := Nat.lt_of_lt_of_le hk h4.size
    have hxK : x.heap.size ≤ K := by have := h5 d (by simp); omega
    exact (hlow k (by omega) hkk).trans (h4.block k hk)
theorem vs_grown {x y z : World} {K d g : Nat} {m : Dk.M} {S : Nm.St} {v : Value} {L : List Rg.R} {o : Obj} (h : Vs x K y d g m S) (ho : RsO K y v L) (hg : (y.alloc o).grownBy z v.ownBlock) : Vs x K z d g m S :=
  vs_far h (fun _ hq => own_type ho _ hq) (by decide) (by decide) hg

end Go.Proofs.Ytpfghjnhoafcmaa
