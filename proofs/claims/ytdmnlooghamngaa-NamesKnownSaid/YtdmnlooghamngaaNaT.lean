/-
  Sums held against one another; contract: Open.
-/
import Derived.Test.YtdmnlooghamngaaNaR
import Derived.Laws.Cover3
import Derived.Laws.StructEq
import Derived.ChangeKeysEq
namespace Go.Proofs.Ytdmnlooghamngaa
open Go.RowKit

theorem Try.agg5 (w : World) : (isAgg 5).run Try.prog w = .ok false w := by
  unfold isAgg
  rw [Sem.run_bind, run_underlying Try.underlying5 w]
  rfl
theorem items_eq (d : Nat) (c : Nat) (hc : c = 1) (a b : List Int) (w : World) : ∀ is : List Nat, (∀ i ∈ is, i < a.length) → (∀ i ∈ is, i < b.length) →
    (Op.eqItems (d + 1) 5 c (a.map (Value.int .u8)).toArray (b.map (Value.int .u8)).toArray is).run Try.prog w = .ok (is.all fun i => a.getD i 0 == b.getD i 0) w
  | [], _, _ => by simp [Op.eqItems]
  | i :: is, h, h' => by
    subst hc
    have hi := h i (by simp)
    have hi' := h' i (by simp)
    have hv : (a.map (Value.int .u8)).toArray[i * 1]? = some (.int .u8 (a.getD i 0)) := by simp [hi, List.getD_eq_getElem?_getD]
    have hv' : (b.map (Value.int .u8)).toArray[i * 1]? = some (.int .u8 (b.getD i 0)) := by simp [hi', List.getD_eq_getElem?_getD]
    have hp : (part 5 (a.map (Value.int .u8)).toArray (i * 1)).run Try.prog w = .ok (.int .u8 (a.getD i 0)) w := by
      unfold part
      rw [Sem.run_bind, Try.agg5 w]
      simp only [Result.andThen_ok, hv]
      rfl
    have hp' : (part 5 (b.map (Value.int .u8)).toArray (i * 1)).run Try.prog w = .ok (.int .u8 (b.getD i 0)) w := by
      unfold part
      rw [Sem.run_bind, Try.agg5 w]
      simp only [Result.andThen_ok, hv']
      rfl
    have he := run_equalIn_int (P := Try.prog) w d 5 .u8 .u8 (a.getD i 0) (b.getD i 0) Try.underlying5
    rw [Op.eqItems]
    simp only [Sem.run_bind, hp, hp', Result.andThen_ok, he, List.all_cons]
    cases hq : a.getD i 0 == b.getD i 0
    · simp
    · simp only [Bool.not_true, Bool.false_eq_true, if_false, Bool.true_and]
      exact items_eq d 1 rfl a b w is (fun j hj => h j (by simp [hj])) (fun j hj => h' j (by simp [hj]))
theorem all_eq (a b : List Int) (ha : a.length = 32) (hb : b.length = 32) : ((List.range 32).all fun i => a.getD i 0 == b.getD i 0) = decide (a = b) := by
  by_cases h : a = b
  · subst h; simp
  · rw [decide_eq_false h, ← Bool.not_eq_true, List.all_eq_true]
    intro hall
    apply h
    apply List.ext_getElem (by omega)
    intro i h1 h2
    have := hall i (List.mem_range.2 (by omega))
    simpa [List.getD_eq_getElem?_getD, h1, h2] using this
theorem sums_eq (a b : List Int) (ha : a.length = 32) (hb : b.length = 32) (w : World) :
    (Op.equalIn 10000 42 (.agg (a.map (Value.int .u8)).toArray) (.agg (b.map (Value.int .u8)).toArray)).run Try.prog w = .ok (decide (a = b)) w := by
  cases hq : Try.prog.info? 5 with
  | none => have h5 := Try.info_u8; rw [hq] at h5; cases h5
  | some i =>
    rw [show (10000 : Nat) = (9998 + 1) + 1 from rfl, run_equalIn_array w _ _ _ Try.underlying42 hq, ← all_eq a b ha hb]
    exact items_eq 9998 _ (by kernel_rfl) a b w _ (fun j hj => by rw [ha]; exact List.mem_range.1 hj) (fun j hj => by rw [hb]; exact List.mem_range.1 hj)
theorem Try.noGuard : Try.prog.eqGuardType Try.prog.depth 42 = false := by kernel_rfl

/-- Seal, whatever is sealed. -/
theorem in64_of {n : Int} (h : Nm.inR n = true) : Nm.In64 n := by
  unfold Nm.inR at h
  simp at h
  unfold Nm.In64
  omega
theorem seal_any (S : Nm.St) (x : Nm.Four) (g b c : Nat) (ph pp : Option Addr) (nh np ch cp : Nat) (hnh : x.2.2.1.length = nh) (hnp : x.2.2.2.length = np) (hsz : np ≤ 1000000)
    (w : World) (hs : StAt w g b c S) (hh : Bs w ph ch x.2.2.1) (hp : Bs w pp cp x.2.2.2) (hl : S.ss.length ≤ 100000) :
    Calls Try.prog 16 #[.pointer (some ⟨g, 0, none⟩), .int .i64 x.1, .int .i64 x.2.1, .slice ph nh ch, .slice pp np cp] w (SealSay g b c S x w) := by
  cases hm : Nm.may x with
  | false => exact seal_none S x g b c _ _ hm w hs
  | true =>
    have h := hm
    unfold Nm.may at h
    simp only [Bool.and_eq_true] at h
    exact seal_good S x g b c ph pp nh np ch cp hnh hnp hsz hm ⟨in64_of h.1, in64_of h.2⟩ w hs hh hp hl

namespace Nm
/-- What Open answers. -/
def opn (S : St) (e n : Int) (h s : List Int) : Option (List Int) :=
  if s.length < 32 then none
  else if place (e, n, h, s.take (s.length - 32)) S.ss ≠ 0 ∧ s.drop (s.length - 32) = tg 0 (place (e, n, h, s.take (s.length - 32)) S.ss) then some (s.take (s.length - 32)) else none
end Nm
/-- What Open says. -/
def OpSay (o : Option (List Int)) (w : World) (e : Ending) (w' : World) : Prop :=
  ∃ p k m, e = .returned (.tuple #[.slice p m k, .bool o.isSome]) ∧ (o.getD []).length = m ∧ Hid (w'.ownsRow w.heap.size 5 1 (.slice p m k) m (U8s (o.getD []))) ∧ Hid (Bs w' p k (o.getD [])) ∧ Below w.heap.size w w'
theorem opsay_none {w w' : World} (hb : Below w.heap.size w w') : OpSay none w (.returned (.tuple #[.slice none 0 0, .bool false])) w' :=
  ⟨none, 0, 0, rfl, rfl, by show World.ownsRow _ _ _ _ _ _ _; unfold U8s; exact World.ownsRow_nil _ _ _ _, bs_none w', hb⟩

theorem open_short (S : Nm.St) (e n : Int) (h s : List Int) (g : Nat) (vh : Value) (ps : Option Addr) (ns cs : Nat) (hns : s.length = ns) (hlt : ns < 32) (w : World) :
    Calls Try.prog 20 #[.pointer (some ⟨g, 0, none⟩), .int .i64 e, .int .i64 n, vh, .slice ps ns cs] w (OpSay (Nm.opn S e n h s) w) := by
  have HO : Hid (Nm.opn S e n h s = none) := by show _ = _; unfold Nm.opn; rw [if_pos (by omega)]
  rw [HO.out]
  have hw0 : IntKind.i64.wrap ((ns : Int) - 32) = (ns : Int) - 32 := IntWalk.i64_in _ ⟨by omega, by omega⟩
  have hneg : (ns : Int) - 32 < 0 := by omega
  go_enter Try.func20, Try.ntmps20
  go_wp2
  go_ret2
  exact opsay_none (Below.refl _ _)
end Go.Proofs.Ytdmnlooghamngaa
