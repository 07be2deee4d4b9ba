/-
  The law NamesRuns: one more is sealed; too long a list.
-/
import Derived.Test.YtdmnlooghamngaaNaS8
import Derived.Test.YtdmnlooghamngaaNaV
namespace Go.Proofs.Ytdmnlooghamngaa
open Go.RowKit

/-- append of one row: where it lies then. -/
theorem append_got_at {ops : Array Oper} {rest : List Oper} {a : Act} {w : World} {K : Exit → Act → World → Prop} {D : Option Tmp} {T : TypeId} {ps : String} {af : Array Edge} (s x : Operand) (B : Nat) (v : Value) (k : Nat) (Q : Nat → List Int) (ad : Addr) (p : Option Addr) (m c : Nat)
    (hs : a.eval s = v) (hx : a.eval x = .slice (some ad) 1 1) (hg : Got B w v k Q) (hc : w.cell? ad = some (.slice p m c)) (hm : (Q k).length = m) (hrow : w.ownsRow B 5 1 (.slice p m c) m (U8s (Q k))) (hk : k ≤ 1000000) (hB : B ≤ w.heap.size)
    (h : ∀ v' w', Got B w' v' (k + 1) Q → w.grownBy w' v.ownBlock → (v'.ownBlock = v.ownBlock ∨ v'.ownBlock = some w.heap.size) → (∀ E : List Nat, (∀ q ∈ E, q < w.heap.size) → Av E w B 30 1 k v → (∀ g, (Value.slice p m c).ownBlock = some g → g ∉ E) → Av E w' B 30 1 (k + 1) v') → wpList Try.prog ops K rest (a.put D v') w') :
    wpList Try.prog ops K ({ dst := D, op := .call { callee := .builtin .append, args := #[s, x], argTypes := #[29, 29] }, type := T, pos := ps, after := af, guard := none } :: rest) a w := by
  obtain ⟨i0, hi, hz0, hz1, hz2⟩ := info_parts Try.info_bytes
  obtain ⟨xs, h1, h2⟩ := hg
  have hadd : ad.add 0 = ad := by simp [Addr.add]
  refine wpList_append_own_at _ rfl s x 29 rfl B 30 i0 (.slice none 0 0) 1 24 Try.underlying29 hi hz0 hz1 hz2 rfl (by decide) v k xs hs h1 ad 1 1 [.slice p m c] hx rfl (fun j u hj => ?_) (fun u hu => ?_) (by unfold maxLen; omega) (by omega) hB ?_
  · rcases j with _ | j
    · simp at hj; subst hj; rw [hadd]; exact hc
    · simp at hj
  · simp at hu; subst hu; rfl
  · intro v' w' ho hgr _ hpl
    have hne : ∀ (n : Nat) (u : Value) (ys : List Value), w.ownsRow B 5 1 u n ys → ∀ g, u.ownBlock = some g → some g ≠ v.ownBlock := fun n u ys hu => own_apart hu h1 (by decide)
    have hxl : xs.length = k := by have := h1.1; omega
    refine h v' w' ⟨_, ho, fun j hj => ?_⟩ hgr hpl (fun E hE hA he1 => hA.append h1 ho (fun g hg => ?_) (fun u hu g hg => ?_))
    rotate_left
    · rcases hpl with e | e
      · exact hA.1 g (e ▸ hg)
      · rw [e] at hg
        cases hg
        exact fun he => Nat.lt_irrefl _ (hE _ he)
    · simp at hu
      subst hu
      exact he1 g hg
    · by_cases hjk : j < k
      · obtain ⟨p', m', c', h3, h4, h5⟩ := h2 j hjk
        exact ⟨p', m', c', by rw [List.getElem?_append_left (by omega)]; exact h3, h4, own_grown h5 hgr (hne _ _ _ h5)⟩
      · obtain rfl : j = k := by omega
        exact ⟨p, m, c, by rw [List.getElem?_append_right (by omega), hxl]; simp, hm, own_grown hrow hgr (hne _ _ _ hrow)⟩
section
variable {w y z : World} {N2 g b c gr n : Nat} {V V' u1 u2 : Value} {Q Q' : Nat → List Int} {Sp Sr : Nm.St} {E : List Nat}
theorem Rd.congr (h : Rd w N2 g b c gr V u1 u2 n Q Sp Sr y) (hq : ∀ j, j < n → Q' j = Q j) : Rd w N2 g b c gr V u1 u2 n Q' Sp Sr y :=
  ⟨h.old, h.sz, h.blk, h.st, h.ref, h.got.congr hq, h.nb⟩
/-- One more is sealed. -/
theorem Rd.append (hr : Rd w N2 g b c gr V u1 u2 n Q Sp Sr y) (hg : y.grownBy z V.ownBlock) (hz : Got N2 z V' (n + 1) Q) (hp : V'.ownBlock = V.ownBlock ∨ V'.ownBlock = some y.heap.size) :
    Rd w N2 g b c gr V' u1 u2 (n + 1) Q Sp Sr z ∧ (RdE E N2 gr V u1 u2 n Sr y → Av E z N2 30 1 (n + 1) V' → RdE E N2 gr V' u1 u2 (n + 1) Sr z) := by
  have hb := hr.blk.2
  have hl := hr.st.lt
  have tV := hr.got.type
  have hV : ∀ k, k < N2 → some k ≠ V.ownBlock := fun k hk e => by have := (tV k e.symm).1; omega
  have hne : ∀ (k : Nat) (cur : Array Value) (e : TypeId), y.heap[k]? = some (.cells cur e (0, 0)) → e ≠ 30 → some k ≠ V.ownBlock := fun k cur e h2 h3 h4 => by
    obtain ⟨_, cur', h5⟩ := tV k h4.symm
    rw [h5] at h2
    cases h2
    exact h3 rfl
  have k1 : ∀ k, u1.ownBlock = some k → z.heap[k]? = y.heap[k]? := fun k hk => by
    obtain ⟨_, cur, h2⟩ := hr.ref.ss.type k hk
    exact hg.block k (lt_of_block h2) (hne k cur _ h2 (by decide))
  have k2 : ∀ k, u2.ownBlock = some k → z.heap[k]? = y.heap[k]? := fun k hk => by
    obtain ⟨_, cur, h2⟩ := hr.ref.ts.type k hk
    exact hg.block k (lt_of_block h2) (fun e => hr.nb k e.symm hk)
  have ki : ∀ k cur, y.heap[k]? = some (.cells cur 5 (0, 0)) → N2 ≤ k → z.heap[k]? = y.heap[k]? := fun k cur h2 _ => hg.block k (lt_of_block h2) (hne k cur _ h2 (by decide))
  have hrow : z.heap[gr]? = y.heap[gr]? := hg.block gr (lt_of_block hr.ref.row) (fun e => by
    obtain ⟨_, cur, h2⟩ := tV gr e.symm
    rw [hr.ref.row] at h2
    cases h2)
  refine ⟨⟨hr.old.grown hg hr.old.size (fun q hq => Nat.le_trans hr.sz.1 (tV q hq).1), ⟨hr.sz.1, Nat.le_trans hr.sz.2 hg.size⟩, hr.blk, hr.st.keep (hg.block _ hl.1 (hV _ hb.1)) (hg.block _ hl.2.1 (hV _ hb.2.1)) (hg.block _ hl.2.2 (hV _ hb.2.2)), ⟨hrow.trans hr.ref.row, hr.ref.ss.keep k1 ki, hr.ref.ts.keep k2 ki, hr.ref.byt, hr.ref.one, hr.ref.base⟩, hz, fun k hk e => ?_⟩, fun he ha => ⟨he.1, he.2.1.keep hr.ref k1 k2, ha⟩⟩
  rcases hp with h3 | h3
  · exact hr.nb k (h3 ▸ hk) e
  · rw [h3] at hk
    cases hk
    obtain ⟨_, cur, h5⟩ := hr.ref.ts.type _ e
    exact Nat.lt_irrefl _ (lt_of_block h5)
end

/-- The calls' own copies and rows of bytes, from N2 on, stay. -/
def Fr (N2 : Nat) (y z : World) : Prop := ∀ k cur e, y.heap[k]? = some (.cells cur e (0, 0)) → N2 ≤ k → (e = 32 ∨ e = 5) → z.heap[k]? = y.heap[k]?
section
variable {w y z : World} {N2 g b c gr n : Nat} {V u1 u2 : Value} {Q : Nat → List Int} {Sp Sr : Nm.St}
theorem Fr.refl (N2 : Nat) (y : World) : Fr N2 y y := fun _ _ _ _ _ _ => rfl
theorem Fr.trans {x : World} (h : Fr N2 x y) (k : Fr N2 y z) : Fr N2 x z := fun i cur e h1 h2 h3 => (k i cur e ((h i cur e h1 h2 h3).trans h1) h2 h3).trans (h i cur e h1 h2 h3)
theorem Fr.below (h : Below y.heap.size y z) : Fr N2 y z := fun k _ _ h1 _ _ => h.block k (lt_of_block h1)
theorem Fr.only {q : Nat} (h : Only q y z) (hq : q < N2) : Fr N2 y z := fun k _ _ h1 h2 _ => h.block k (lt_of_block h1) (by omega)
theorem Fr.grown (hr : Rd w N2 g b c gr V u1 u2 n Q Sp Sr y) (h : y.grownBy z V.ownBlock) : Fr N2 y z := fun k cur e h1 _ h3 => h.block k (lt_of_block h1) (fun q => by
  obtain ⟨_, cur', h4⟩ := hr.got.type k q.symm
  rw [h1] at h4
  cases h4
  rcases h3 with h3 | h3 <;> exact absurd h3 (by decide))
theorem Fr.eff {row : Option Nat} (hr : Rd w N2 g b c gr V u1 u2 n Q Sp Sr y) (h : Eff gr row y z) (hrow : row = u1.ownBlock ∨ row = u2.ownBlock) : Fr N2 y z := fun k cur e h1 _ h3 => h.block k (lt_of_block h1) (fun q => by
  have h4 := hr.ref.row
  rw [← q, h1] at h4
  cases h4
  rcases h3 with h3 | h3 <;> exact absurd h3 (by decide)) (fun q => by
  rcases hrow with h5 | h5
  · obtain ⟨_, cur', h4⟩ := hr.ref.ss.type k (h5.symm.trans q.symm)
    rw [h1] at h4
    cases h4
    rcases h3 with h3 | h3 <;> exact absurd h3 (by decide)
  · obtain ⟨_, cur', h4⟩ := hr.ref.ts.type k (h5.symm.trans q.symm)
    rw [h1] at h4
    cases h4
    rcases h3 with h3 | h3 <;> exact absurd h3 (by decide))
/-- A row of bytes of the call's own stays. -/
theorem Fr.own {m : Nat} {v : Value} {xs : List Value} (h : Fr N2 y z) (ho : y.ownsRow N2 5 1 v m xs) : z.ownsRow N2 5 1 v m xs := own_keepB ho (fun k hk => by
  obtain ⟨h1, cur, h2⟩ := own_type ho k hk
  exact h k cur _ h2 h1 (Or.inr rfl))
end

theorem Nm.opn_short (S : Nm.St) (e n : Int) (h s : List Int) : ((Nm.opn S e n h s).getD []).length ≤ s.length := by
  unfold Nm.opn
  split
  · simp
  · split
    · simp
    · simp
theorem Rd.spoil {w y z : World} {N2 g b c gr n : Nat} {V u1 u2 v : Value} {Q : Nat → List Int} {Sp' Sr : Nm.St} {E : List Nat} (hr : Rd w N2 g b c gr V u1 u2 n Q Sp' Sr y) (he : RdE E N2 gr V u1 u2 n Sr y) (hs : Sp v y z) (hv : ∀ q, v.ownBlock = some q → q ∈ E) : Rd w N2 g b c gr V u1 u2 n Q Sp' Sr z ∧ RdE E N2 gr V u1 u2 n Sr z := by
  rcases hs with rfl | ⟨q, h1, h2⟩
  · exact ⟨hr, he⟩
  · exact hr.turn he (hv q h1) h2
/-- A lent row is written over. -/
theorem spoil_lent (L : List Int) (g : Nat) (hL : L.length ≤ 100000) (w : World) (h : w.heap[g]? = some (.cells ((mk5 L).map (Value.int .u8)).toArray 5 (0, 0))) :
    Calls Try.prog 19 #[.slice (some ⟨g, 0, none⟩) (L.length + 5) (L.length + 5)] w fun r w' => r = .returned (.tuple #[]) ∧ Only g w w' :=
  spoil_cells g _ _ _ (mk5 L) (mk5_len L) (by omega) w h (fun j hj => by
    have hl := mk5_len L
    simp [List.getD_eq_getElem?_getD, show j < (mk5 L).length by omega])
set_option maxHeartbeats 1000000 in
set_option maxRecDepth 100000 in
theorem runs_long (tp : Option Addr) (m cap : Nat) (w : World) (hg : Calls Try.prog 9 #[.slice tp m cap] w fun e w' => e = .returned (.bool true) ∧ w = w') :
    Calls Try.prog 3 #[.slice tp m cap] w (YesSay w) := by
  have HG := Lib.hid hg; clear hg
  go_enter Try.func3, Try.ntmps3
  go_wp2_with (first
    | (go_at_call 9; refine HG.out.mono ?_; rintro e1 w1 ⟨rfl, rfl⟩)
    | (go_at_call 10; refine (works_any _).mono ?_; rintro e4 w4 ⟨rfl, hb4⟩))
  go_ret
  exact ⟨rfl, hb4⟩
end Go.Proofs.Ytdmnlooghamngaa
