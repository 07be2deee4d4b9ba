/-
  The reference: Sum.
-/
import Derived.Test.YtdmnlooghamngaaNaS4
namespace Go.Proofs.Ytdmnlooghamngaa
open Go.RowKit

theorem Got.congr {B k : Nat} {w : World} {v : Value} {Q Q' : Nat → List Int} (h : Got B w v k Q) (hq : ∀ j, j < k → Q' j = Q j) : Got B w v k Q' := by
  obtain ⟨xs, h1, h2⟩ := h
  exact ⟨xs, h1, fun j hj => by rw [hq j hj]; exact h2 j hj⟩
theorem got_len {B k : Nat} {w : World} {v : Value} {Q : Nat → List Int} (h : Got B w v k Q) : ∃ a cap, v = .slice a k cap := by
  obtain ⟨xs, h1, _⟩ := h
  rcases h1.2 with ⟨h2, h3⟩ | ⟨g, cap, cur, h2, _⟩
  · exact ⟨none, 0, by rw [h2, h3]⟩
  · exact ⟨_, cap, h2⟩
/-- append of one row, as a step of a region that draws. -/
theorem step_append_text {ops : Array Oper} {o : Oper} {a : Act} {w : World} {K : Act → World → Prop} {R : Exit → Act → World → Prop} {E : Prop} (hgd : o.guard = none) (s x : Operand) (hop : o.op = .call { callee := .builtin .append, args := #[s, x], argTypes := #[29, 29] }) (B : Nat) (v : Value) (k : Nat) (Q : Nat → List Int) (q : Nat) (p : Option Addr) (m c : Nat)
    (hs : a.eval s = v) (hx : a.eval x = .slice (some ⟨q, 0, none⟩) 1 1) (hg : Got B w v k Q) (hc : w.heap[q]? = some (.cells #[.slice p m c] 30 (0, 0))) (hm : (Q k).length = m) (hrow : w.ownsRow B 5 1 (.slice p m c) m (U8s (Q k))) (hk : k ≤ 1000000) (hB : B ≤ w.heap.size)
    (h : ∀ v' w', Got B w' v' (k + 1) Q → w.grownBy w' v.ownBlock → (v'.ownBlock = v.ownBlock ∨ v'.ownBlock = some w.heap.size) → (∀ E : List Nat, (∀ q ∈ E, q < w.heap.size) → Av E w B 30 1 k v → (∀ g, (Value.slice p m c).ownBlock = some g → g ∉ E) → Av E w' B 30 1 (k + 1) v') → K (a.put o.dst v') w') :
    if Region.wanted o (yielded ops a.tmps) = true then Oper.wp Try.prog o a w K R else E := by
  rw [if_pos (by simp [Region.wanted, hgd])]
  obtain ⟨i0, hi, hz0, hz1, hz2⟩ := info_parts Try.info_bytes
  obtain ⟨xs, h1, h2⟩ := hg
  obtain ⟨v', w', hr, ho, hgr, _, hpl⟩ := run_append_own_at (P := Try.prog) w B 29 o.type 30 i0 (.slice none 0 0) 1 24 Try.underlying29 hi hz0 hz1 hz2 rfl (by decide) v k xs h1 ⟨q, 0, none⟩ 1 1 [.slice p m c] rfl (fun j u hj => by
    rcases j with _ | j
    · simp at hj; subst hj; rw [show ((⟨q, 0, none⟩ : Addr).add 0) = ⟨q, 0, none⟩ by simp [Addr.add], cell_of_row w q 0 _ _ _ hc]; rfl
    · simp at hj) (fun u hu => by simp at hu; subst hu; rfl) (by unfold maxLen; omega) (by omega) hB
  unfold Oper.wp execOp
  simp only [hop, resolve, invoke, builtin, Sem.run_bind, Sem.run_pure, Result.andThen_ok, List.map_toArray, List.map_cons, List.map_nil, hs, hx, hr]
  have hne : ∀ (n : Nat) (u : Value) (ys : List Value), w.ownsRow B 5 1 u n ys → ∀ g, u.ownBlock = some g → some g ≠ v.ownBlock := fun n u ys hu => own_apart hu h1 (by decide)
  have hxl : xs.length = k := by have := h1.1; omega
  refine h v' w' ⟨_, ho, fun j hj => ?_⟩ hgr hpl (fun E hE hA he1 => hA.append h1 ho (fun g hg => ?_) (fun u hu g hg => ?_))
  rotate_left
  · rcases hpl with e | e
    · exact hA.1 g (e ▸ hg)
    · rw [e] at hg
      cases hg
      exact fun he => Nat.lt_irrefl _ (hE _ he)
  · simp at hu
    subst hu
    exact he1 g hg
  by_cases hjk : j < k
  · obtain ⟨p', m', c', h3, h4, h5⟩ := h2 j hjk
    exact ⟨p', m', c', by rw [List.getElem?_append_left (by omega)]; exact h3, h4, own_grown h5 hgr (hne _ _ _ h5)⟩
  · obtain rfl : j = k := by omega
    exact ⟨p, m, c, by rw [List.getElem?_append_right (by omega), hxl]; simp, hm, own_grown hrow hgr (hne _ _ _ hrow)⟩
/-- The reference where a block of another type turns. -/
theorem RefAt.chg {w y : World} {B gr q : Nat} {v1 v2 : Value} {S : Nm.St} {cur : Array Value} {fr : Nat × Nat} (h : RefAt w B gr v1 v2 S) (hq : w.heap[q]? = some (.cells cur 42 fr)) (hc : Chg q w y) : RefAt y B gr v1 v2 S := by
  have hne : ∀ (g : Nat) (cu : Array Value) (e : TypeId), w.heap[g]? = some (.cells cu e (0, 0)) → e ≠ 42 → y.heap[g]? = w.heap[g]? := fun g cu e h2 h3 => hc.block g (fun h4 => by
    rw [h4, hq] at h2
    cases h2
    exact h3 rfl)
  refine ⟨(hne gr _ _ h.row (by decide)).trans h.row, h.ss.keep (fun g hg => ?_) (fun g cu h2 _ => hne g cu _ h2 (by decide)), h.ts.keep (fun g hg => ?_) (fun g cu h2 _ => hne g cu _ h2 (by decide)), h.byt, h.one, h.base⟩
  · obtain ⟨_, cu, h2⟩ := h.ss.type g hg
    exact hne g cu _ h2 (by decide)
  · obtain ⟨_, cu, h2⟩ := h.ts.type g hg
    exact hne g cu _ h2 (by decide)
theorem Eff.then_chg {gr q : Nat} {row : Option Nat} {w x y : World} (h : Eff gr row w x) (hc : Chg q x y) (hq : w.heap.size ≤ q) : Eff gr row w y :=
  ⟨hc.os.trans h.os, hc.tape.trans h.tape, hc.output.trans h.output, by rw [hc.size]; exact h.size, fun k hk h1 h2 => (hc.block k (by omega)).trans (h.block k hk h1 h2)⟩
/-- The reference where one more is summed. -/
theorem RefAt.summed {w y z : World} {B gr : Nat} {v1 v2 v' : Value} {S : Nm.St} {x : List Int} (h : RefAt w B gr v1 v2 S) (hs : Got B y v' (S.ts.length + 1) (fun j => (S.ts ++ [x]).getD j [])) (hg : w.grownBy y v2.ownBlock) (hc : Chg gr y z) (hz : z.heap[gr]? = some (.cells #[v1, v'] 65 (0, 0)))
    (hb : Sha.Byt x) (hn : x ∉ S.ts) : RefAt z B gr v1 v' ⟨S.ss, S.ts ++ [x]⟩ := by
  have t1 := h.ss.type
  have t2 := h.ts.type
  have t3 := hs.type
  have hgy : y.heap[gr]? = w.heap[gr]? := hg.block gr (lt_of_block h.row) (fun e => by
    obtain ⟨_, cur, h2⟩ := t2 gr e.symm
    rw [h.row] at h2
    cases h2)
  have hne : ∀ (g : Nat) (cur : Array Value) (e : TypeId), y.heap[g]? = some (.cells cur e (0, 0)) → e ≠ 65 → g ≠ gr := fun g cur e h2 h3 h4 => by
    rw [h4, hgy, h.row] at h2
    cases h2
    exact h3 rfl
  have hne' : ∀ (g : Nat) (cur : Array Value) (e : TypeId), w.heap[g]? = some (.cells cur e (0, 0)) → e ≠ 30 → some g ≠ v2.ownBlock := fun g cur e h2 h3 h4 => by
    obtain ⟨_, cur', h5⟩ := t2 g h4.symm
    rw [h5] at h2
    cases h2
    exact h3 rfl
  have hss : SAt B y v1 S.ss := h.ss.keep (fun g hg' => by
    obtain ⟨_, cur, h2⟩ := t1 g hg'
    exact hg.block g (lt_of_block h2) (hne' g cur _ h2 (by decide))) (fun g cur h2 _ => hg.block g (lt_of_block h2) (hne' g cur _ h2 (by decide)))
  refine ⟨hz, hss.keep (fun g hg' => ?_) (fun g cur h2 _ => hc.block g (hne g cur _ h2 (by decide))), ?_, ⟨h.byt.1, fun u hu => ?_⟩, ⟨h.one.1, ?_⟩, h.base⟩
  · obtain ⟨_, cur, h2⟩ := hss.type g hg'
    exact hc.block g (hne g cur _ h2 (by decide))
  · rw [show (⟨S.ss, S.ts ++ [x]⟩ : Nm.St).ts.length = S.ts.length + 1 by simp]
    exact hs.keep (fun g hg' => by
      obtain ⟨_, cur, h2⟩ := t3 g hg'
      exact hc.block g (hne g cur _ h2 (by decide))) (fun g cur h2 _ => hc.block g (hne g cur _ h2 (by decide)))
  · rcases List.mem_append.1 hu with h2 | h2
    · exact h.byt.2 u h2
    · obtain rfl := List.mem_singleton.1 h2
      exact hb
  · exact List.nodup_append.2 ⟨h.one.2, by simp, fun a ha b hb' e => by
      obtain rfl := List.mem_singleton.1 hb'
      exact hn (e ▸ ha)⟩
theorem RefE.summed {E : List Nat} {w y z : World} {B gr : Nat} {v1 v2 v' : Value} {S : Nm.St} {x : List Int} {Q : Nat → List Int} (he : RefE E w B gr v1 v2 S) (h : RefAt w B gr v1 v2 S) (hs : Got B y v' (S.ts.length + 1) Q) (ha : Av E y B 30 1 (S.ts.length + 1) v') (hg : w.grownBy y v2.ownBlock) (hc : Chg gr y z) : RefE E z B gr v1 v' ⟨S.ss, S.ts ++ [x]⟩ := by
  have t1 := h.ss.type
  have t2 := h.ts.type
  have hgy : y.heap[gr]? = w.heap[gr]? := hg.block gr (lt_of_block h.row) (fun e => by
    obtain ⟨_, cur, h2⟩ := t2 gr e.symm
    rw [h.row] at h2
    cases h2)
  have hne : ∀ (g : Nat) (cur : Array Value) (e : TypeId), y.heap[g]? = some (.cells cur e (0, 0)) → e ≠ 65 → g ≠ gr := fun g cur e h2 h3 h4 => by
    rw [h4, hgy, h.row] at h2
    cases h2
    exact h3 rfl
  have hne' : ∀ (g : Nat) (cur : Array Value) (e : TypeId), w.heap[g]? = some (.cells cur e (0, 0)) → e ≠ 30 → some g ≠ v2.ownBlock := fun g cur e h2 h3 h4 => by
    obtain ⟨_, cur', h5⟩ := t2 g h4.symm
    rw [h5] at h2
    cases h2
    exact h3 rfl
  obtain ⟨xs, a, _⟩ := hs
  obtain ⟨ys, b, _⟩ := h.ss
  have hl : (S.ts ++ [x]).length = S.ts.length + 1 := by simp
  refine ⟨he.1, ?_, ?_⟩
  · have hb : y.ownsRow B 72 4 v1 S.ss.length ys := own_keepB b (fun g hg' => by
      obtain ⟨_, cur, h2⟩ := own_type b g hg'
      exact hg.block g (lt_of_block h2) (hne' g cur _ h2 (by decide)))
    exact he.2.1.keep b (own_keepB hb (fun g hg' => by
      obtain ⟨_, cur, h2⟩ := own_type hb g hg'
      exact hc.block g (hne g cur _ h2 (by decide))))
  · show Av E z B _ 1 (S.ts ++ [x]).length v'
    rw [hl]
    exact ha.keep a (own_keepB a (fun g hg' => by
      obtain ⟨_, cur, h2⟩ := own_type a g hg'
      exact hc.block g (hne g cur _ h2 (by decide))))
theorem RefE.chg {E : List Nat} {w y : World} {B gr q : Nat} {v1 v2 : Value} {S : Nm.St} {cur : Array Value} {fr : Nat × Nat} (he : RefE E w B gr v1 v2 S) (h : RefAt w B gr v1 v2 S) (hq : w.heap[q]? = some (.cells cur 42 fr)) (hc : Chg q w y) : RefE E y B gr v1 v2 S :=
  he.keep h (fun g hg => hc.block g (fun h4 => by
    obtain ⟨_, cu, h2⟩ := h.ss.type g hg
    rw [h4, hq] at h2
    cases h2)) (fun g hg => hc.block g (fun h4 => by
    obtain ⟨_, cu, h2⟩ := h.ts.type g hg
    rw [h4, hq] at h2
    cases h2))
namespace Nm
/-- 24 ones, the first i of a number's eight bytes, and zeros. -/
def ge (k : Int) (i : Nat) : List Int := List.replicate 24 1 ++ ((e8 k 8).take i ++ List.replicate (8 - i) 0)
theorem ge_len (k : Int) (i : Nat) (h : i ≤ 8) : (ge k i).length = 32 := by simp [ge, e8_len]; omega
theorem ge_zero (k : Int) : fl 1 24 = ge k 0 := by unfold fl ge; simp
theorem ge_all (k : Int) : ge k 8 = tg 1 k := by rw [tg_e8]; unfold ge; rw [List.take_of_length_le (by rw [e8_len]; omega)]; simp
theorem ge_step (k : Int) (i : Nat) (h : i < 8) : (ge k i).set (24 + i) ((e8 k 8).getD i 0) = ge k (i + 1) := by
  unfold ge
  rw [List.set_append_right _ _ (by simp), List.length_replicate, show 24 + i - 24 = i by omega, List.set_append_right _ _ (by simp [e8_len]; omega)]
  congr 1
  rw [show i - ((e8 k 8).take i).length = 0 by simp [e8_len]; omega, show 8 - i = (8 - (i + 1)) + 1 by omega, List.replicate_succ, List.set_cons_zero, ← take_snoc _ _ (by rw [e8_len]; exact h), List.append_assoc]
  rfl
attribute [irreducible] ge
end Nm
/-- The row is where it was, or it is new. -/
def Moved (w : World) (v u : Value) : Prop := u.ownBlock = v.ownBlock ∨ ∀ g, u.ownBlock = some g → w.heap.size ≤ g
/-- What the reference's Sum says. -/
def RSumSay (B gr : Nat) (v1 v2 : Value) (S : Nm.St) (x : List Int) (w : World) (e : Ending) (w' : World) : Prop :=
  ∃ u2, e = .returned (A32 (Nm.sm S x)) ∧ Hid (RefAt w' B gr v1 u2 (Nm.smd S x)) ∧ Hid (Eff gr v2.ownBlock w w') ∧ Hid (Moved w v2 u2) ∧ Hid (∀ E : List Nat, (∀ q ∈ E, q < w.heap.size) → RefE E w B gr v1 v2 S → RefE E w' B gr v1 u2 (Nm.smd S x))

set_option maxHeartbeats 4000000 in
set_option maxRecDepth 100000 in
theorem refsum_any (S : Nm.St) (x : List Int) (B gr : Nat) (v1 v2 : Value) (p : Option Addr) (n cap : Nat) (hn : x.length = n) (hsz : n ≤ 100000 ∧ S.ts.length ≤ 1000) (w : World) (hr : RefAt w B gr v1 v2 S) (hp : Bs w p cap x) :
    Calls Try.prog 23 #[.pointer (some ⟨gr, 0, none⟩), .slice p n cap] w (RSumSay B gr v1 v2 S x w) := by
  obtain ⟨N, HN⟩ : ∃ N, Hid (S.ts.length = N) := ⟨_, rfl⟩
  obtain ⟨P, HPL⟩ : ∃ P, Hid (Nm.place x S.ts = P) := ⟨_, rfl⟩
  obtain ⟨x0, HX⟩ : ∃ x0 : World, Hid (x0 = w.alloc (.cells (List.replicate 32 (Value.int .u8 0)).toArray 42)) := ⟨_, rfl⟩
  have B0 : Hid (Below w.heap.size w x0) := by show Below _ _ _; rw [HX.out]; exact (Below.refl _ w).alloc (Nat.le_refl _) _
  have Z0 : Hid (x0.heap[w.heap.size]? = some (.cells (List.replicate 32 (Value.int .u8 0)).toArray 42 (0, 0))) := by show _ = _; rw [HX.out]; exact heap_alloc_new w _
  have R0 := Lib.hid (hr.old B0.out)
  have P0 := Lib.hid (hp.old B0.out)
  have HSZ := Lib.hid hsz
  have HLN := Lib.hid hn
  have HR0 := Lib.hid hr
  have HBX : Hid (Sha.Byt x) := hp.bat.1
  have HGW : Hid (gr < w.heap.size ∧ (∀ g, v2.ownBlock = some g → g < w.heap.size) ∧ B ≤ w.heap.size) := ⟨lt_of_block hr.row, fun g hg => by obtain ⟨_, cur, h2⟩ := hr.ts.type g hg; exact lt_of_block h2, Nat.le_trans hr.base (Nat.le_of_lt (lt_of_block hr.row))⟩
  have hN : N ≤ 1000 := by rw [← HN.out]; exact hsz.2
  have hPN : P ≤ N := by rw [← HPL.out, ← HN.out]; exact Nm.place_le
  obtain ⟨a2, cap2, hv2⟩ := got_len hr.ts
  rw [HN.out] at hv2
  have HVS : Hid (0 < N → ∃ gs, a2 = some ⟨gs, 0, none⟩) := fun h0 => by
    obtain ⟨gs, cap, h⟩ := got_some hr.ts (by rw [HN.out]; exact h0)
    rw [hv2] at h
    cases h
    exact ⟨gs, rfl⟩
  subst hv2
  have HEY : Hid (∀ E y, Below x0.heap.size x0 y → RefE E w B gr v1 (.slice a2 N cap2) S → RefE E y B gr v1 (.slice a2 N cap2) S) := fun E y hy h => h.old HR0.out (B0.out.trans (hy.mono B0.out.size))
  have HRY : Hid (∀ y, Below x0.heap.size x0 y → RefAt y B gr v1 (.slice a2 N cap2) S) := fun y hy => R0.out.old hy
  have HPY : Hid (∀ y, Below x0.heap.size x0 y → Bs y p cap x) := fun y hy => P0.out.old hy
  have DX : Hid (Below x0.heap.size x0 x0) := Below.refl _ _
  clear hr hp hsz hn R0 P0
  go_enter Try.func23, Try.ntmps23
  go_upto_region 1 with (fail)
  change Code.wp _ _ _ _ (w.alloc (.cells (List.replicate 32 (Value.int .u8 0)).toArray 42))
  rw [← HX.out]
  go_wp2
  go_loopw [5, 6] (fun v5 v6 wr => ∃ i : Nat, i ≤ N ∧ v6 = .int .i64 i ∧ v5 = .int .i64 ((if P ≤ i then P else 0 : Nat) : Int) ∧ Hid (Below x0.heap.size x0 wr)) (fun _ v6 _ => N - (intOf v6).toNat)
  case atStart => exact ⟨0, Nat.zero_le _, rfl, by rw [show (if P ≤ 0 then P else 0) = 0 by split <;> omega]; rfl, DX.out⟩
  case round =>
    clear DX
    obtain ⟨i, hi, rfl, hv5, HB⟩ := hrel
    obtain ⟨k5, HK5⟩ : ∃ k5 : Nat, Hid ((if P ≤ i then P else 0) = k5) := ⟨_, rfl⟩
    rw [HK5.out] at hv5
    subst hv5
    have c0 : wr.cell? ⟨gr, 1, none⟩ = some (.slice a2 N cap2) := by rw [cell_of_row _ gr 1 _ _ _ (HRY.out _ HB.out).row]; rfl
    by_cases hlt : i < N
    · obtain ⟨gs, rfl⟩ := HVS.out (by omega)
      obtain ⟨z, hz⟩ : ∃ z, S.ts[i]? = some z := ⟨S.ts[i]'(by rw [HN.out]; exact hlt), List.getElem?_eq_getElem _⟩
      have hgd : S.ts.getD i [] = z := by simp [List.getD_eq_getElem?_getD, hz]
      have hgt := (HRY.out _ HB.out).ts
      rw [HN.out] at hgt
      obtain ⟨pz, mz, cz, c1, hmz, hoz⟩ := hgt.at hlt
      rw [hgd] at hmz hoz
      have HBZ : Hid (Bs wr pz cz z) := bs_own hoz ((HRY.out _ HB.out).byt.2 z (List.mem_of_getElem? hz))
      have HMZ := Lib.hid hmz
      have HZ := Lib.hid hz
      clear hgd hgt hmz hoz hz
      have HSH : Hid (Calls Try.prog 18 #[.slice pz mz cz, .slice p n cap] wr (EqSay (decide (z = x)) wr)) := by
        show Calls _ _ _ _ _
        by_cases hl : mz ≤ 10000000
        · exact same_all z x _ _ _ _ cz cap HMZ.out HLN.out wr HBZ.out.bat (HPY.out _ HB.out).bat hl
        · have hne : decide (z = x) = false := decide_eq_false (fun e => by rw [← HMZ.out, e, HLN.out] at hl; have := HSZ.out; omega)
          rw [hne]
          exact same_ne _ _ _ _ _ _ (by have := HSZ.out; omega) wr
      have HNX : Hid ((if P ≤ i + 1 then P else 0) = if z = x then i + 1 else k5) := by
        show _ = _
        by_cases hzx : z = x
        · have hpl : Nm.place x S.ts = i + 1 := Nm.place_of (HRY.out _ HB.out).one.2 (by rw [← hzx]; exact HZ.out)
          rw [HPL.out] at hpl
          rw [if_pos hzx, if_pos (by omega), hpl]
        · have hpn : P ≠ i + 1 := fun e => by
            have h := Nm.place_get (HPL.out.trans e)
            rw [HZ.out] at h
            exact hzx (Option.some.inj h)
          rw [if_neg hzx, ← HK5.out]
          by_cases h1 : P ≤ i
          · rw [if_pos h1, if_pos (by omega)]
          · rw [if_neg h1, if_neg (by omega)]
      have hi0 : 0 ≤ (i : Int) := by omega
      have hi1 : (i : Int) < (N : Int) := by omega
      cases hzx : decide (z = x) with
      | true =>
        rw [hzx] at HSH
        go_wp2_with (go_at_call 18; refine HSH.out.mono ?_; rintro e7 w7 ⟨rfl, hb7⟩)
        exact ⟨⟨i + 1, by omega, by go_num, by rw [HNX.out, if_pos (by simpa using hzx)]; go_num, HB.out.trans (hb7.mono HB.out.size)⟩, by simp [intOf]; omega⟩
      | false =>
        rw [hzx] at HSH
        go_wp2_with (go_at_call 18; refine HSH.out.mono ?_; rintro e7 w7 ⟨rfl, hb7⟩)
        exact ⟨⟨i + 1, by omega, by go_num, by rw [HNX.out, if_neg (by simpa using hzx)], HB.out.trans (hb7.mono HB.out.size)⟩, by simp [intOf]; omega⟩
    · obtain rfl : i = N := by omega
      clear hlt
      obtain rfl : P = k5 := by have := HK5.out; rw [if_pos hPN] at this; exact this
      have HLE : Hid (Below w.heap.size w wr) := B0.out.trans (HB.out.mono B0.out.size)
      generalize hwL : wr = wL at *
      clear hwL
      by_cases hP : P = 0
      · subst hP
        have HNO : Hid (x ∉ S.ts) := Nm.place_zero.1 HPL.out
        have d1' : wL.drew.cell? ⟨gr, 1, none⟩ = some (.slice a2 i cap2) := c0
        have HDD : Hid (Below wL.heap.size wL wL.drew) := (Below.refl _ wL).drew
        have HDX : Hid (∀ y, Below wL.heap.size wL y → Below x0.heap.size x0 y) := fun y hy => HB.out.trans (hy.mono HB.out.size)
        obtain ⟨Q, HQ⟩ : ∃ Q : Nat → List Int, Hid (Q = fun j => (S.ts ++ [x]).getD j []) := ⟨_, rfl⟩
        have HQ0 : Hid (∀ y, Below wL.heap.size wL y → Got B y (.slice a2 i cap2) i Q) := fun y hy => by
          have h := (HRY.out _ (HDX.out _ hy)).ts
          rw [HN.out] at h
          rw [HQ.out]
          exact h.congr (fun j hj => by simp [List.getD_eq_getElem?_getD, List.getElem?_append_left (show j < S.ts.length by rw [HN.out]; exact hj)])
        have HQI : Hid (Q i = x) := by
          show _ = _
          rw [HQ.out, ← HN.out]
          simp [List.getD_eq_getElem?_getD]
        have HQL : Hid ((Q i).length = n) := by show _ = _; rw [HQI.out]; exact HLN.out
        have HBW : Hid (B ≤ wL.heap.size) := Nat.le_trans HGW.out.2.2 (Nat.le_trans B0.out.size HB.out.size)
        have HTY : Hid (some gr ≠ (Value.slice a2 i cap2).ownBlock) := fun e => by
          obtain ⟨_, cur, h2⟩ := (HRY.out _ HB.out).ts.type gr e.symm
          rw [(HRY.out _ HB.out).row] at h2
          cases h2
        have HRG : Hid (∀ y, Below wL.heap.size wL y → y.heap[gr]? = some (.cells #[v1, .slice a2 i cap2] 65 (0, 0))) := fun y hy => (HRY.out _ (HDX.out _ hy)).row
        have HPW : Hid (∀ y, Below wL.heap.size wL y → Bs y p cap x) := fun y hy => HPY.out _ (HDX.out _ hy)
        go_upto_region 8 with (fail)
        go_cut [33] from 33 to 43 (fun _ y => ∃ u2, Hid (RefAt y B gr v1 u2 (Nm.smd S x)) ∧ Hid (Eff gr (Value.slice a2 i cap2).ownBlock x0 y) ∧ Hid (Moved w (Value.slice a2 i cap2) u2) ∧ Hid (∀ E : List Nat, (∀ q ∈ E, q < w.heap.size) → RefE E w B gr v1 (.slice a2 i cap2) S → RefE E y B gr v1 u2 (Nm.smd S x)))
        case first =>
          go_region_law (first
            | (refine step_append_text rfl (.tmp 37) (.tmp 40) rfl B (.slice a2 i cap2) i Q _ _ n _ (by simp [Act.eval]) (by simp [Act.eval]) (HQ0.out _ (DA9.out _)) (heap_alloc_new _ _) HQL.out (HOA.out _) (by omega) (HBA.out _) ?_; intro v' w' hs' hg' hpl' hav'; have HAV := Lib.hid hav'; clear hav'; have hgw := hg'.block gr (lt_of_block (HRG.out _ (DA9.out _))) HTY.out; have hgr := hgw.trans (HRG.out _ (DA9.out _)); obtain ⟨a', cap', hv'⟩ := got_len hs'; subst hv'; have HGR := Lib.hid hgr; have HS' := Lib.hid hs'; have HG' := Lib.hid hg'; have HPL' := Lib.hid hpl'; have f1' := frozen_of_row _ gr 1 _ _ hgr; have f2' : w'.cell? ⟨gr, 1, none⟩ = some (.slice a2 i cap2) := (by rw [cell_of_row _ gr 1 _ _ _ hgr]; rfl); clear hs' hg' hgw hgr hpl')
            | (go_simp; go_at_call 30; refine (copybytes_any x p n cap HLN.out (by have := HSZ.out; have := HLN.out; omega) _ (HPW.out _ HDD.out).bat).mono ?_; rintro e9 w9 ⟨a9, rfl, ho9, hb9⟩; obtain ⟨p9, c9, rfl, _, _⟩ := own_bs ho9 HBX.out; rw [HLN.out] at ho9 ⊢; have HO9 := Lib.hid ho9; have D9 : Hid (Below wL.heap.size wL w9) := HDD.out.trans hb9; have DA9 : Hid (∀ O, Below wL.heap.size wL (w9.alloc O)) := fun O => D9.out.alloc D9.out.size O; have HOA : Hid (∀ O, (w9.alloc O).ownsRow B 5 1 (.slice p9 n c9) n (U8s (Q i))) := fun O => (by rw [HQI.out]; exact own_keepX (own_base HO9.out HBW.out) ((Below.refl _ w9).alloc (Nat.le_refl _) O)); have HBA : Hid (∀ O, B ≤ (w9.alloc O).heap.size) := fun O => Nat.le_trans HBW.out (DA9.out O).size; have t9' : w9.cell? ⟨gr, 1, none⟩ = some (.slice a2 i cap2) := (by rw [cell_of_row _ gr 1 _ _ _ (HRG.out _ D9.out)]; rfl); have hgl' : gr < w9.heap.size := lt_of_block (HRG.out _ D9.out); clear ho9 hb9))
          all_goals (go_wp2; go_meet)
          all_goals
            refine ⟨.slice a' (i + 1) cap', Lib.hid ?_, Lib.hid ?_, Lib.hid ?_, Lib.hid (fun E hE h => ?_)⟩
            · unfold Nm.smd
              rw [Nm.put_new HPL.out]
              refine RefAt.summed (S := S) (HRY.out _ (HDX.out _ (DA9.out _))) ?_ HG'.out (Chg.setCell _ ⟨gr, 1, none⟩ _) (by rw [heap_setCell_same _ gr 1 _ _ _ HGR.out]; rfl) HBX.out HNO.out
              have h := HS'.out
              rw [HQ.out] at h
              rw [HN.out]
              exact h
            · exact ((Eff.of_below (HDX.out _ (DA9.out _))).trans (.of_grown HG'.out)).trans (.of_chg (Chg.setCell _ ⟨gr, 1, none⟩ _))
            · rcases HPL'.out with h | h
              · exact Or.inl h
              · refine Or.inr (fun g hg => ?_)
                rw [h] at hg
                cases hg
                exact Nat.le_trans HLE.out.size (DA9.out _).size
            · have h5 := HEY.out E _ (HDX.out _ (DA9.out (.cells #[.slice p9 n c9] 30))) h
              have hs5 := HS'.out
              have ha5 := HAV.out E (fun q hq => Nat.lt_of_lt_of_le (hE q hq) (Nat.le_trans HLE.out.size (DA9.out _).size)) (by have h6 := h5.2.2; rw [HN.out] at h6; exact h6) (fun g hg he => by
                have h6 := (HO9.out.lt g hg).1
                have h7 := hE g he
                have h8 := HLE.out.size
                have h9 : wL.drew.heap.size = wL.heap.size := rfl
                omega)
              unfold Nm.smd
              rw [Nm.put_new HPL.out]
              exact h5.summed (HRY.out _ (HDX.out _ (DA9.out _))) (Q := Q) (by rw [HN.out]; exact hs5) (by rw [HN.out]; exact ha5) HG'.out (Chg.setCell _ ⟨gr, 1, none⟩ _)
        case rest =>
          obtain ⟨u1, RT, ET, UC, EE⟩ := hcut
          obtain ⟨M, HM⟩ : ∃ M : Nat, Hid (i + 1 = M) := ⟨_, rfl⟩
          have r1' : wc.cell? ⟨gr, 1, none⟩ = some u1 := by rw [cell_of_row _ gr 1 _ _ _ RT.out.row]; rfl
          have HK : Hid (Nm.num x S.ts = M) := by show _ = _; rw [← HM.out, Nm.num_new HPL.out, HN.out]
          have HLL : Hid ((Nm.smd S x).ts.length = M) := by show (Nm.put x S.ts).length = _; rw [← HM.out, Nm.put_new HPL.out]; simp [HN.out]
          obtain ⟨au, capu, hu1⟩ := got_len RT.out.ts
          rw [HLL.out] at hu1
          subst hu1
          clear d1' c0
          go_upto_region 10 with (fail)
          clear r1'
          have ZT : Hid (wc.heap[w.heap.size]? = some (.cells (List.replicate 32 (Value.int .u8 0)).toArray 42 (0, 0))) :=
            (ET.out.block _ (lt_of_block Z0.out) (by have := HGW.out.1; omega) (fun e => by have := HGW.out.2.1 _ e.symm; omega)).trans Z0.out
          have LWT : Hid (w.heap.size < wc.heap.size) := lt_of_block ZT.out
          obtain ⟨x1, HX1⟩ : ∃ x1 : World, Hid (x1 = wc.alloc (.cells (List.replicate 32 (Value.int .u8 0)).toArray 42)) := ⟨_, rfl⟩
          have S1 : Hid (wc.heap.size < x1.heap.size) := by show _ < _; rw [HX1.out]; simp
          have D1 : Hid (Below wc.heap.size wc x1) := by show Below _ _ _; rw [HX1.out]; exact (Below.refl _ wc).alloc (Nat.le_refl _) _
          have G1 : Hid (x1.heap[wc.heap.size]? = some (.cells ((Nm.fl 1 0).map (Value.int .u8)).toArray 42 (0, 0))) := by
            show _ = _
            rw [HX1.out, heap_alloc_new wc _]
            unfold Nm.fl
            simp
          go_upto_region 11 with (fail)
          change Code.wp _ _ _ _ (wc.alloc (.cells (List.replicate 32 (Value.int .u8 0)).toArray 42))
          rw [← HX1.out]
          go_wp2_with (go_at_call 39; refine (eight_any (M : Int) _).mono ?_; rintro e8 w8 ⟨a8, rfl, ho8, hb8⟩; have HO8 := Lib.hid ho8; have D8 : Hid (Below wc.heap.size wc w8) := D1.out.trans (hb8.mono (Nat.le_of_lt S1.out)); have G8 : Hid (w8.heap[wc.heap.size]? = some (.cells ((Nm.fl 1 0).map (Value.int .u8)).toArray 42 (0, 0))) := (hb8.block _ S1.out).trans G1.out; clear hb8 ho8)
          obtain ⟨p8, c8, rfl, _, _⟩ := own_bs HO8.out (Nm.e8_byt (M : Int) 8)
          have E8 : Hid (w8.ownsRow x1.heap.size 5 1 (.slice p8 8 c8) 8 (U8s (Nm.e8 (M : Int) 8))) := by
            have h := HO8.out
            rw [Nm.e8_len] at h
            exact h
          rw [Nm.e8_len]
          clear HO8 G1 D1
          go_loopw [9] (fun v9 wr => ∃ j : Nat, j ≤ 24 ∧ v9 = .int .i64 j ∧ Hid (wr.heap[wc.heap.size]? = some (.cells ((Nm.fl 1 j).map (Value.int .u8)).toArray 42 (0, 0))) ∧ Hid (wr.ownsRow x1.heap.size 5 1 (.slice p8 8 c8) 8 (U8s (Nm.e8 (M : Int) 8))) ∧ Hid (Below wc.heap.size wc wr)) (fun v9 _ => 24 - (intOf v9).toNat)
          case atStart => exact ⟨0, by omega, rfl, G8.out, E8.out, D8.out⟩
          case round =>
            clear G8 E8 D8
            obtain ⟨j, hj, rfl, HG, HE, HD⟩ := hrel
            by_cases hlt : j < 24
            · have c0 := row_cell HG.out j (by rw [Nm.fl_len 1 j (by omega)]; omega)
              have f0 := frozen_of_row wr wc.heap.size j _ _ HG.out
              have hj0 : 0 ≤ (j : Int) := by omega
              have hj1 : (j : Int) < 32 := by omega
              generalize (Nm.fl 1 j).getD j 0 = y0 at c0
              go_wp2
              refine ⟨⟨j + 1, by omega, by go_num, ?_, ?_, HD.out.setCell (Nat.le_refl _) _⟩, by simp [intOf]; omega⟩
              · have h2 := set_u8' (i := j) (x := 1) HG.out
                rw [Nm.fl_step 1 j (by omega)] at h2
                exact h2
              · exact Lib.hid (own_onlyX HE.out (Chg.setCell _ ⟨wc.heap.size, j, none⟩ _).only S1.out)
            · obtain rfl : j = 24 := by omega
              clear hlt
              have HG0 : Hid (wr.heap[wc.heap.size]? = some (.cells ((Nm.ge (M : Int) 0).map (Value.int .u8)).toArray 42 (0, 0))) := by
                have h := HG.out
                rw [Nm.ge_zero (M : Int)] at h
                exact h
              clear HG
              generalize hwM : wr = wM at *
              clear hwM
              go_wp2
              go_loopw [10] (fun v10 wr => ∃ j : Nat, j ≤ 8 ∧ v10 = .int .i64 j ∧ Hid (wr.heap[wc.heap.size]? = some (.cells ((Nm.ge (M : Int) j).map (Value.int .u8)).toArray 42 (0, 0))) ∧ Hid (wr.ownsRow x1.heap.size 5 1 (.slice p8 8 c8) 8 (U8s (Nm.e8 (M : Int) 8))) ∧ Hid (Below wc.heap.size wc wr)) (fun v10 _ => 8 - (intOf v10).toNat)
              case atStart => exact ⟨0, by omega, rfl, HG0.out, HE.out, HD.out⟩
              case round =>
                clear HG0 HE HD
                obtain ⟨j, hj, rfl, HG, HE, HD⟩ := hrel
                by_cases hlt : j < 8
                · have c0 := row_cell HG.out (24 + j) (by rw [Nm.ge_len (M : Int) j (by omega)]; omega)
                  have f0 := frozen_of_row wr wc.heap.size (24 + j) _ _ HG.out
                  obtain ⟨p', c', h1, h2, _⟩ := own_bs HE.out (Nm.e8_byt (M : Int) 8)
                  rw [Nm.e8_len] at h1
                  cases h1
                  obtain ⟨bb, bo, rfl, hcs⟩ := h2.bat.2 (by rw [Nm.e8_len]; omega)
                  have c1 := hcs j (by rw [Nm.e8_len]; exact hlt)
                  clear hcs h2
                  have hj0 : 0 ≤ (j : Int) := by omega
                  have hj1 : (j : Int) < 8 := by omega
                  have hw1 : IntKind.i64.wrap (24 + (j : Int)) = 24 + (j : Int) := IntWalk.i64_in _ ⟨by omega, by omega⟩
                  have hx1 : 0 ≤ 24 + (j : Int) := by omega
                  have hx2 : 24 + (j : Int) < 32 := by omega
                  have hx3 : (24 + (j : Int)).toNat = 24 + j := by omega
                  generalize (Nm.ge (M : Int) j).getD (24 + j) 0 = y0 at c0
                  generalize hy : (Nm.e8 (M : Int) 8).getD j 0 = y1 at *
                  have HY := Lib.hid hy; clear hy
                  go_wp2
                  refine ⟨⟨j + 1, by omega, by go_num, ?_, ?_, HD.out.setCell (Nat.le_refl _) _⟩, by simp [intOf]; omega⟩
                  · have h2 := set_u8' (i := 24 + j) (x := y1) HG.out
                    rw [← HY.out, Nm.ge_step (M : Int) j (by omega), HY.out] at h2
                    exact h2
                  · exact Lib.hid (own_onlyX HE.out (Chg.setCell _ ⟨wc.heap.size, 24 + j, none⟩ _).only S1.out)
                · obtain rfl : j = 8 := by omega
                  clear hlt
                  obtain ⟨A, HA1, HA2, HA3⟩ : ∃ A : Array Value, Hid (A = ((Nm.tg 1 (M : Int)).map (Value.int .u8)).toArray) ∧ Hid (A.size = 32) ∧ Hid (A.all (·.oneCell') = true) :=
                    ⟨_, rfl, by show _ = _; simp [Nm.tg_len], all_oneCell_toArray (bytes_one _)⟩
                  have HG8 : Hid (wr.heap[wc.heap.size]? = some (.cells A 42 (0, 0))) := by
                    show _ = _
                    rw [HA1.out, ← Nm.ge_all]
                    exact HG.out
                  have HZ8 : Hid (wr.heap[w.heap.size]? = some (.cells (List.replicate 32 (Value.int .u8 0)).toArray 42 (0, 0))) := (HD.out.block _ LWT.out).trans ZT.out
                  clear HG
                  go_wp2_with (first
                    | ((with_reducible refine row_load _ _ _ _ _ _ _ ?_ HG8.out Try.underlying42 ?_ (row_size Try.sizeSum HA2) ?_); (exact rfl); (exact rfl))
                    | ((with_reducible refine row_store _ _ _ _ _ _ _ ?_ ?_ HZ8.out (row_size Try.sizeSum HA2) ?_ HA3.out ?_); (exact rfl); (exact rfl); (rw [HA2.out]; rfl); intro w6 G6 ch6))
                  refine bodyPost_ret (results_cell_row rfl _ _ w.heap.size 42 A (0, 0) _ rfl G6.out Try.underlying42 rfl (row_size Try.sizeSum HA2)) rfl ⟨_, ?_, Lib.hid ((RT.out.old HD.out).chg HZ8.out ch6), Lib.hid ((((Eff.of_below B0.out).trans ET.out).trans (.of_below HD.out)).then_chg ch6 (Nat.le_refl _)), UC, Lib.hid (fun E hE h => ((EE.out E hE h).old RT.out HD.out).chg (RT.out.old HD.out) HZ8.out ch6)⟩
                  unfold Nm.sm
                  rw [HK.out, HA1.out]
                  rfl
      · have hb : ((P : Int) == 0) = false := by rw [beq_eq_false_iff_ne]; omega
        have HK : Hid (Nm.num x S.ts = P) := by show _ = _; rw [← HPL.out]; exact Nm.num_same (by rw [HPL.out]; exact hP)
        have RT : Hid (RefAt wL B gr v1 (.slice a2 i cap2) (Nm.smd S x)) := by
          have h := HRY.out _ HB.out
          show RefAt _ _ _ _ _ _
          unfold Nm.smd
          rw [Nm.put_same (by rw [HPL.out]; exact hP)]
          exact h
        have ET : Hid (Eff gr (Value.slice a2 i cap2).ownBlock x0 wL) := .of_below HB.out
        have UC : Hid (Moved w (Value.slice a2 i cap2) (Value.slice a2 i cap2)) := Lib.hid (Or.inl rfl)
        have EE : Hid (∀ E : List Nat, (∀ q ∈ E, q < w.heap.size) → RefE E w B gr v1 (.slice a2 i cap2) S → RefE E wL B gr v1 (.slice a2 i cap2) (Nm.smd S x)) := fun E _ h => by
          unfold Nm.smd
          rw [Nm.put_same (by rw [HPL.out]; exact hP)]
          exact HEY.out E _ HB.out h
        have ZT : Hid (wL.heap[w.heap.size]? = some (.cells (List.replicate 32 (Value.int .u8 0)).toArray 42 (0, 0))) :=
          (ET.out.block _ (lt_of_block Z0.out) (by have := HGW.out.1; omega) (fun e => by have := HGW.out.2.1 _ e.symm; omega)).trans Z0.out
        have LWT : Hid (w.heap.size < wL.heap.size) := lt_of_block ZT.out
        obtain ⟨x1, HX1⟩ : ∃ x1 : World, Hid (x1 = wL.alloc (.cells (List.replicate 32 (Value.int .u8 0)).toArray 42)) := ⟨_, rfl⟩
        have S1 : Hid (wL.heap.size < x1.heap.size) := by show _ < _; rw [HX1.out]; simp
        have D1 : Hid (Below wL.heap.size wL x1) := by show Below _ _ _; rw [HX1.out]; exact (Below.refl _ wL).alloc (Nat.le_refl _) _
        have G1 : Hid (x1.heap[wL.heap.size]? = some (.cells ((Nm.fl 1 0).map (Value.int .u8)).toArray 42 (0, 0))) := by
          show _ = _
          rw [HX1.out, heap_alloc_new wL _]
          unfold Nm.fl
          simp
        go_upto_region 11 with (fail)
        change Code.wp _ _ _ _ (wL.alloc (.cells (List.replicate 32 (Value.int .u8 0)).toArray 42))
        rw [← HX1.out]
        go_wp2_with (go_at_call 39; refine (eight_any (P : Int) _).mono ?_; rintro e8 w8 ⟨a8, rfl, ho8, hb8⟩; have HO8 := Lib.hid ho8; have D8 : Hid (Below wL.heap.size wL w8) := D1.out.trans (hb8.mono (Nat.le_of_lt S1.out)); have G8 : Hid (w8.heap[wL.heap.size]? = some (.cells ((Nm.fl 1 0).map (Value.int .u8)).toArray 42 (0, 0))) := (hb8.block _ S1.out).trans G1.out; clear hb8 ho8)
        obtain ⟨p8, c8, rfl, _, _⟩ := own_bs HO8.out (Nm.e8_byt (P : Int) 8)
        have E8 : Hid (w8.ownsRow x1.heap.size 5 1 (.slice p8 8 c8) 8 (U8s (Nm.e8 (P : Int) 8))) := by
          have h := HO8.out
          rw [Nm.e8_len] at h
          exact h
        rw [Nm.e8_len]
        clear HO8 G1 D1
        go_loopw [9] (fun v9 wr => ∃ j : Nat, j ≤ 24 ∧ v9 = .int .i64 j ∧ Hid (wr.heap[wL.heap.size]? = some (.cells ((Nm.fl 1 j).map (Value.int .u8)).toArray 42 (0, 0))) ∧ Hid (wr.ownsRow x1.heap.size 5 1 (.slice p8 8 c8) 8 (U8s (Nm.e8 (P : Int) 8))) ∧ Hid (Below wL.heap.size wL wr)) (fun v9 _ => 24 - (intOf v9).toNat)
        case atStart => exact ⟨0, by omega, rfl, G8.out, E8.out, D8.out⟩
        case round =>
          clear G8 E8 D8
          obtain ⟨j, hj, rfl, HG, HE, HD⟩ := hrel
          by_cases hlt : j < 24
          · have c0 := row_cell HG.out j (by rw [Nm.fl_len 1 j (by omega)]; omega)
            have f0 := frozen_of_row wr wL.heap.size j _ _ HG.out
            have hj0 : 0 ≤ (j : Int) := by omega
            have hj1 : (j : Int) < 32 := by omega
            generalize (Nm.fl 1 j).getD j 0 = y0 at c0
            go_wp2
            refine ⟨⟨j + 1, by omega, by go_num, ?_, ?_, HD.out.setCell (Nat.le_refl _) _⟩, by simp [intOf]; omega⟩
            · have h2 := set_u8' (i := j) (x := 1) HG.out
              rw [Nm.fl_step 1 j (by omega)] at h2
              exact h2
            · exact Lib.hid (own_onlyX HE.out (Chg.setCell _ ⟨wL.heap.size, j, none⟩ _).only S1.out)
          · obtain rfl : j = 24 := by omega
            clear hlt
            have HG0 : Hid (wr.heap[wL.heap.size]? = some (.cells ((Nm.ge (P : Int) 0).map (Value.int .u8)).toArray 42 (0, 0))) := by
              have h := HG.out
              rw [Nm.ge_zero (P : Int)] at h
              exact h
            clear HG
            generalize hwM : wr = wM at *
            clear hwM
            go_wp2
            go_loopw [10] (fun v10 wr => ∃ j : Nat, j ≤ 8 ∧ v10 = .int .i64 j ∧ Hid (wr.heap[wL.heap.size]? = some (.cells ((Nm.ge (P : Int) j).map (Value.int .u8)).toArray 42 (0, 0))) ∧ Hid (wr.ownsRow x1.heap.size 5 1 (.slice p8 8 c8) 8 (U8s (Nm.e8 (P : Int) 8))) ∧ Hid (Below wL.heap.size wL wr)) (fun v10 _ => 8 - (intOf v10).toNat)
            case atStart => exact ⟨0, by omega, rfl, HG0.out, HE.out, HD.out⟩
            case round =>
              clear HG0 HE HD
              obtain ⟨j, hj, rfl, HG, HE, HD⟩ := hrel
              by_cases hlt : j < 8
              · have c0 := row_cell HG.out (24 + j) (by rw [Nm.ge_len (P : Int) j (by omega)]; omega)
                have f0 := frozen_of_row wr wL.heap.size (24 + j) _ _ HG.out
                obtain ⟨p', c', h1, h2, _⟩ := own_bs HE.out (Nm.e8_byt (P : Int) 8)
                rw [Nm.e8_len] at h1
                cases h1
                obtain ⟨bb, bo, rfl, hcs⟩ := h2.bat.2 (by rw [Nm.e8_len]; omega)
                have c1 := hcs j (by rw [Nm.e8_len]; exact hlt)
                clear hcs h2
                have hj0 : 0 ≤ (j : Int) := by omega
                have hj1 : (j : Int) < 8 := by omega
                have hw1 : IntKind.i64.wrap (24 + (j : Int)) = 24 + (j : Int) := IntWalk.i64_in _ ⟨by omega, by omega⟩
                have hx1 : 0 ≤ 24 + (j : Int) := by omega
                have hx2 : 24 + (j : Int) < 32 := by omega
                have hx3 : (24 + (j : Int)).toNat = 24 + j := by omega
                generalize (Nm.ge (P : Int) j).getD (24 + j) 0 = y0 at c0
                generalize hy : (Nm.e8 (P : Int) 8).getD j 0 = y1 at *
                have HY := Lib.hid hy; clear hy
                go_wp2
                refine ⟨⟨j + 1, by omega, by go_num, ?_, ?_, HD.out.setCell (Nat.le_refl _) _⟩, by simp [intOf]; omega⟩
                · have h2 := set_u8' (i := 24 + j) (x := y1) HG.out
                  rw [← HY.out, Nm.ge_step (P : Int) j (by omega), HY.out] at h2
                  exact h2
                · exact Lib.hid (own_onlyX HE.out (Chg.setCell _ ⟨wL.heap.size, 24 + j, none⟩ _).only S1.out)
              · obtain rfl : j = 8 := by omega
                clear hlt
                obtain ⟨A, HA1, HA2, HA3⟩ : ∃ A : Array Value, Hid (A = ((Nm.tg 1 (P : Int)).map (Value.int .u8)).toArray) ∧ Hid (A.size = 32) ∧ Hid (A.all (·.oneCell') = true) :=
                  ⟨_, rfl, by show _ = _; simp [Nm.tg_len], all_oneCell_toArray (bytes_one _)⟩
                have HG8 : Hid (wr.heap[wL.heap.size]? = some (.cells A 42 (0, 0))) := by
                  show _ = _
                  rw [HA1.out, ← Nm.ge_all]
                  exact HG.out
                have HZ8 : Hid (wr.heap[w.heap.size]? = some (.cells (List.replicate 32 (Value.int .u8 0)).toArray 42 (0, 0))) := (HD.out.block _ LWT.out).trans ZT.out
                clear HG
                go_wp2_with (first
                  | ((with_reducible refine row_load _ _ _ _ _ _ _ ?_ HG8.out Try.underlying42 ?_ (row_size Try.sizeSum HA2) ?_); (exact rfl); (exact rfl))
                  | ((with_reducible refine row_store _ _ _ _ _ _ _ ?_ ?_ HZ8.out (row_size Try.sizeSum HA2) ?_ HA3.out ?_); (exact rfl); (exact rfl); (rw [HA2.out]; rfl); intro w6 G6 ch6))
                refine bodyPost_ret (results_cell_row rfl _ _ w.heap.size 42 A (0, 0) _ rfl G6.out Try.underlying42 rfl (row_size Try.sizeSum HA2)) rfl ⟨_, ?_, Lib.hid ((RT.out.old HD.out).chg HZ8.out ch6), Lib.hid ((((Eff.of_below B0.out).trans ET.out).trans (.of_below HD.out)).then_chg ch6 (Nat.le_refl _)), UC, Lib.hid (fun E hE h => ((EE.out E hE h).old RT.out HD.out).chg (RT.out.old HD.out) HZ8.out ch6)⟩
                unfold Nm.sm
                rw [HK.out, HA1.out]
                rfl
end Go.Proofs.Ytdmnlooghamngaa
