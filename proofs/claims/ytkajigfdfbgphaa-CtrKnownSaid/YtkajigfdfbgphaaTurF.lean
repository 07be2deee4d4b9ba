/-
  Contract: the reference's Block.
-/
import Derived.Test.YtkajigfdfbgphaaTurD
import Derived.Test.YtkajigfdfbgphaaTurE
namespace Go.Proofs.Ytkajigfdfbgphaa
open Go.RowKit

namespace Aes
/-- The first k numbers of a row. -/
def up (r : Nat → Nat) (k : Nat) : List Int := (List.range k).map fun j => ((r j : Nat) : Int)
theorem up_len (r : Nat → Nat) (k : Nat) : (up r k).length = k := by simp [up]
theorem up_succ (r : Nat → Nat) (k : Nat) : up r (k + 1) = up r k ++ [((r k : Nat) : Int)] := by simp [up, List.range_succ]
theorem up_get (r : Nat → Nat) (k j : Nat) (h : j < k) : (up r k).getD j 0 = ((r j : Nat) : Int) := by
  rw [List.getD_eq_getElem?_getD, List.getElem?_eq_getElem (by rw [up_len]; exact h)]
  simp [up]
theorem up_byt (r : Nat → Nat) (k : Nat) (h : ∀ j, j < k → r j < 256) : Sha.Byt (up r k) := fun x hx => by
  unfold up at hx
  rw [List.mem_map] at hx
  obtain ⟨j, hj, rfl⟩ := hx
  rw [List.mem_range] at hj
  have := h j hj
  omega
theorem up_zero (r : Nat → Nat) : up r 0 = [] := rfl
theorem mxr_up (r : Nat → Nat) : mxr r 4 = up (mxR r) 16 := rfl
attribute [irreducible] up
/-- The state behind k rounds of N + 1. -/
def stR (R r : Nat → Nat) (N k : Nat) : Nat → Nat := if k ≤ N then rdR R r k else blR R N r
end Aes
theorem ovl_up (RL : List Int) (R r : Nat → Nat) (i : Nat) (hr : Aes.B16 r) (hR : ∀ j, j < 16 → RL.getD (16 * i + j) 0 = ((R (16 * i + j) : Nat) : Int) ∧ R (16 * i + j) < 256) (k : Nat) (hk : k ≤ 16) :
    ovl RL (Aes.up r 16) i k = Aes.up (Aes.layR R i r) k := by
  induction k with
  | zero => rw [ovl, Aes.up_zero]
  | succ k ih =>
    rw [ovl, ih (by omega), Aes.up_succ (Aes.layR R i r) k, Aes.up_get r 16 k (by omega), (hR k (by omega)).1, Aes.xor_u8 _ _ (hr k (by omega)) (hR k (by omega)).2]
    rfl
theorem stR_b (R r : Nat → Nat) (N k : Nat) (hr : Aes.B16 r) (hR : ∀ j, j < 16 * (N + 2) → R j < 256) : Aes.B16 (Aes.stR R r N k) := by
  unfold Aes.stR
  split
  · rename_i h
    cases k with
    | zero => rw [Aes.rdR]; exact Aes.layR_b R r 0 hr (fun j hj => hR _ (by omega))
    | succ k => rw [Aes.rdR]; exact Aes.layR_b R _ (k + 1) (Aes.mxR_b _ (Aes.mvR_b _)) (fun j hj => hR _ (by omega))
  · exact Aes.layR_b R _ (N + 1) (Aes.mvR_b _) (fun j hj => hR _ (by omega))
theorem stR_mid (R r : Nat → Nat) (N k : Nat) (h : k + 1 ≤ N) : Aes.stR R r N (k + 1) = Aes.layR R (k + 1) (Aes.mxR (Aes.mvR (Aes.stR R r N k))) := by
  unfold Aes.stR
  rw [if_pos h, if_pos (by omega), Aes.rdR]
theorem stR_end (R r : Nat → Nat) (N : Nat) : Aes.stR R r N (N + 1) = Aes.layR R (N + 1) (Aes.mvR (Aes.stR R r N N)) := by
  unfold Aes.stR
  rw [if_neg (by omega), if_pos (by omega), Aes.blR]

/-- append of bytes that lie somewhere, onto a row of the call's own. -/
theorem append_bs {ops : Array Oper} {rest : List Oper} {a : Act} {w : World} {Q : Exit → Act → World → Prop} {D : Option Tmp} {T : TypeId} {ps : String} {af : Array Edge} (s x : Operand) (ys : List Int) (base : Nat) (v : Value) (n : Nat) (l : List Int) (b o m c : Nat) (hs : a.eval s = v)
    (hx : a.eval x = .slice (some ⟨b, o, none⟩) m c) (hm : ys.length = m) (hc : ∀ j, j < m → w.cell? ⟨b, o + j, none⟩ = some (.int .u8 (ys.getD j 0))) (hown : w.ownsRow base 5 1 v n (U8s l)) (hn : n + m ≤ 1000000000000) (hb : base ≤ w.heap.size)
    (h : ∀ v' w', w'.ownsRow base 5 1 v' (n + m) (U8s (l ++ ys)) → w.grownBy w' v.ownBlock → wpList Try.prog ops Q rest (a.put D v') w') :
    wpList Try.prog ops Q ({ dst := D, op := .call { callee := .builtin .append, args := #[s, x], argTypes := #[22, 22] }, type := T, pos := ps, after := af, guard := none } :: rest) a w := by
  obtain ⟨i0, hi, hz0, hz1, hz2⟩ := info_parts Try.info_u8
  refine wpList_append_own _ rfl s x 22 rfl base 5 i0 (.int .u8 0) 1 1 Try.underlying22 hi hz0 hz1 hz2 rfl (by decide) v n (U8s l) hs hown ⟨b, o, none⟩ m c (ys.map (Value.int .u8)) hx (by simp [hm]) ?_ ?_ (by unfold maxLen; omega) (by omega) hb ?_
  · intro j u hj
    have hjl : j < ys.length := by have := (List.getElem?_eq_some_iff.1 hj).1; simpa using this
    rw [Addr.add_mid, hc j (by omega)]
    rw [List.getElem?_map, List.getElem?_eq_getElem hjl] at hj
    rw [List.getD_eq_getElem?_getD, List.getElem?_eq_getElem hjl]
    simpa using hj
  · intro u hu
    rw [List.mem_map] at hu
    obtain ⟨x, _, rfl⟩ := hu
    rfl
  · intro v' w' h1 h2 _
    refine h v' w' ?_ h2
    have e : U8s l ++ ys.map (Value.int .u8) = U8s (l ++ ys) := by unfold U8s; simp
    rw [← e]
    exact h1
theorem own_empty (w : World) (B : Nat) (h : B ≤ w.heap.size) : (w.alloc (.cells #[] 5)).ownsRow B 5 1 (.slice (some ⟨w.heap.size, 0, none⟩) 0 0) 0 (U8s []) := by
  unfold U8s
  exact ⟨rfl, Or.inr ⟨w.heap.size, 0, #[], rfl, h, heap_alloc_new w _, Nat.le_refl _, by unfold maxLen; omega, rfl, rfl⟩⟩

theorem RCiph.old {w x : World} {g n : Nat} {R : List Int} (h : RCiph w g n R) (hb : Below w.heap.size w x) : RCiph x g n R := by
  obtain ⟨wb, wc, tb, tc, h0, hW, hT⟩ := h
  refine ⟨wb, wc, tb, tc, (hb.block _ (lt_of_block h0)).trans h0, fun i hi => ?_, fun j hj => (hb.cell (World.block_lt_of_cell? w _ (hT j hj))).trans (hT j hj)⟩
  obtain ⟨b, c, h1, h2⟩ := hW i hi
  exact ⟨b, c, (hb.cell (World.block_lt_of_cell? w _ h1)).trans h1, fun j hj => (hb.cell (World.block_lt_of_cell? w _ (h2 j hj))).trans (h2 j hj)⟩
theorem splice_whole (cur cs : List Value) (h : cs.length = cur.length) : splice cur 0 cs = cs := by
  unfold splice
  rw [List.take_zero, List.drop_of_length_le (by omega)]
  simp
theorem over_ref' (g n : Nat) (R S : List Int) (r : Nat) (ri : Int) (hri : ri = (r : Int)) (hr : r < 15) (hn : 4 * r + 4 ≤ n) (hn2 : n ≤ 60) (sb sc : Nat) (w : World) (hC : RCiph w g n R) (hS : ∀ j, j < 16 → w.cell? ⟨sb, j, none⟩ = some (.int .u8 (S.getD j 0))) :
    Calls Try.prog 34 #[.pointer (some ⟨g, 0, none⟩), .slice (some ⟨sb, 0, none⟩) 16 sc, .int .i64 ri] w fun e w' => ∃ g c, e = .returned (.slice (some ⟨g, 0, none⟩) 16 c) ∧ w'.ownsRow w.heap.size 5 1 (.slice (some ⟨g, 0, none⟩) 16 c) 16 (U8s (ovl R S r 16)) ∧ Below w.heap.size w w' := by
  subst hri
  exact over_ref g n R S r hr hn hn2 sb sc w hC hS
theorem cell_alloc_old {w : World} {b j : Nat} {v : Value} (o : Obj) (h : w.cell? ⟨b, j, none⟩ = some v) : (w.alloc o).cell? ⟨b, j, none⟩ = some v :=
  (((Below.refl _ w).alloc (Nat.le_refl _) o).cell (World.block_lt_of_cell? w _ h)).trans h

set_option maxHeartbeats 4000000 in
set_option maxRecDepth 100000 in
theorem block_ref (g : Nat) (RL : List Int) (R r : Nat → Nat) (N : Nat) (w : World) (hC : RCiph w g (4 * (N + 2)) RL) (hN : N + 2 ≤ 15) (hR : ∀ j, j < 16 * (N + 2) → RL.getD j 0 = ((R j : Nat) : Int) ∧ R j < 256) (hr : Aes.B16 r) :
    Calls Try.prog 16 #[.pointer (some ⟨g, 0, none⟩), Bk (Aes.up r 16)] w (BkSay (Aes.up (Aes.blR R N r) 16) w) := by
  unfold Bk
  have HC := Lib.hid hC; clear hC
  have HR := Lib.hid hR; clear hR
  have Hr := Lib.hid hr; clear hr
  obtain ⟨A, HA0, HA1⟩ : ∃ A : Array Value, Hid (A = ((Aes.up r 16).map (Value.int .u8)).toArray) ∧ Hid (A.size = 16) := ⟨_, rfl, by show _ = _; simp [Aes.up_len]⟩
  rw [← HA0.out]
  go_enter Try.func16, Try.ntmps16
  go_upto_region 1 with fail
  have HX : Hid (((w.alloc (.cells A 35)).alloc (.cells #[.int .u8 0, .int .u8 0, .int .u8 0, .int .u8 0, .int .u8 0, .int .u8 0, .int .u8 0, .int .u8 0, .int .u8 0, .int .u8 0, .int .u8 0, .int .u8 0, .int .u8 0, .int .u8 0, .int .u8 0, .int .u8 0] 35)).heap[w.heap.size]? = some (.cells A 35 (0, 0))) := heap_alloc2_old w _ _
  have HZ : Hid (((w.alloc (.cells A 35)).alloc (.cells #[.int .u8 0, .int .u8 0, .int .u8 0, .int .u8 0, .int .u8 0, .int .u8 0, .int .u8 0, .int .u8 0, .int .u8 0, .int .u8 0, .int .u8 0, .int .u8 0, .int .u8 0, .int .u8 0, .int .u8 0, .int .u8 0] 35)).heap[w.heap.size + 1]? = some (.cells (List.replicate 16 (Value.int .u8 0)).toArray 35 (0, 0))) := heap_alloc2_new w _ _
  have HB1 : Hid (Below w.heap.size w ((w.alloc (.cells A 35)).alloc (.cells #[.int .u8 0, .int .u8 0, .int .u8 0, .int .u8 0, .int .u8 0, .int .u8 0, .int .u8 0, .int .u8 0, .int .u8 0, .int .u8 0, .int .u8 0, .int .u8 0, .int .u8 0, .int .u8 0, .int .u8 0, .int .u8 0] 35))) := ((Below.refl _ w).alloc (Nat.le_refl _) _).alloc (by simp) _
  generalize (w.alloc (.cells A 35)).alloc (.cells #[.int .u8 0, .int .u8 0, .int .u8 0, .int .u8 0, .int .u8 0, .int .u8 0, .int .u8 0, .int .u8 0, .int .u8 0, .int .u8 0, .int .u8 0, .int .u8 0, .int .u8 0, .int .u8 0, .int .u8 0, .int .u8 0] 35) = w1 at *
  have HX2 : Hid (∀ j, j < 16 → w1.cell? ⟨w.heap.size, j, none⟩ = some (.int .u8 ((Aes.up r 16).getD j 0))) := fun j hj => by
    have h := HX.out
    rw [HA0.out] at h
    exact u8_cell h j (by rw [Aes.up_len]; exact hj)
  go_upto_region 2 with ((with_reducible refine append_bs _ _ (Aes.up r 16) w1.heap.size _ 0 [] w.heap.size 0 16 16 ?_ ?_ (Aes.up_len _ _) ?_ (own_empty w1 _ (Nat.le_refl _)) ?_ ?_ ?_); (exact rfl); (exact rfl); (intro j hj; rw [Nat.zero_add]; exact cell_alloc_old _ (HX2.out j hj)); omega; simp; intro v2 w2 hown2 hgrow2)
  have HB2 : Hid (Below w.heap.size w w2) := (HB1.out.alloc HB1.out.size _).grown hgrow2 (by have := HB1.out.size; simp; omega) (fun j hj => by cases hj; exact HB1.out.size)
  have HZ2 : Hid (w2.heap[w.heap.size + 1]? = some (.cells (List.replicate 16 (Value.int .u8 0)).toArray 35 (0, 0))) := (hgrow2.block _ (by have := lt_of_block HZ.out; simp; omega) (by have := lt_of_block HZ.out; simp [Value.ownBlock]; omega)).trans ((heap_alloc_old _ _ (lt_of_block HZ.out)).trans HZ.out)
  obtain ⟨s2, c2, hv⟩ := own_some hown2 (by decide)
  subst hv
  have HO2 := Lib.hid hown2
  clear hown2 hgrow2 HX HZ HB1 HX2
  have HRC2 : Hid (RCiph w2 g (4 * (N + 2)) RL) := HC.out.old HB2.out
  go_upto_region 3 with (go_at_call 34; refine (over_ref g (4 * (N + 2)) RL (Aes.up r 16) 0 (by omega) (by omega) (by omega) s2 c2 _ HRC2.out (fun j hj => by rw [u8_at HO2.out j hj]; rfl)).mono ?_; rintro e w3 ⟨s3, c3, rfl, ho3, hb3⟩)
  have HO3 := Lib.hid ho3
  have HB3 : Hid (Below w.heap.size w w3) := HB2.out.trans (hb3.mono HB2.out.size)
  have HZ3 : Hid (w3.heap[w.heap.size + 1]? = some (.cells (List.replicate 16 (Value.int .u8 0)).toArray 35 (0, 0))) := (hb3.block _ (lt_of_block HZ2.out)).trans HZ2.out
  have HS3 : Hid (∀ j, j < 16 → w3.cell? ⟨s3, j, none⟩ = some (.int .u8 ((Aes.stR R r N 0 j : Nat) : Int))) := fun j hj => by
    rw [u8_at HO3.out j hj, ovl_up RL R r 0 Hr.out (fun j hj => HR.out _ (by omega)) 16 (by omega), Aes.up_get _ 16 j hj]
    rfl
  have HCW : Hid (∀ x, Below w.heap.size w x → RCiph x g (4 * (N + 2)) RL) := fun x hx => HC.out.old hx
  clear ho3 hb3 HO3 HB2 HZ2 HO2 HRC2 HC
  obtain ⟨wb, wc, tb, tc, h0, _, _⟩ := HCW.out _ HB3.out
  have c0 : w3.cell? ⟨g, 0, none⟩ = some (.slice (some ⟨wb, 0, none⟩) (4 * (N + 2)) wc) := by rw [cell_of_row w3 g 0 _ _ _ h0]; rfl
  clear h0
  go_upto_region 4 with fail
  rw [show ((N : Int) + 2 - 1) = (N : Int) + 1 by omega]
  clear c0
  go_wp2
  go_loopw [5, 7] (fun v5 v7 wr => ∃ (k sb sc : Nat), k ≤ N + 1 ∧ v7 = .int .i64 ((k : Int) + 1) ∧ v5 = .slice (some ⟨sb, 0, none⟩) 16 sc ∧ Hid (∀ j, j < 16 → wr.cell? ⟨sb, j, none⟩ = some (.int .u8 ((Aes.stR R r N k j : Nat) : Int))) ∧ Hid (wr.heap[w.heap.size + 1]? = some (.cells (List.replicate 16 (Value.int .u8 0)).toArray 35 (0, 0))) ∧ Hid (Below w.heap.size w wr)) (fun _ v7 _ => N + 3 - (intOf v7).toNat)
  case atStart => exact ⟨0, s3, c3, by omega, rfl, rfl, HS3.out, HZ3.out, HB3.out⟩
  case round =>
    clear HS3 HZ3 HB3
    obtain ⟨k, sb, sc, hk, rfl, rfl, HS, HZ, HB⟩ := hrel
    by_cases hlt : k < N + 1
    · go_wp2
      obtain ⟨wo, rfl⟩ : ∃ wo : World, wo = wr := ⟨_, rfl⟩
      rw [show decide (k ≤ N) = true from decide_eq_true (by omega)]
      go_loopw [8, 9] (fun v8 v9 wr => ∃ j : Nat, j ≤ 16 ∧ v9 = .int .i64 j ∧ Hid (wr.ownsRow wo.heap.size 5 1 v8 j (U8s (Aes.up (Aes.mvR (Aes.stR R r N k)) j))) ∧ Hid (Below wo.heap.size wo wr)) (fun _ v9 _ => 16 - (intOf v9).toNat)
      case atStart => exact ⟨0, Nat.zero_le _, rfl, by rw [Aes.up_zero]; unfold U8s; exact World.ownsRow_nil _ _ _ _, Below.refl _ _⟩
      case round =>
        obtain ⟨j, hj, rfl, HO, HBI⟩ := hrel
        by_cases hjl : j < 16
        · obtain ⟨q, t, hq, ht, rfl⟩ : ∃ q t : Nat, q < 4 ∧ t < 4 ∧ j = 4 * q + t := ⟨j / 4, j % 4, by omega, by omega, by omega⟩
          obtain ⟨wb2, wc2, tb, tc, h0, _, hT⟩ := HCW.out _ HB.out
          obtain ⟨z, hz⟩ : ∃ z, z = (q + t) % 4 := ⟨_, rfl⟩
          have hz4 : z < 4 := by omega
          have h1 := HS.out (4 * z + t) (by omega)
          have hy := stR_b R r N k Hr.out (fun j hj => (HR.out j hj).2) (4 * z + t) (by omega)
          have HX : Hid (Aes.up (Aes.mvR (Aes.stR R r N k)) (4 * q + t) ++ [Aes.TB.getD (Aes.stR R r N k (4 * z + t)) 0] = Aes.up (Aes.mvR (Aes.stR R r N k)) (4 * q + t + 1)) := by
            show _ = _
            rw [Aes.up_succ, Aes.mvR, show (4 * q + t) / 4 = q by omega, show (4 * q + t) % 4 = t by omega, ← hz, Aes.tn_int]
          have h2 := hT _ hy
          generalize Aes.stR R r N k (4 * z + t) = y at *
          generalize Aes.TB.getD y 0 = x at *
          have e0 : wo.cell? ⟨g, 1, none⟩ = some (.slice (some ⟨tb, 0, none⟩) 256 tc) := by rw [cell_of_row wo g 1 _ _ _ h0]; rfl
          have c0 := (HBI.out.cell (World.block_lt_of_cell? wo _ e0)).trans e0
          have c1 := (HBI.out.cell (World.block_lt_of_cell? wo _ h1)).trans h1
          have c2 := (HBI.out.cell (World.block_lt_of_cell? wo _ h2)).trans h2
          clear h0 hT h1 h2 e0
          have d1 : ((4 * (q : Int) + t).tdiv 4) = q := by rw [Int.tdiv_eq_ediv_of_nonneg (by omega)]; omega
          have d2 : ((4 * (q : Int) + t).tmod 4) = t := by rw [Int.tmod_eq_emod_of_nonneg (by omega)]; omega
          have d3 : IntKind.i64.wrap ((q : Int) + t) = (q : Int) + t := IntWalk.i64_in _ ⟨by omega, by omega⟩
          have d4 : ((q : Int) + t).tmod 4 = z := by rw [Int.tmod_eq_emod_of_nonneg (by omega)]; omega
          have d5 : IntKind.i64.wrap (4 * (z : Int)) = 4 * (z : Int) := IntWalk.i64_in _ ⟨by omega, by omega⟩
          have d6 : IntKind.i64.wrap (4 * (z : Int) + t) = 4 * (z : Int) + t := IntWalk.i64_in _ ⟨by omega, by omega⟩
          have HZT := Lib.hid hz; clear hz
          go_wp2
          have d7 : IntKind.i64.wrap (q : Int) = q := IntWalk.i64_in _ ⟨by omega, by omega⟩
          have d8 : IntKind.i64.wrap (z : Int) = z := IntWalk.i64_in _ ⟨by omega, by omega⟩
          have d9 : IntKind.i64.wrap (t : Int) = t := IntWalk.i64_in _ ⟨by omega, by omega⟩
          have f1 : 0 ≤ 4 * (z : Int) + t := by omega
          have f2 : (4 * (z : Int) + t).toNat = 4 * z + t := by omega
          have f3 : 4 * (z : Int) + t < 16 := by omega
          have f4 : 0 ≤ (y : Int) := by omega
          have f5 : (y : Int) < 256 := by omega
          have f6 : ((y : Int)).toNat = y := by omega
          have g0 : wr.drew.cell? ⟨g, 1, none⟩ = some (.slice (some ⟨tb, 0, none⟩) 256 tc) := c0
          have g1 : wr.drew.cell? ⟨sb, 4 * z + t, none⟩ = some (.int .u8 (y : Int)) := c1
          have g2 : wr.drew.cell? ⟨tb, y, none⟩ = some (.int .u8 x) := c2
          go_region_law ((with_reducible refine step_append_u8 wr _ (.tmp 33) (.tmp 53) wo.heap.size u8 (4 * q + t) (Aes.up (Aes.mvR (Aes.stR R r N k)) (4 * q + t)) ?_ ?_ ?_ ?_ HO.out ?_ ?_ ?_); (exact rfl); (exact rfl); (exact rfl); (exact rfl); omega; (exact HBI.out.size); intro v' w4 hown' hgrow; have hb1 := below_own' HBI.out HBI.out.size HO.out hgrow)
          all_goals
            rw [HX.out] at hown'
            clear hgrow HO HBI HX
            go_wp2
            exact ⟨⟨4 * q + t + 1, by omega, by go_num, hown', hb1⟩, by simp [intOf]; omega⟩
        · have E : j = 16 := by omega
          subst E
          obtain ⟨s8, c8, hv⟩ := own_some HO.out (by decide)
          subst hv
          have h16 : (16 : Int) ≤ ((16 : Nat) : Int) := by decide
          have HBW : Hid (Below w.heap.size w wr) := HB.out.trans (HBI.out.mono HB.out.size)
          have HZW : Hid (wr.heap[w.heap.size + 1]? = some (.cells (List.replicate 16 (Value.int .u8 0)).toArray 35 (0, 0))) := (HBI.out.block _ (lt_of_block HZ.out)).trans HZ.out
          have HT8 : Hid (∀ j, j < 16 → wr.cell? ⟨s8, j, none⟩ = some (.int .u8 ((Aes.mvR (Aes.stR R r N k) j : Nat) : Int))) := fun j hj => by
            rw [u8_at HO.out j hj, Aes.up_get _ 16 j hj]
          have HCR := Lib.hid (HCW.out _ HBW.out)
          clear HO HBI HS HZ HB hjl
          by_cases hkN : k < N
          · go_wp2_with (first
              | (go_at_call 35; refine (mixed_ref (Aes.mvR (Aes.stR R r N k)) (Aes.mvR_b _) s8 c8 _ HT8.out).mono ?_; rintro e w5 ⟨s5, c5, rfl, ho5, hb5⟩; have HO5 := Lib.hid ho5; have HB5 := Lib.hid hb5; clear ho5 hb5; have HCR5 := Lib.hid (HCR.out.old HB5.out))
              | (go_at_call 34; refine (over_ref' g (4 * (N + 2)) RL (Aes.mxr (Aes.mvR (Aes.stR R r N k)) 4) (k + 1) _ (by push_cast; rfl) (by omega) (by omega) (by omega) s5 c5 _ HCR5.out (fun j hj => u8_at HO5.out j hj)).mono ?_; rintro e w6 ⟨s6, c6, rfl, ho6, hb6⟩; have HO6 := Lib.hid ho6; have HB6 := Lib.hid hb6; clear ho6 hb6))
            refine ⟨⟨k + 1, s6, c6, by omega, by go_num, rfl, ?_, ?_, ?_⟩, by simp [intOf]; omega⟩
            · intro j hj
              rw [u8_at HO6.out j hj, Aes.mxr_up, ovl_up RL R _ (k + 1) (Aes.mxR_b _ (Aes.mvR_b _)) (fun j hj => HR.out _ (by omega)) 16 (by omega), Aes.up_get _ 16 j hj, stR_mid R r N k (by omega)]
            · exact (HB6.out.block _ (by have := HB5.out.size; have := lt_of_block HZW.out; omega)).trans ((HB5.out.block _ (lt_of_block HZW.out)).trans HZW.out)
            · exact HBW.out.trans ((HB5.out.trans (HB6.out.mono HB5.out.size)).mono HBW.out.size)
          · obtain rfl : k = N := by omega
            go_wp2_with (go_at_call 34; refine (over_ref' g (4 * (k + 2)) RL (Aes.up (Aes.mvR (Aes.stR R r k k)) 16) (k + 1) _ (by push_cast; rfl) (by omega) (by omega) (by omega) s8 c8 _ HCR.out (fun j hj => by rw [HT8.out j hj, Aes.up_get _ 16 j hj])).mono ?_; rintro e w6 ⟨s6, c6, rfl, ho6, hb6⟩; have HO6 := Lib.hid ho6; have HB6 := Lib.hid hb6; clear ho6 hb6)
            refine ⟨⟨k + 1, s6, c6, by omega, by go_num, rfl, ?_, ?_, ?_⟩, by simp [intOf]; omega⟩
            · intro j hj
              rw [u8_at HO6.out j hj, ovl_up RL R _ (k + 1) (Aes.mvR_b _) (fun j hj => HR.out _ (by omega)) 16 (by omega), Aes.up_get _ 16 j hj, stR_end R r k]
            · exact (HB6.out.block _ (lt_of_block HZW.out)).trans HZW.out
            · exact HBW.out.trans (HB6.out.mono HBW.out.size)
    · have E : k = N + 1 := by omega
      subst E
      have HOUT : Hid (∀ j, j < 16 → wr.cell? ⟨sb, j, none⟩ = some (.int .u8 ((Aes.up (Aes.blR R N r) 16).getD j 0))) := fun j hj => by
        rw [HS.out j hj, Aes.up_get _ 16 j hj, Aes.stR, if_neg (by omega)]
      generalize hU : Aes.up (Aes.blR R N r) 16 = U at *
      have HUL : Hid (U.length = 16) := by show _ = _; rw [← hU, Aes.up_len]
      clear hU HS
      go_upto_region 16 with fail
      have HG5 : Hid ((wr.alloc (.cells #[.int .u8 0, .int .u8 0, .int .u8 0, .int .u8 0, .int .u8 0, .int .u8 0, .int .u8 0, .int .u8 0, .int .u8 0, .int .u8 0, .int .u8 0, .int .u8 0, .int .u8 0, .int .u8 0, .int .u8 0, .int .u8 0] 35)).heap[wr.heap.size]? = some (.cells (List.replicate 16 (Value.int .u8 0)).toArray 35 (0, 0))) := heap_alloc_new _ _
      have HZ5 : Hid ((wr.alloc (.cells #[.int .u8 0, .int .u8 0, .int .u8 0, .int .u8 0, .int .u8 0, .int .u8 0, .int .u8 0, .int .u8 0, .int .u8 0, .int .u8 0, .int .u8 0, .int .u8 0, .int .u8 0, .int .u8 0, .int .u8 0, .int .u8 0] 35)).heap[w.heap.size + 1]? = some (.cells (List.replicate 16 (Value.int .u8 0)).toArray 35 (0, 0))) := (heap_alloc_old _ _ (lt_of_block HZ.out)).trans HZ.out
      have HS5 : Hid (∀ j, j < 16 → (wr.alloc (.cells #[.int .u8 0, .int .u8 0, .int .u8 0, .int .u8 0, .int .u8 0, .int .u8 0, .int .u8 0, .int .u8 0, .int .u8 0, .int .u8 0, .int .u8 0, .int .u8 0, .int .u8 0, .int .u8 0, .int .u8 0, .int .u8 0] 35)).cell? ⟨sb, j, none⟩ = some (.int .u8 (U.getD j 0))) := fun j hj => cell_alloc_old _ (HOUT.out j hj)
      have HB5 : Hid (Below w.heap.size w (wr.alloc (.cells #[.int .u8 0, .int .u8 0, .int .u8 0, .int .u8 0, .int .u8 0, .int .u8 0, .int .u8 0, .int .u8 0, .int .u8 0, .int .u8 0, .int .u8 0, .int .u8 0, .int .u8 0, .int .u8 0, .int .u8 0, .int .u8 0] 35))) := HB.out.alloc HB.out.size _
      have HNE : Hid (w.heap.size + 1 < wr.heap.size) := lt_of_block HZ.out
      clear HZ HB HOUT
      generalize wr.alloc (.cells #[.int .u8 0, .int .u8 0, .int .u8 0, .int .u8 0, .int .u8 0, .int .u8 0, .int .u8 0, .int .u8 0, .int .u8 0, .int .u8 0, .int .u8 0, .int .u8 0, .int .u8 0, .int .u8 0, .int .u8 0, .int .u8 0] 35) = w5 at *
      generalize wr.heap.size = G at *
      obtain ⟨A, HA1, HA2, HA3⟩ : ∃ A : Array Value, Hid (A = (U.map (Value.int .u8)).toArray) ∧ Hid (A.size = 16) ∧ Hid (A.all (·.oneCell') = true) :=
        ⟨_, rfl, by show _ = _; simp [HUL.out], u8_all _⟩
      go_upto_region 17 with ((with_reducible refine row_copy _ _ _ _ 5 G 0 16 16 ⟨sb, 0, none⟩ 16 sc 35 (List.replicate 16 (Value.int .u8 0)) (U.map (Value.int .u8)) ?_ ?_ HG5.out Try.underlying22 (by kernel_rfl) ?_ ?_ ?_ (u8_one _) ?_); (exact rfl); (exact rfl); (rw [List.length_map, HUL.out]; rfl); (intro j v hj; have hjl : j < U.length := (by have := (List.getElem?_eq_some_iff.1 hj).1; simpa using this); rw [Addr.add_mid, Nat.zero_add, HS5.out j (by rw [HUL.out] at hjl; exact hjl)]; rw [List.getElem?_map, List.getElem?_eq_getElem hjl] at hj; rw [List.getD_eq_getElem?_getD, List.getElem?_eq_getElem hjl]; simpa using hj); (rw [List.length_map, HUL.out]; simp); intro w6 G6 ch6)
      have G6' : Hid (w6.heap[G]? = some (.cells A 35 (0, 0))) := by
        show _ = _
        rw [G6.out, splice_whole _ _ (by rw [List.length_map, HUL.out]; rfl), HA1.out]
      have HZ6 : Hid (w6.heap[w.heap.size + 1]? = some (.cells (List.replicate 16 (Value.int .u8 0)).toArray 35 (0, 0))) := (ch6.block _ (by have := HNE.out; omega)).trans HZ5.out
      have HB6 : Hid (Below w.heap.size w w6) := ch6.below HB5.out (by have := HNE.out; omega)
      clear G6 ch6 HG5 HZ5 HS5 HB5
      go_wp2_with (first
        | ((with_reducible refine row_load _ _ _ _ _ _ _ ?_ G6'.out Try.underlying35 ?_ (row_size Try.size16 HA2) ?_); (exact rfl); (exact rfl))
        | ((with_reducible refine row_store _ _ _ _ _ _ _ ?_ ?_ HZ6.out (row_size Try.size16 HA2) ?_ HA3.out ?_); (exact rfl); (exact rfl); (rw [HA2.out]; rfl); intro w7 G7 ch7))
      refine bodyPost_ret (results_cell_row rfl _ _ (w.heap.size + 1) 35 A (0, 0) _ rfl G7.out Try.underlying35 rfl (row_size Try.size16 HA2)) rfl ⟨?_, ch7.below HB6.out (by omega)⟩
      rw [HA1.out, Bk]
end Go.Proofs.Ytkajigfdfbgphaa
