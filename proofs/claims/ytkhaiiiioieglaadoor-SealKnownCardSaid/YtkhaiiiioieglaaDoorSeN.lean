/-
  The law SealKnown walked.
-/
import Derived.Test.YtkhaiiiioieglaaDoorSeK
namespace Go.Proofs.YtkhaiiiioieglaaDoor
open Go.RowKit

namespace Seal
/-- The numbers that are tried. -/
def EN : List Int := [-9223372036854775808, -1, 0, 1099511627776, 1099511627777, 9223372036854775807]
theorem en_in (i : Nat) (h : i < 6) : inR (EN.getD i 0) = decide (i = 2 ∨ i = 3) := by
  rcases i with _ | _ | _ | _ | _ | _ | i
  · decide
  · decide
  · decide
  · decide
  · decide
  · decide
  · omega
end Seal
/-- What the rounds read. -/
def KnS (ge i k : Nat) (e n : Int) (x : World) : Prop := x.cell? ⟨ge, i, none⟩ = some (.int .i64 e) ∧ x.cell? ⟨ge, k, none⟩ = some (.int .i64 n)
theorem en_cell {x : World} {ge : Nat} (h : x.heap[ge]? = some (.cells (Seal.EN.map (Value.int .i64)).toArray 3 (0, 0))) (i : Nat) (hi : i < 6) : x.cell? ⟨ge, i, none⟩ = some (.int .i64 (Seal.EN.getD i 0)) := by
  rw [cell_of_row x ge i _ _ _ h]
  have hl : i < Seal.EN.length := hi
  simp [List.getD_eq_getElem?_getD, hl]
theorem bs_zeros {x : World} {g : Nat} (m : Nat) (hm : m ≤ 1000) (h : x.heap[g]? = some (.cells (List.replicate m (Value.int .u8 0)).toArray 5 (0, 0))) : Bs x (some ⟨g, 0, none⟩) m (List.replicate m 0) := by
  refine bs_row (bat_row (l := List.replicate m 0) (by rw [List.map_replicate]; exact h) (fun y hy => ?_)) ⟨by rw [List.length_replicate]; exact Nat.le_refl _, by omega⟩
  obtain rfl : y = 0 := (List.mem_replicate.1 hy).2
  omega

set_option maxHeartbeats 8000000 in
set_option maxRecDepth 100000 in
theorem sealknown_any (hT : TakeSaid) (w : World) (ht : Tab w 1) : Calls Tryd.prog 6 #[] w (YesSay w) := by
  have HT := Lib.hid hT; clear hT
  have Ht := Lib.hid ht; clear ht
  have HNEW : Hid (Calls Tryd.prog 10 #[.slice none 0 0] w (NewBox [] w)) := newbox_any HT.out [] none 0 0 rfl (by omega) w (bs_none w) Ht.out
  go_enter Tryd.func6, Tryd.ntmps6
  go_upto_region 5 with (go_at_call 10; refine HNEW.out.mono ?_; rintro e1 w1 ⟨g, rfl, HG1, hb1⟩; have B1 := Lib.hid hb1; clear hb1 HNEW)
  have BA : Below w1.heap.size w1 (w1.alloc (.cells (Seal.EN.map (Value.int .i64)).toArray 3)) := (Below.refl _ w1).alloc (Nat.le_refl _) _
  have HE0 : Hid ((w1.alloc (.cells (Seal.EN.map (Value.int .i64)).toArray 3)).heap[w1.heap.size]? = some (.cells (Seal.EN.map (Value.int .i64)).toArray 3 (0, 0))) := heap_alloc_new _ _
  obtain ⟨w0, hw0⟩ : ∃ x, x = w1.alloc (.cells (Seal.EN.map (Value.int .i64)).toArray 3) := ⟨_, rfl⟩
  rw [← hw0] at BA HE0
  change Code.wp _ _ _ _ (w1.alloc (.cells (Seal.EN.map (Value.int .i64)).toArray 3))
  rw [← hw0]
  clear hw0
  have HG : Hid (BoxAt w0 g []) := HG1.out.old BA
  have B0 : Hid (Below w.heap.size w w0) := B1.out.trans (BA.mono B1.out.size)
  clear BA HG1 B1
  generalize w1.heap.size = ge at *
  have Fin : Hid (∀ x, Below w0.heap.size w0 x → Below w.heap.size w x) := fun x hx => B0.out.trans (hx.mono B0.out.size)
  have HTB : Hid (∀ x, Below w0.heap.size w0 x → Tab x 1) := fun x hx => Ht.out.below (Fin.out x hx) Ht.out.lt
  have HCE : Hid (∀ x, Below w0.heap.size w0 x → ∀ j, j < 6 → x.cell? ⟨ge, j, none⟩ = some (.int .i64 (Seal.EN.getD j 0))) := fun x hx j hj => en_cell ((hx.block _ (lt_of_block HE0.out)).trans HE0.out) j hj
  have HKN : Hid (∀ x, Below w0.heap.size w0 x → Calls Tryd.prog 8 #[] x (YesSay x)) := fun x hx => known_any HT.out x (HTB.out x hx)
  have HO1 : Hid (∀ x q, Below w0.heap.size w0 x → Bs x q 31 (List.replicate 31 0) → Calls Tryd.prog 15 #[.pointer (some ⟨g, 0, none⟩), .int .i64 1, .int .i64 2, .slice none 0 0, .slice q 31 31] x fun r x' => ∃ p c m, r = .returned (.tuple #[.slice p m c, .bool false]) ∧ Below x.heap.size x x') := fun x q hx hq => by
    refine (open_any HT.out [] [] (List.replicate 31 0) g 1 2 none q 0 31 0 31 rfl (by simp) x (HG.out.old hx) (bs_none x) hq (by omega) (HTB.out x hx)).mono ?_
    rw [Seal.op_short _ _ _ _ _ (by simp)]
    rintro r x' ⟨p, c, m, rfl, _, _, _, hb⟩
    exact ⟨p, c, m, rfl, hb⟩
  have HO2 : Hid (∀ x, Below w0.heap.size w0 x → Calls Tryd.prog 15 #[.pointer (some ⟨g, 0, none⟩), .int .i64 1, .int .i64 2, .slice none 0 0, .slice none 0 0] x fun r x' => ∃ p c m, r = .returned (.tuple #[.slice p m c, .bool false]) ∧ Below x.heap.size x x') := fun x hx => by
    refine (open_any HT.out [] [] [] g 1 2 none none 0 0 0 0 rfl rfl x (HG.out.old hx) (bs_none x) (bs_none x) (by omega) (HTB.out x hx)).mono ?_
    rw [Seal.op_short _ _ _ _ _ (by simp)]
    rintro r x' ⟨p, c, m, rfl, _, _, _, hb⟩
    exact ⟨p, c, m, rfl, hb⟩
  clear B0 HE0
  go_wp2
  go_loopw [3] (fun v3 wr => ∃ i : Nat, i ≤ 6 ∧ v3 = .int .i64 i ∧ Hid (Below w0.heap.size w0 wr)) (fun v3 _ => 6 - (intOf v3).toNat)
  case atStart => exact ⟨0, by omega, rfl, Below.refl _ _⟩
  case round =>
    obtain ⟨i, hi, rfl, HB0⟩ := hrel
    by_cases hlt : i < 6
    · have hi0 : 0 ≤ (i : Int) := by omega
      have hi1 : (i : Int) < 6 := by omega
      go_wp2
      go_loopw [4] (fun v4 wr => ∃ k : Nat, k ≤ 6 ∧ v4 = .int .i64 k ∧ Hid (Below w0.heap.size w0 wr)) (fun v4 _ => 6 - (intOf v4).toNat)
      case atStart => exact ⟨0, by omega, rfl, HB0.out⟩
      case round =>
        clear HB0
        obtain ⟨k, hk, rfl, HB⟩ := hrel
        by_cases hlk : k < 6
        · have hk0 : 0 ≤ (k : Int) := by omega
          have hk1 : (k : Int) < 6 := by omega
          obtain ⟨e, he⟩ : ∃ e, e = Seal.EN.getD i 0 := ⟨_, rfl⟩
          obtain ⟨n, hn⟩ : ∃ n, n = Seal.EN.getD k 0 := ⟨_, rfl⟩
          have HS : Hid (∀ x, Below w0.heap.size w0 x → KnS ge i k e n x) := fun x hx => ⟨by rw [he]; exact HCE.out x hx i hlt, by rw [hn]; exact HCE.out x hx k hlk⟩
          obtain ⟨ok, ms, SL, HSE, HOP, hcase⟩ : ∃ (ok : Bool) (ms : Nat) (SL : List Int), Hid (∀ x, Below w0.heap.size w0 x → Calls Tryd.prog 14 #[.pointer (some ⟨g, 0, none⟩), .int .i64 e, .int .i64 n, .slice none 0 0, .slice none 0 0] x fun r x' => ∃ q cq, r = .returned (.slice q ms cq) ∧ Hid (Bs x' q cq SL) ∧ Below x.heap.size x x') ∧
              Hid (∀ x q cq, Below w0.heap.size w0 x → Bs x q cq SL → Calls Tryd.prog 15 #[.pointer (some ⟨g, 0, none⟩), .int .i64 e, .int .i64 n, .slice none 0 0, .slice q ms cq] x fun r x' => ∃ p c m, r = .returned (.tuple #[.slice p m c, .bool ok]) ∧ Below x.heap.size x x') ∧
              ((ok = true ∧ ms = 32 ∧ (i = 2 ∨ i = 3) ∧ (k = 2 ∨ k = 3)) ∨ (ok = false ∧ ms = 0 ∧ ¬ ((i = 2 ∨ i = 3) ∧ (k = 2 ∨ k = 3)))) := by
            have hin : (inR e && inR n) = decide ((i = 2 ∨ i = 3) ∧ (k = 2 ∨ k = 3)) := by rw [he, hn, Seal.en_in i hlt, Seal.en_in k hlk, Bool.decide_and]
            have sealb : ∀ x, Below w0.heap.size w0 x → Calls Tryd.prog 14 #[.pointer (some ⟨g, 0, none⟩), .int .i64 e, .int .i64 n, .slice none 0 0, .slice none 0 0] x (OwnSay (Seal.sl [] e n [] []) x) := fun x hx =>
              seal_any HT.out [] [] [] g e n none none 0 0 0 0 rfl rfl x (HG.out.old hx) (bs_none x) (bs_none x) (by omega) (HTB.out x hx)
            by_cases hf : (i = 2 ∨ i = 3) ∧ (k = 2 ∨ k = 3)
            · rw [show decide ((i = 2 ∨ i = 3) ∧ (k = 2 ∨ k = 3)) = true by simpa using hf] at hin
              simp only [Bool.and_eq_true] at hin
              refine ⟨true, 32, Seal.sl [] e n [] [], fun x hx => ?_, fun x q cq hx hq => ?_, Or.inl ⟨rfl, rfl, hf.1, hf.2⟩⟩
              · refine (sealb x hx).mono ?_
                rintro r x' ⟨q, cq, mq, rfl, hm, _, hbq, hb⟩
                rw [Seal.sl_len hin.1 hin.2] at hm
                obtain rfl : mq = 32 := hm.symm
                exact ⟨q, cq, rfl, hbq, hb⟩
              · refine (open_any HT.out [] [] _ g e n none q 0 32 0 cq rfl (Seal.sl_len hin.1 hin.2 _ _ _) x (HG.out.old hx) (bs_none x) hq (by omega) (HTB.out x hx)).mono ?_
                rw [Seal.op_sl hin.1 hin.2 _ _ _ (fun y hy => by simp at hy)]
                rintro r x' ⟨p, c, m, rfl, _, _, _, hb⟩
                exact ⟨p, c, m, rfl, hb⟩
            · rw [show decide ((i = 2 ∨ i = 3) ∧ (k = 2 ∨ k = 3)) = false by simpa using hf] at hin
              refine ⟨false, 0, [], fun x hx => ?_, fun x q cq hx hq => ?_, Or.inr ⟨rfl, rfl, hf⟩⟩
              · refine (sealb x hx).mono ?_
                rw [Seal.sl_bad hin]
                rintro r x' ⟨q, cq, mq, rfl, hm, _, hbq, hb⟩
                obtain rfl : mq = 0 := hm.symm
                exact ⟨q, cq, rfl, hbq, hb⟩
              · refine (open_any HT.out [] [] [] g e n none q 0 0 0 cq rfl rfl x (HG.out.old hx) (bs_none x) hq (by omega) (HTB.out x hx)).mono ?_
                rw [Seal.op_bad hin]
                rintro r x' ⟨p, c, m, rfl, _, _, _, hb⟩
                exact ⟨p, c, m, rfl, hb⟩
          clear he hn HO1 HO2 HKN HCE HTB Fin HG Ht HT
          go_upto_region 11 with (fail)
          refine wp_region_any (by kernel_rfl) ?_
          change wpAny _ _ _ _ _ _ _ (World.drew _)
          have BD : Hid (Below w0.heap.size w0 wr.drew) := HB.out.drew
          generalize wr.drew = z at *
          have TD := HS.out _ BD.out
          refine wpAny_of_held (S := KnS ge i k e n) _ _ _ _ ?_
          refine anyH_take 0 29 (.pointer (some ⟨g, 0, none⟩)) TD rfl (by kernel_rfl) (by kernel_rfl) (by kernel_rfl) (fun _ _ _ h => h) (by rfl) (by intro x hx; obtain ⟨y0, y1⟩ := hx; clear y0; go_simp; try (intro h; omega)) ?_
          try simp only [Act.put, List.setIfInBounds_toArray, List.set_cons_zero, List.set_cons_succ]
          refine anyH_take 1 30 (.slice (some ⟨ge, 0, none⟩) 6 6) TD rfl (by kernel_rfl) (by kernel_rfl) (by kernel_rfl) (fun _ _ _ h => h) (by rfl) (by intro x hx; obtain ⟨y0, y1⟩ := hx; clear y0; go_simp; try (intro h; omega)) ?_
          try simp only [Act.put, List.setIfInBounds_toArray, List.set_cons_zero, List.set_cons_succ]
          refine anyH_take 2 31 (.int .i64 i) TD rfl (by kernel_rfl) (by kernel_rfl) (by kernel_rfl) (fun _ _ _ h => h) (by rfl) (by intro x hx; obtain ⟨y0, y1⟩ := hx; clear y0; go_simp; try (intro h; omega)) ?_
          try simp only [Act.put, List.setIfInBounds_toArray, List.set_cons_zero, List.set_cons_succ]
          refine anyH_take 3 32 (.pointer (some ⟨ge, i, none⟩)) TD rfl (by kernel_rfl) (by kernel_rfl) (by kernel_rfl) (fun _ _ _ h => h) (by rfl) (by intro x hx; obtain ⟨y0, y1⟩ := hx; clear y0; go_simp; try (intro h; omega)) ?_
          try simp only [Act.put, List.setIfInBounds_toArray, List.set_cons_zero, List.set_cons_succ]
          refine anyH_take 4 33 (.int .i64 e) TD rfl (by kernel_rfl) (by kernel_rfl) (by kernel_rfl) (fun _ _ _ h => h) (by rfl) (by intro x hx; obtain ⟨y0, y1⟩ := hx; clear y1; go_simp; try (intro h; omega)) ?_
          try simp only [Act.put, List.setIfInBounds_toArray, List.set_cons_zero, List.set_cons_succ]
          refine anyH_take 5 34 (.slice (some ⟨ge, 0, none⟩) 6 6) TD rfl (by kernel_rfl) (by kernel_rfl) (by kernel_rfl) (fun _ _ _ h => h) (by rfl) (by intro x hx; obtain ⟨y0, y1⟩ := hx; clear y0; go_simp; try (intro h; omega)) ?_
          try simp only [Act.put, List.setIfInBounds_toArray, List.set_cons_zero, List.set_cons_succ]
          refine anyH_take 6 35 (.int .i64 k) TD rfl (by kernel_rfl) (by kernel_rfl) (by kernel_rfl) (fun _ _ _ h => h) (by rfl) (by intro x hx; obtain ⟨y0, y1⟩ := hx; clear y0; go_simp; try (intro h; omega)) ?_
          try simp only [Act.put, List.setIfInBounds_toArray, List.set_cons_zero, List.set_cons_succ]
          refine anyH_take 7 36 (.pointer (some ⟨ge, k, none⟩)) TD rfl (by kernel_rfl) (by kernel_rfl) (by kernel_rfl) (fun _ _ _ h => h) (by rfl) (by intro x hx; obtain ⟨y0, y1⟩ := hx; clear y0; go_simp; try (intro h; omega)) ?_
          try simp only [Act.put, List.setIfInBounds_toArray, List.set_cons_zero, List.set_cons_succ]
          refine anyH_take 8 37 (.int .i64 n) TD rfl (by kernel_rfl) (by kernel_rfl) (by kernel_rfl) (fun _ _ _ h => h) (by rfl) (by intro x hx; obtain ⟨y0, y1⟩ := hx; clear y0; go_simp; try (intro h; omega)) ?_
          try simp only [Act.put, List.setIfInBounds_toArray, List.set_cons_zero, List.set_cons_succ]
          refine anyH_one 9 (by kernel_rfl) ?_
          refine wpOp_step rfl (fun Kc hKc => ?_)
          go_simp
          refine (HSE.out _ BD.out).mono ?_
          rintro e9 w3 ⟨ps, cs, rfl, A3, hb9⟩
          have B3 : Hid (Below w0.heap.size w0 w3) := BD.out.trans (hb9.mono BD.out.size)
          have TE := HS.out _ B3.out
          dsimp only
          refine hKc _ _ ⟨TE, ?_⟩
          clear hKc Kc
          try simp only [Act.put, List.setIfInBounds_toArray, List.set_cons_zero, List.set_cons_succ]
          refine anyH_take 10 5 (.slice ps ms cs) TE rfl (by kernel_rfl) (by kernel_rfl) (by kernel_rfl) (fun _ _ _ h => h) (by rfl) (by intro x hx; obtain ⟨y0, y1⟩ := hx; clear y0; go_simp; try (intro h; omega)) ?_
          try simp only [Act.put, List.setIfInBounds_toArray, List.set_cons_zero, List.set_cons_succ]
          refine anyH_done (by kernel_rfl) ?_ _
          clear TE TD BD hb9
          rcases hcase with ⟨rfl, rfl, hii, hkk⟩ | ⟨rfl, rfl, hno⟩
          · rcases hii with rfl | rfl
            · rcases hkk with rfl | rfl
              · go_upto_region 15 with (fail)
                refine wp_region_any (by kernel_rfl) ?_
                change wpAny _ _ _ _ _ _ _ (World.drew _)
                have BD : Hid (Below w0.heap.size w0 w3.drew) := B3.out.drew
                have AD : Hid (Bs w3.drew ps cs SL) := A3.out.old (Below.refl _ w3).drew
                generalize w3.drew = z at *
                have TD := HS.out _ BD.out
                refine wpAny_of_held (S := KnS ge 2 2 e n) _ _ _ _ ?_
                refine anyH_take 0 68 (.pointer (some ⟨g, 0, none⟩)) TD rfl (by kernel_rfl) (by kernel_rfl) (by kernel_rfl) (fun _ _ _ h => h) (by rfl) (by intro x hx; obtain ⟨y0, y1⟩ := hx; clear y0; go_simp; try (intro h; omega)) ?_
                try simp only [Act.put, List.setIfInBounds_toArray, List.set_cons_zero, List.set_cons_succ]
                refine anyH_take 1 69 (.slice (some ⟨ge, 0, none⟩) 6 6) TD rfl (by kernel_rfl) (by kernel_rfl) (by kernel_rfl) (fun _ _ _ h => h) (by rfl) (by intro x hx; obtain ⟨y0, y1⟩ := hx; clear y0; go_simp; try (intro h; omega)) ?_
                try simp only [Act.put, List.setIfInBounds_toArray, List.set_cons_zero, List.set_cons_succ]
                refine anyH_take 2 70 (.int .i64 2) TD rfl (by kernel_rfl) (by kernel_rfl) (by kernel_rfl) (fun _ _ _ h => h) (by rfl) (by intro x hx; obtain ⟨y0, y1⟩ := hx; clear y0; go_simp; try (intro h; omega)) ?_
                try simp only [Act.put, List.setIfInBounds_toArray, List.set_cons_zero, List.set_cons_succ]
                refine anyH_take 3 71 (.pointer (some ⟨ge, 2, none⟩)) TD rfl (by kernel_rfl) (by kernel_rfl) (by kernel_rfl) (fun _ _ _ h => h) (by rfl) (by intro x hx; obtain ⟨y0, y1⟩ := hx; clear y0; go_simp; try (intro h; omega)) ?_
                try simp only [Act.put, List.setIfInBounds_toArray, List.set_cons_zero, List.set_cons_succ]
                refine anyH_take 4 72 (.int .i64 e) TD rfl (by kernel_rfl) (by kernel_rfl) (by kernel_rfl) (fun _ _ _ h => h) (by rfl) (by intro x hx; obtain ⟨y0, y1⟩ := hx; clear y1; go_simp; try (intro h; omega)) ?_
                try simp only [Act.put, List.setIfInBounds_toArray, List.set_cons_zero, List.set_cons_succ]
                refine anyH_take 5 73 (.slice (some ⟨ge, 0, none⟩) 6 6) TD rfl (by kernel_rfl) (by kernel_rfl) (by kernel_rfl) (fun _ _ _ h => h) (by rfl) (by intro x hx; obtain ⟨y0, y1⟩ := hx; clear y0; go_simp; try (intro h; omega)) ?_
                try simp only [Act.put, List.setIfInBounds_toArray, List.set_cons_zero, List.set_cons_succ]
                refine anyH_take 6 74 (.int .i64 2) TD rfl (by kernel_rfl) (by kernel_rfl) (by kernel_rfl) (fun _ _ _ h => h) (by rfl) (by intro x hx; obtain ⟨y0, y1⟩ := hx; clear y0; go_simp; try (intro h; omega)) ?_
                try simp only [Act.put, List.setIfInBounds_toArray, List.set_cons_zero, List.set_cons_succ]
                refine anyH_take 7 75 (.pointer (some ⟨ge, 2, none⟩)) TD rfl (by kernel_rfl) (by kernel_rfl) (by kernel_rfl) (fun _ _ _ h => h) (by rfl) (by intro x hx; obtain ⟨y0, y1⟩ := hx; clear y0; go_simp; try (intro h; omega)) ?_
                try simp only [Act.put, List.setIfInBounds_toArray, List.set_cons_zero, List.set_cons_succ]
                refine anyH_take 8 76 (.int .i64 n) TD rfl (by kernel_rfl) (by kernel_rfl) (by kernel_rfl) (fun _ _ _ h => h) (by rfl) (by intro x hx; obtain ⟨y0, y1⟩ := hx; clear y0; go_simp; try (intro h; omega)) ?_
                try simp only [Act.put, List.setIfInBounds_toArray, List.set_cons_zero, List.set_cons_succ]
                refine anyH_take 9 77 (.slice ps 32 cs) TD rfl (by kernel_rfl) (by kernel_rfl) (by kernel_rfl) (fun _ _ _ h => h) (by rfl) (by intro x hx; obtain ⟨y0, y1⟩ := hx; clear y0; go_simp; try (intro h; omega)) ?_
                try simp only [Act.put, List.setIfInBounds_toArray, List.set_cons_zero, List.set_cons_succ]
                refine anyH_one 10 (by kernel_rfl) ?_
                refine wpOp_step rfl (fun Kc hKc => ?_)
                go_simp
                refine (HOP.out _ _ _ BD.out AD.out).mono ?_
                rintro e9 w4 ⟨po, co, mo, rfl, hb9⟩
                have B4 : Hid (Below w0.heap.size w0 w4) := BD.out.trans (hb9.mono BD.out.size)
                have TE := HS.out _ B4.out
                dsimp only
                refine hKc _ _ ⟨TE, ?_⟩
                clear hKc Kc
                try simp only [Act.put, List.setIfInBounds_toArray, List.set_cons_zero, List.set_cons_succ]
                refine anyH_take 11 67 (.tuple #[.slice po mo co, .bool true]) TE rfl (by kernel_rfl) (by kernel_rfl) (by kernel_rfl) (fun _ _ _ h => h) (by rfl) (by intro x hx; obtain ⟨y0, y1⟩ := hx; clear y0; go_simp; try (intro h; omega)) ?_
                try simp only [Act.put, List.setIfInBounds_toArray, List.set_cons_zero, List.set_cons_succ]
                refine anyH_take 12 79 (.slice po mo co) TE rfl (by kernel_rfl) (by kernel_rfl) (by kernel_rfl) (fun _ _ _ h => h) (by rfl) (by intro x hx; obtain ⟨y0, y1⟩ := hx; clear y0; go_simp; try (intro h; omega)) ?_
                try simp only [Act.put, List.setIfInBounds_toArray, List.set_cons_zero, List.set_cons_succ]
                refine anyH_take 13 80 (.bool true) TE rfl (by kernel_rfl) (by kernel_rfl) (by kernel_rfl) (fun _ _ _ h => h) (by rfl) (by intro x hx; obtain ⟨y0, y1⟩ := hx; clear y0; go_simp; try (intro h; omega)) ?_
                try simp only [Act.put, List.setIfInBounds_toArray, List.set_cons_zero, List.set_cons_succ]
                refine anyH_take 14 7 (.slice po mo co) TE rfl (by kernel_rfl) (by kernel_rfl) (by kernel_rfl) (fun _ _ _ h => h) (by rfl) (by intro x hx; obtain ⟨y0, y1⟩ := hx; clear y0; go_simp; try (intro h; omega)) ?_
                try simp only [Act.put, List.setIfInBounds_toArray, List.set_cons_zero, List.set_cons_succ]
                refine anyH_take 15 8 (.bool true) TE rfl (by kernel_rfl) (by kernel_rfl) (by kernel_rfl) (fun _ _ _ h => h) (by rfl) (by intro x hx; obtain ⟨y0, y1⟩ := hx; clear y0; go_simp; try (intro h; omega)) ?_
                try simp only [Act.put, List.setIfInBounds_toArray, List.set_cons_zero, List.set_cons_succ]
                refine anyH_done (by kernel_rfl) ?_ _
                clear TE TD BD AD hb9
                go_wp2
                first
                  | exact ⟨⟨2 + 1, by omega, by go_num, B4.out⟩, by simp [intOf]; omega⟩
                  | ((try simp only [Int.natCast_ofNat]); (try go_simp); first | exact ⟨⟨2 + 1, by omega, by omega⟩, by simp [intOf] <;> omega⟩ | exact ⟨⟨2 + 1, by omega, rfl⟩, by simp [intOf] <;> omega⟩ | exact ⟨⟨2 + 1, by omega, by omega, B4.out⟩, by simp [intOf]; omega⟩)
              · go_upto_region 15 with (fail)
                refine wp_region_any (by kernel_rfl) ?_
                change wpAny _ _ _ _ _ _ _ (World.drew _)
                have BD : Hid (Below w0.heap.size w0 w3.drew) := B3.out.drew
                have AD : Hid (Bs w3.drew ps cs SL) := A3.out.old (Below.refl _ w3).drew
                generalize w3.drew = z at *
                have TD := HS.out _ BD.out
                refine wpAny_of_held (S := KnS ge 2 3 e n) _ _ _ _ ?_
                refine anyH_take 0 68 (.pointer (some ⟨g, 0, none⟩)) TD rfl (by kernel_rfl) (by kernel_rfl) (by kernel_rfl) (fun _ _ _ h => h) (by rfl) (by intro x hx; obtain ⟨y0, y1⟩ := hx; clear y0; go_simp; try (intro h; omega)) ?_
                try simp only [Act.put, List.setIfInBounds_toArray, List.set_cons_zero, List.set_cons_succ]
                refine anyH_take 1 69 (.slice (some ⟨ge, 0, none⟩) 6 6) TD rfl (by kernel_rfl) (by kernel_rfl) (by kernel_rfl) (fun _ _ _ h => h) (by rfl) (by intro x hx; obtain ⟨y0, y1⟩ := hx; clear y0; go_simp; try (intro h; omega)) ?_
                try simp only [Act.put, List.setIfInBounds_toArray, List.set_cons_zero, List.set_cons_succ]
                refine anyH_take 2 70 (.int .i64 2) TD rfl (by kernel_rfl) (by kernel_rfl) (by kernel_rfl) (fun _ _ _ h => h) (by rfl) (by intro x hx; obtain ⟨y0, y1⟩ := hx; clear y0; go_simp; try (intro h; omega)) ?_
                try simp only [Act.put, List.setIfInBounds_toArray, List.set_cons_zero, List.set_cons_succ]
                refine anyH_take 3 71 (.pointer (some ⟨ge, 2, none⟩)) TD rfl (by kernel_rfl) (by kernel_rfl) (by kernel_rfl) (fun _ _ _ h => h) (by rfl) (by intro x hx; obtain ⟨y0, y1⟩ := hx; clear y0; go_simp; try (intro h; omega)) ?_
                try simp only [Act.put, List.setIfInBounds_toArray, List.set_cons_zero, List.set_cons_succ]
                refine anyH_take 4 72 (.int .i64 e) TD rfl (by kernel_rfl) (by kernel_rfl) (by kernel_rfl) (fun _ _ _ h => h) (by rfl) (by intro x hx; obtain ⟨y0, y1⟩ := hx; clear y1; go_simp; try (intro h; omega)) ?_
                try simp only [Act.put, List.setIfInBounds_toArray, List.set_cons_zero, List.set_cons_succ]
                refine anyH_take 5 73 (.slice (some ⟨ge, 0, none⟩) 6 6) TD rfl (by kernel_rfl) (by kernel_rfl) (by kernel_rfl) (fun _ _ _ h => h) (by rfl) (by intro x hx; obtain ⟨y0, y1⟩ := hx; clear y0; go_simp; try (intro h; omega)) ?_
                try simp only [Act.put, List.setIfInBounds_toArray, List.set_cons_zero, List.set_cons_succ]
                refine anyH_take 6 74 (.int .i64 3) TD rfl (by kernel_rfl) (by kernel_rfl) (by kernel_rfl) (fun _ _ _ h => h) (by rfl) (by intro x hx; obtain ⟨y0, y1⟩ := hx; clear y0; go_simp; try (intro h; omega)) ?_
                try simp only [Act.put, List.setIfInBounds_toArray, List.set_cons_zero, List.set_cons_succ]
                refine anyH_take 7 75 (.pointer (some ⟨ge, 3, none⟩)) TD rfl (by kernel_rfl) (by kernel_rfl) (by kernel_rfl) (fun _ _ _ h => h) (by rfl) (by intro x hx; obtain ⟨y0, y1⟩ := hx; clear y0; go_simp; try (intro h; omega)) ?_
                try simp only [Act.put, List.setIfInBounds_toArray, List.set_cons_zero, List.set_cons_succ]
                refine anyH_take 8 76 (.int .i64 n) TD rfl (by kernel_rfl) (by kernel_rfl) (by kernel_rfl) (fun _ _ _ h => h) (by rfl) (by intro x hx; obtain ⟨y0, y1⟩ := hx; clear y0; go_simp; try (intro h; omega)) ?_
                try simp only [Act.put, List.setIfInBounds_toArray, List.set_cons_zero, List.set_cons_succ]
                refine anyH_take 9 77 (.slice ps 32 cs) TD rfl (by kernel_rfl) (by kernel_rfl) (by kernel_rfl) (fun _ _ _ h => h) (by rfl) (by intro x hx; obtain ⟨y0, y1⟩ := hx; clear y0; go_simp; try (intro h; omega)) ?_
                try simp only [Act.put, List.setIfInBounds_toArray, List.set_cons_zero, List.set_cons_succ]
                refine anyH_one 10 (by kernel_rfl) ?_
                refine wpOp_step rfl (fun Kc hKc => ?_)
                go_simp
                refine (HOP.out _ _ _ BD.out AD.out).mono ?_
                rintro e9 w4 ⟨po, co, mo, rfl, hb9⟩
                have B4 : Hid (Below w0.heap.size w0 w4) := BD.out.trans (hb9.mono BD.out.size)
                have TE := HS.out _ B4.out
                dsimp only
                refine hKc _ _ ⟨TE, ?_⟩
                clear hKc Kc
                try simp only [Act.put, List.setIfInBounds_toArray, List.set_cons_zero, List.set_cons_succ]
                refine anyH_take 11 67 (.tuple #[.slice po mo co, .bool true]) TE rfl (by kernel_rfl) (by kernel_rfl) (by kernel_rfl) (fun _ _ _ h => h) (by rfl) (by intro x hx; obtain ⟨y0, y1⟩ := hx; clear y0; go_simp; try (intro h; omega)) ?_
                try simp only [Act.put, List.setIfInBounds_toArray, List.set_cons_zero, List.set_cons_succ]
                refine anyH_take 12 79 (.slice po mo co) TE rfl (by kernel_rfl) (by kernel_rfl) (by kernel_rfl) (fun _ _ _ h => h) (by rfl) (by intro x hx; obtain ⟨y0, y1⟩ := hx; clear y0; go_simp; try (intro h; omega)) ?_
                try simp only [Act.put, List.setIfInBounds_toArray, List.set_cons_zero, List.set_cons_succ]
                refine anyH_take 13 80 (.bool true) TE rfl (by kernel_rfl) (by kernel_rfl) (by kernel_rfl) (fun _ _ _ h => h) (by rfl) (by intro x hx; obtain ⟨y0, y1⟩ := hx; clear y0; go_simp; try (intro h; omega)) ?_
                try simp only [Act.put, List.setIfInBounds_toArray, List.set_cons_zero, List.set_cons_succ]
                refine anyH_take 14 7 (.slice po mo co) TE rfl (by kernel_rfl) (by kernel_rfl) (by kernel_rfl) (fun _ _ _ h => h) (by rfl) (by intro x hx; obtain ⟨y0, y1⟩ := hx; clear y0; go_simp; try (intro h; omega)) ?_
                try simp only [Act.put, List.setIfInBounds_toArray, List.set_cons_zero, List.set_cons_succ]
                refine anyH_take 15 8 (.bool true) TE rfl (by kernel_rfl) (by kernel_rfl) (by kernel_rfl) (fun _ _ _ h => h) (by rfl) (by intro x hx; obtain ⟨y0, y1⟩ := hx; clear y0; go_simp; try (intro h; omega)) ?_
                try simp only [Act.put, List.setIfInBounds_toArray, List.set_cons_zero, List.set_cons_succ]
                refine anyH_done (by kernel_rfl) ?_ _
                clear TE TD BD AD hb9
                go_wp2
                first
                  | exact ⟨⟨3 + 1, by omega, by go_num, B4.out⟩, by simp [intOf]; omega⟩
                  | ((try simp only [Int.natCast_ofNat]); (try go_simp); first | exact ⟨⟨3 + 1, by omega, by omega⟩, by simp [intOf] <;> omega⟩ | exact ⟨⟨3 + 1, by omega, rfl⟩, by simp [intOf] <;> omega⟩ | exact ⟨⟨3 + 1, by omega, by omega, B4.out⟩, by simp [intOf]; omega⟩)
            · rcases hkk with rfl | rfl
              · go_upto_region 15 with (fail)
                refine wp_region_any (by kernel_rfl) ?_
                change wpAny _ _ _ _ _ _ _ (World.drew _)
                have BD : Hid (Below w0.heap.size w0 w3.drew) := B3.out.drew
                have AD : Hid (Bs w3.drew ps cs SL) := A3.out.old (Below.refl _ w3).drew
                generalize w3.drew = z at *
                have TD := HS.out _ BD.out
                refine wpAny_of_held (S := KnS ge 3 2 e n) _ _ _ _ ?_
                refine anyH_take 0 68 (.pointer (some ⟨g, 0, none⟩)) TD rfl (by kernel_rfl) (by kernel_rfl) (by kernel_rfl) (fun _ _ _ h => h) (by rfl) (by intro x hx; obtain ⟨y0, y1⟩ := hx; clear y0; go_simp; try (intro h; omega)) ?_
                try simp only [Act.put, List.setIfInBounds_toArray, List.set_cons_zero, List.set_cons_succ]
                refine anyH_take 1 69 (.slice (some ⟨ge, 0, none⟩) 6 6) TD rfl (by kernel_rfl) (by kernel_rfl) (by kernel_rfl) (fun _ _ _ h => h) (by rfl) (by intro x hx; obtain ⟨y0, y1⟩ := hx; clear y0; go_simp; try (intro h; omega)) ?_
                try simp only [Act.put, List.setIfInBounds_toArray, List.set_cons_zero, List.set_cons_succ]
                refine anyH_take 2 70 (.int .i64 3) TD rfl (by kernel_rfl) (by kernel_rfl) (by kernel_rfl) (fun _ _ _ h => h) (by rfl) (by intro x hx; obtain ⟨y0, y1⟩ := hx; clear y0; go_simp; try (intro h; omega)) ?_
                try simp only [Act.put, List.setIfInBounds_toArray, List.set_cons_zero, List.set_cons_succ]
                refine anyH_take 3 71 (.pointer (some ⟨ge, 3, none⟩)) TD rfl (by kernel_rfl) (by kernel_rfl) (by kernel_rfl) (fun _ _ _ h => h) (by rfl) (by intro x hx; obtain ⟨y0, y1⟩ := hx; clear y0; go_simp; try (intro h; omega)) ?_
                try simp only [Act.put, List.setIfInBounds_toArray, List.set_cons_zero, List.set_cons_succ]
                refine anyH_take 4 72 (.int .i64 e) TD rfl (by kernel_rfl) (by kernel_rfl) (by kernel_rfl) (fun _ _ _ h => h) (by rfl) (by intro x hx; obtain ⟨y0, y1⟩ := hx; clear y1; go_simp; try (intro h; omega)) ?_
                try simp only [Act.put, List.setIfInBounds_toArray, List.set_cons_zero, List.set_cons_succ]
                refine anyH_take 5 73 (.slice (some ⟨ge, 0, none⟩) 6 6) TD rfl (by kernel_rfl) (by kernel_rfl) (by kernel_rfl) (fun _ _ _ h => h) (by rfl) (by intro x hx; obtain ⟨y0, y1⟩ := hx; clear y0; go_simp; try (intro h; omega)) ?_
                try simp only [Act.put, List.setIfInBounds_toArray, List.set_cons_zero, List.set_cons_succ]
                refine anyH_take 6 74 (.int .i64 2) TD rfl (by kernel_rfl) (by kernel_rfl) (by kernel_rfl) (fun _ _ _ h => h) (by rfl) (by intro x hx; obtain ⟨y0, y1⟩ := hx; clear y0; go_simp; try (intro h; omega)) ?_
                try simp only [Act.put, List.setIfInBounds_toArray, List.set_cons_zero, List.set_cons_succ]
                refine anyH_take 7 75 (.pointer (some ⟨ge, 2, none⟩)) TD rfl (by kernel_rfl) (by kernel_rfl) (by kernel_rfl) (fun _ _ _ h => h) (by rfl) (by intro x hx; obtain ⟨y0, y1⟩ := hx; clear y0; go_simp; try (intro h; omega)) ?_
                try simp only [Act.put, List.setIfInBounds_toArray, List.set_cons_zero, List.set_cons_succ]
                refine anyH_take 8 76 (.int .i64 n) TD rfl (by kernel_rfl) (by kernel_rfl) (by kernel_rfl) (fun _ _ _ h => h) (by rfl) (by intro x hx; obtain ⟨y0, y1⟩ := hx; clear y0; go_simp; try (intro h; omega)) ?_
                try simp only [Act.put, List.setIfInBounds_toArray, List.set_cons_zero, List.set_cons_succ]
                refine anyH_take 9 77 (.slice ps 32 cs) TD rfl (by kernel_rfl) (by kernel_rfl) (by kernel_rfl) (fun _ _ _ h => h) (by rfl) (by intro x hx; obtain ⟨y0, y1⟩ := hx; clear y0; go_simp; try (intro h; omega)) ?_
                try simp only [Act.put, List.setIfInBounds_toArray, List.set_cons_zero, List.set_cons_succ]
                refine anyH_one 10 (by kernel_rfl) ?_
                refine wpOp_step rfl (fun Kc hKc => ?_)
                go_simp
                refine (HOP.out _ _ _ BD.out AD.out).mono ?_
                rintro e9 w4 ⟨po, co, mo, rfl, hb9⟩
                have B4 : Hid (Below w0.heap.size w0 w4) := BD.out.trans (hb9.mono BD.out.size)
                have TE := HS.out _ B4.out
                dsimp only
                refine hKc _ _ ⟨TE, ?_⟩
                clear hKc Kc
                try simp only [Act.put, List.setIfInBounds_toArray, List.set_cons_zero, List.set_cons_succ]
                refine anyH_take 11 67 (.tuple #[.slice po mo co, .bool true]) TE rfl (by kernel_rfl) (by kernel_rfl) (by kernel_rfl) (fun _ _ _ h => h) (by rfl) (by intro x hx; obtain ⟨y0, y1⟩ := hx; clear y0; go_simp; try (intro h; omega)) ?_
                try simp only [Act.put, List.setIfInBounds_toArray, List.set_cons_zero, List.set_cons_succ]
                refine anyH_take 12 79 (.slice po mo co) TE rfl (by kernel_rfl) (by kernel_rfl) (by kernel_rfl) (fun _ _ _ h => h) (by rfl) (by intro x hx; obtain ⟨y0, y1⟩ := hx; clear y0; go_simp; try (intro h; omega)) ?_
                try simp only [Act.put, List.setIfInBounds_toArray, List.set_cons_zero, List.set_cons_succ]
                refine anyH_take 13 80 (.bool true) TE rfl (by kernel_rfl) (by kernel_rfl) (by kernel_rfl) (fun _ _ _ h => h) (by rfl) (by intro x hx; obtain ⟨y0, y1⟩ := hx; clear y0; go_simp; try (intro h; omega)) ?_
                try simp only [Act.put, List.setIfInBounds_toArray, List.set_cons_zero, List.set_cons_succ]
                refine anyH_take 14 7 (.slice po mo co) TE rfl (by kernel_rfl) (by kernel_rfl) (by kernel_rfl) (fun _ _ _ h => h) (by rfl) (by intro x hx; obtain ⟨y0, y1⟩ := hx; clear y0; go_simp; try (intro h; omega)) ?_
                try simp only [Act.put, List.setIfInBounds_toArray, List.set_cons_zero, List.set_cons_succ]
                refine anyH_take 15 8 (.bool true) TE rfl (by kernel_rfl) (by kernel_rfl) (by kernel_rfl) (fun _ _ _ h => h) (by rfl) (by intro x hx; obtain ⟨y0, y1⟩ := hx; clear y0; go_simp; try (intro h; omega)) ?_
                try simp only [Act.put, List.setIfInBounds_toArray, List.set_cons_zero, List.set_cons_succ]
                refine anyH_done (by kernel_rfl) ?_ _
                clear TE TD BD AD hb9
                go_wp2
                first
                  | exact ⟨⟨2 + 1, by omega, by go_num, B4.out⟩, by simp [intOf]; omega⟩
                  | ((try simp only [Int.natCast_ofNat]); (try go_simp); first | exact ⟨⟨2 + 1, by omega, by omega⟩, by simp [intOf] <;> omega⟩ | exact ⟨⟨2 + 1, by omega, rfl⟩, by simp [intOf] <;> omega⟩ | exact ⟨⟨2 + 1, by omega, by omega, B4.out⟩, by simp [intOf]; omega⟩)
              · go_upto_region 15 with (fail)
                refine wp_region_any (by kernel_rfl) ?_
                change wpAny _ _ _ _ _ _ _ (World.drew _)
                have BD : Hid (Below w0.heap.size w0 w3.drew) := B3.out.drew
                have AD : Hid (Bs w3.drew ps cs SL) := A3.out.old (Below.refl _ w3).drew
                generalize w3.drew = z at *
                have TD := HS.out _ BD.out
                refine wpAny_of_held (S := KnS ge 3 3 e n) _ _ _ _ ?_
                refine anyH_take 0 68 (.pointer (some ⟨g, 0, none⟩)) TD rfl (by kernel_rfl) (by kernel_rfl) (by kernel_rfl) (fun _ _ _ h => h) (by rfl) (by intro x hx; obtain ⟨y0, y1⟩ := hx; clear y0; go_simp; try (intro h; omega)) ?_
                try simp only [Act.put, List.setIfInBounds_toArray, List.set_cons_zero, List.set_cons_succ]
                refine anyH_take 1 69 (.slice (some ⟨ge, 0, none⟩) 6 6) TD rfl (by kernel_rfl) (by kernel_rfl) (by kernel_rfl) (fun _ _ _ h => h) (by rfl) (by intro x hx; obtain ⟨y0, y1⟩ := hx; clear y0; go_simp; try (intro h; omega)) ?_
                try simp only [Act.put, List.setIfInBounds_toArray, List.set_cons_zero, List.set_cons_succ]
                refine anyH_take 2 70 (.int .i64 3) TD rfl (by kernel_rfl) (by kernel_rfl) (by kernel_rfl) (fun _ _ _ h => h) (by rfl) (by intro x hx; obtain ⟨y0, y1⟩ := hx; clear y0; go_simp; try (intro h; omega)) ?_
                try simp only [Act.put, List.setIfInBounds_toArray, List.set_cons_zero, List.set_cons_succ]
                refine anyH_take 3 71 (.pointer (some ⟨ge, 3, none⟩)) TD rfl (by kernel_rfl) (by kernel_rfl) (by kernel_rfl) (fun _ _ _ h => h) (by rfl) (by intro x hx; obtain ⟨y0, y1⟩ := hx; clear y0; go_simp; try (intro h; omega)) ?_
                try simp only [Act.put, List.setIfInBounds_toArray, List.set_cons_zero, List.set_cons_succ]
                refine anyH_take 4 72 (.int .i64 e) TD rfl (by kernel_rfl) (by kernel_rfl) (by kernel_rfl) (fun _ _ _ h => h) (by rfl) (by intro x hx; obtain ⟨y0, y1⟩ := hx; clear y1; go_simp; try (intro h; omega)) ?_
                try simp only [Act.put, List.setIfInBounds_toArray, List.set_cons_zero, List.set_cons_succ]
                refine anyH_take 5 73 (.slice (some ⟨ge, 0, none⟩) 6 6) TD rfl (by kernel_rfl) (by kernel_rfl) (by kernel_rfl) (fun _ _ _ h => h) (by rfl) (by intro x hx; obtain ⟨y0, y1⟩ := hx; clear y0; go_simp; try (intro h; omega)) ?_
                try simp only [Act.put, List.setIfInBounds_toArray, List.set_cons_zero, List.set_cons_succ]
                refine anyH_take 6 74 (.int .i64 3) TD rfl (by kernel_rfl) (by kernel_rfl) (by kernel_rfl) (fun _ _ _ h => h) (by rfl) (by intro x hx; obtain ⟨y0, y1⟩ := hx; clear y0; go_simp; try (intro h; omega)) ?_
                try simp only [Act.put, List.setIfInBounds_toArray, List.set_cons_zero, List.set_cons_succ]
                refine anyH_take 7 75 (.pointer (some ⟨ge, 3, none⟩)) TD rfl (by kernel_rfl) (by kernel_rfl) (by kernel_rfl) (fun _ _ _ h => h) (by rfl) (by intro x hx; obtain ⟨y0, y1⟩ := hx; clear y0; go_simp; try (intro h; omega)) ?_
                try simp only [Act.put, List.setIfInBounds_toArray, List.set_cons_zero, List.set_cons_succ]
                refine anyH_take 8 76 (.int .i64 n) TD rfl (by kernel_rfl) (by kernel_rfl) (by kernel_rfl) (fun _ _ _ h => h) (by rfl) (by intro x hx; obtain ⟨y0, y1⟩ := hx; clear y0; go_simp; try (intro h; omega)) ?_
                try simp only [Act.put, List.setIfInBounds_toArray, List.set_cons_zero, List.set_cons_succ]
                refine anyH_take 9 77 (.slice ps 32 cs) TD rfl (by kernel_rfl) (by kernel_rfl) (by kernel_rfl) (fun _ _ _ h => h) (by rfl) (by intro x hx; obtain ⟨y0, y1⟩ := hx; clear y0; go_simp; try (intro h; omega)) ?_
                try simp only [Act.put, List.setIfInBounds_toArray, List.set_cons_zero, List.set_cons_succ]
                refine anyH_one 10 (by kernel_rfl) ?_
                refine wpOp_step rfl (fun Kc hKc => ?_)
                go_simp
                refine (HOP.out _ _ _ BD.out AD.out).mono ?_
                rintro e9 w4 ⟨po, co, mo, rfl, hb9⟩
                have B4 : Hid (Below w0.heap.size w0 w4) := BD.out.trans (hb9.mono BD.out.size)
                have TE := HS.out _ B4.out
                dsimp only
                refine hKc _ _ ⟨TE, ?_⟩
                clear hKc Kc
                try simp only [Act.put, List.setIfInBounds_toArray, List.set_cons_zero, List.set_cons_succ]
                refine anyH_take 11 67 (.tuple #[.slice po mo co, .bool true]) TE rfl (by kernel_rfl) (by kernel_rfl) (by kernel_rfl) (fun _ _ _ h => h) (by rfl) (by intro x hx; obtain ⟨y0, y1⟩ := hx; clear y0; go_simp; try (intro h; omega)) ?_
                try simp only [Act.put, List.setIfInBounds_toArray, List.set_cons_zero, List.set_cons_succ]
                refine anyH_take 12 79 (.slice po mo co) TE rfl (by kernel_rfl) (by kernel_rfl) (by kernel_rfl) (fun _ _ _ h => h) (by rfl) (by intro x hx; obtain ⟨y0, y1⟩ := hx; clear y0; go_simp; try (intro h; omega)) ?_
                try simp only [Act.put, List.setIfInBounds_toArray, List.set_cons_zero, List.set_cons_succ]
                refine anyH_take 13 80 (.bool true) TE rfl (by kernel_rfl) (by kernel_rfl) (by kernel_rfl) (fun _ _ _ h => h) (by rfl) (by intro x hx; obtain ⟨y0, y1⟩ := hx; clear y0; go_simp; try (intro h; omega)) ?_
                try simp only [Act.put, List.setIfInBounds_toArray, List.set_cons_zero, List.set_cons_succ]
                refine anyH_take 14 7 (.slice po mo co) TE rfl (by kernel_rfl) (by kernel_rfl) (by kernel_rfl) (fun _ _ _ h => h) (by rfl) (by intro x hx; obtain ⟨y0, y1⟩ := hx; clear y0; go_simp; try (intro h; omega)) ?_
                try simp only [Act.put, List.setIfInBounds_toArray, List.set_cons_zero, List.set_cons_succ]
                refine anyH_take 15 8 (.bool true) TE rfl (by kernel_rfl) (by kernel_rfl) (by kernel_rfl) (fun _ _ _ h => h) (by rfl) (by intro x hx; obtain ⟨y0, y1⟩ := hx; clear y0; go_simp; try (intro h; omega)) ?_
                try simp only [Act.put, List.setIfInBounds_toArray, List.set_cons_zero, List.set_cons_succ]
                refine anyH_done (by kernel_rfl) ?_ _
                clear TE TD BD AD hb9
                go_wp2
                first
                  | exact ⟨⟨3 + 1, by omega, by go_num, B4.out⟩, by simp [intOf]; omega⟩
                  | ((try simp only [Int.natCast_ofNat]); (try go_simp); first | exact ⟨⟨3 + 1, by omega, by omega⟩, by simp [intOf] <;> omega⟩ | exact ⟨⟨3 + 1, by omega, rfl⟩, by simp [intOf] <;> omega⟩ | exact ⟨⟨3 + 1, by omega, by omega, B4.out⟩, by simp [intOf]; omega⟩)
          · by_cases hii : i = 2 ∨ i = 3
            · have hk2 : ((k : Int) == 2) = false := beq_eq_false_iff_ne.2 (by omega)
              have hk3 : ((k : Int) == 3) = false := beq_eq_false_iff_ne.2 (by omega)
              clear hno
              rcases hii with rfl | rfl
              · go_upto_region 15 with (fail)
                refine wp_region_any (by kernel_rfl) ?_
                change wpAny _ _ _ _ _ _ _ (World.drew _)
                have BD : Hid (Below w0.heap.size w0 w3.drew) := B3.out.drew
                have AD : Hid (Bs w3.drew ps cs SL) := A3.out.old (Below.refl _ w3).drew
                generalize w3.drew = z at *
                have TD := HS.out _ BD.out
                refine wpAny_of_held (S := KnS ge 2 k e n) _ _ _ _ ?_
                refine anyH_take 0 68 (.pointer (some ⟨g, 0, none⟩)) TD rfl (by kernel_rfl) (by kernel_rfl) (by kernel_rfl) (fun _ _ _ h => h) (by rfl) (by intro x hx; obtain ⟨y0, y1⟩ := hx; clear y0; go_simp; try (intro h; omega)) ?_
                try simp only [Act.put, List.setIfInBounds_toArray, List.set_cons_zero, List.set_cons_succ]
                refine anyH_take 1 69 (.slice (some ⟨ge, 0, none⟩) 6 6) TD rfl (by kernel_rfl) (by kernel_rfl) (by kernel_rfl) (fun _ _ _ h => h) (by rfl) (by intro x hx; obtain ⟨y0, y1⟩ := hx; clear y0; go_simp; try (intro h; omega)) ?_
                try simp only [Act.put, List.setIfInBounds_toArray, List.set_cons_zero, List.set_cons_succ]
                refine anyH_take 2 70 (.int .i64 2) TD rfl (by kernel_rfl) (by kernel_rfl) (by kernel_rfl) (fun _ _ _ h => h) (by rfl) (by intro x hx; obtain ⟨y0, y1⟩ := hx; clear y0; go_simp; try (intro h; omega)) ?_
                try simp only [Act.put, List.setIfInBounds_toArray, List.set_cons_zero, List.set_cons_succ]
                refine anyH_take 3 71 (.pointer (some ⟨ge, 2, none⟩)) TD rfl (by kernel_rfl) (by kernel_rfl) (by kernel_rfl) (fun _ _ _ h => h) (by rfl) (by intro x hx; obtain ⟨y0, y1⟩ := hx; clear y0; go_simp; try (intro h; omega)) ?_
                try simp only [Act.put, List.setIfInBounds_toArray, List.set_cons_zero, List.set_cons_succ]
                refine anyH_take 4 72 (.int .i64 e) TD rfl (by kernel_rfl) (by kernel_rfl) (by kernel_rfl) (fun _ _ _ h => h) (by rfl) (by intro x hx; obtain ⟨y0, y1⟩ := hx; clear y1; go_simp; try (intro h; omega)) ?_
                try simp only [Act.put, List.setIfInBounds_toArray, List.set_cons_zero, List.set_cons_succ]
                refine anyH_take 5 73 (.slice (some ⟨ge, 0, none⟩) 6 6) TD rfl (by kernel_rfl) (by kernel_rfl) (by kernel_rfl) (fun _ _ _ h => h) (by rfl) (by intro x hx; obtain ⟨y0, y1⟩ := hx; clear y0; go_simp; try (intro h; omega)) ?_
                try simp only [Act.put, List.setIfInBounds_toArray, List.set_cons_zero, List.set_cons_succ]
                refine anyH_take 6 74 (.int .i64 k) TD rfl (by kernel_rfl) (by kernel_rfl) (by kernel_rfl) (fun _ _ _ h => h) (by rfl) (by intro x hx; obtain ⟨y0, y1⟩ := hx; clear y0; go_simp; try (intro h; omega)) ?_
                try simp only [Act.put, List.setIfInBounds_toArray, List.set_cons_zero, List.set_cons_succ]
                refine anyH_take 7 75 (.pointer (some ⟨ge, k, none⟩)) TD rfl (by kernel_rfl) (by kernel_rfl) (by kernel_rfl) (fun _ _ _ h => h) (by rfl) (by intro x hx; obtain ⟨y0, y1⟩ := hx; clear y0; go_simp; try (intro h; omega)) ?_
                try simp only [Act.put, List.setIfInBounds_toArray, List.set_cons_zero, List.set_cons_succ]
                refine anyH_take 8 76 (.int .i64 n) TD rfl (by kernel_rfl) (by kernel_rfl) (by kernel_rfl) (fun _ _ _ h => h) (by rfl) (by intro x hx; obtain ⟨y0, y1⟩ := hx; clear y0; go_simp; try (intro h; omega)) ?_
                try simp only [Act.put, List.setIfInBounds_toArray, List.set_cons_zero, List.set_cons_succ]
                refine anyH_take 9 77 (.slice ps 0 cs) TD rfl (by kernel_rfl) (by kernel_rfl) (by kernel_rfl) (fun _ _ _ h => h) (by rfl) (by intro x hx; obtain ⟨y0, y1⟩ := hx; clear y0; go_simp; try (intro h; omega)) ?_
                try simp only [Act.put, List.setIfInBounds_toArray, List.set_cons_zero, List.set_cons_succ]
                refine anyH_one 10 (by kernel_rfl) ?_
                refine wpOp_step rfl (fun Kc hKc => ?_)
                go_simp
                refine (HOP.out _ _ _ BD.out AD.out).mono ?_
                rintro e9 w4 ⟨po, co, mo, rfl, hb9⟩
                have B4 : Hid (Below w0.heap.size w0 w4) := BD.out.trans (hb9.mono BD.out.size)
                have TE := HS.out _ B4.out
                dsimp only
                refine hKc _ _ ⟨TE, ?_⟩
                clear hKc Kc
                try simp only [Act.put, List.setIfInBounds_toArray, List.set_cons_zero, List.set_cons_succ]
                refine anyH_take 11 67 (.tuple #[.slice po mo co, .bool false]) TE rfl (by kernel_rfl) (by kernel_rfl) (by kernel_rfl) (fun _ _ _ h => h) (by rfl) (by intro x hx; obtain ⟨y0, y1⟩ := hx; clear y0; go_simp; try (intro h; omega)) ?_
                try simp only [Act.put, List.setIfInBounds_toArray, List.set_cons_zero, List.set_cons_succ]
                refine anyH_take 12 79 (.slice po mo co) TE rfl (by kernel_rfl) (by kernel_rfl) (by kernel_rfl) (fun _ _ _ h => h) (by rfl) (by intro x hx; obtain ⟨y0, y1⟩ := hx; clear y0; go_simp; try (intro h; omega)) ?_
                try simp only [Act.put, List.setIfInBounds_toArray, List.set_cons_zero, List.set_cons_succ]
                refine anyH_take 13 80 (.bool false) TE rfl (by kernel_rfl) (by kernel_rfl) (by kernel_rfl) (fun _ _ _ h => h) (by rfl) (by intro x hx; obtain ⟨y0, y1⟩ := hx; clear y0; go_simp; try (intro h; omega)) ?_
                try simp only [Act.put, List.setIfInBounds_toArray, List.set_cons_zero, List.set_cons_succ]
                refine anyH_take 14 7 (.slice po mo co) TE rfl (by kernel_rfl) (by kernel_rfl) (by kernel_rfl) (fun _ _ _ h => h) (by rfl) (by intro x hx; obtain ⟨y0, y1⟩ := hx; clear y0; go_simp; try (intro h; omega)) ?_
                try simp only [Act.put, List.setIfInBounds_toArray, List.set_cons_zero, List.set_cons_succ]
                refine anyH_take 15 8 (.bool false) TE rfl (by kernel_rfl) (by kernel_rfl) (by kernel_rfl) (fun _ _ _ h => h) (by rfl) (by intro x hx; obtain ⟨y0, y1⟩ := hx; clear y0; go_simp; try (intro h; omega)) ?_
                try simp only [Act.put, List.setIfInBounds_toArray, List.set_cons_zero, List.set_cons_succ]
                refine anyH_done (by kernel_rfl) ?_ _
                clear TE TD BD AD hb9
                go_wp2
                first
                  | exact ⟨⟨k + 1, by omega, by go_num, B4.out⟩, by simp [intOf]; omega⟩
                  | ((try simp only [Int.natCast_ofNat]); (try go_simp); first | exact ⟨⟨k + 1, by omega, by omega⟩, by simp [intOf] <;> omega⟩ | exact ⟨⟨k + 1, by omega, rfl⟩, by simp [intOf] <;> omega⟩ | exact ⟨⟨k + 1, by omega, by omega, B4.out⟩, by simp [intOf]; omega⟩)
              · go_upto_region 15 with (fail)
                refine wp_region_any (by kernel_rfl) ?_
                change wpAny _ _ _ _ _ _ _ (World.drew _)
                have BD : Hid (Below w0.heap.size w0 w3.drew) := B3.out.drew
                have AD : Hid (Bs w3.drew ps cs SL) := A3.out.old (Below.refl _ w3).drew
                generalize w3.drew = z at *
                have TD := HS.out _ BD.out
                refine wpAny_of_held (S := KnS ge 3 k e n) _ _ _ _ ?_
                refine anyH_take 0 68 (.pointer (some ⟨g, 0, none⟩)) TD rfl (by kernel_rfl) (by kernel_rfl) (by kernel_rfl) (fun _ _ _ h => h) (by rfl) (by intro x hx; obtain ⟨y0, y1⟩ := hx; clear y0; go_simp; try (intro h; omega)) ?_
                try simp only [Act.put, List.setIfInBounds_toArray, List.set_cons_zero, List.set_cons_succ]
                refine anyH_take 1 69 (.slice (some ⟨ge, 0, none⟩) 6 6) TD rfl (by kernel_rfl) (by kernel_rfl) (by kernel_rfl) (fun _ _ _ h => h) (by rfl) (by intro x hx; obtain ⟨y0, y1⟩ := hx; clear y0; go_simp; try (intro h; omega)) ?_
                try simp only [Act.put, List.setIfInBounds_toArray, List.set_cons_zero, List.set_cons_succ]
                refine anyH_take 2 70 (.int .i64 3) TD rfl (by kernel_rfl) (by kernel_rfl) (by kernel_rfl) (fun _ _ _ h => h) (by rfl) (by intro x hx; obtain ⟨y0, y1⟩ := hx; clear y0; go_simp; try (intro h; omega)) ?_
                try simp only [Act.put, List.setIfInBounds_toArray, List.set_cons_zero, List.set_cons_succ]
                refine anyH_take 3 71 (.pointer (some ⟨ge, 3, none⟩)) TD rfl (by kernel_rfl) (by kernel_rfl) (by kernel_rfl) (fun _ _ _ h => h) (by rfl) (by intro x hx; obtain ⟨y0, y1⟩ := hx; clear y0; go_simp; try (intro h; omega)) ?_
                try simp only [Act.put, List.setIfInBounds_toArray, List.set_cons_zero, List.set_cons_succ]
                refine anyH_take 4 72 (.int .i64 e) TD rfl (by kernel_rfl) (by kernel_rfl) (by kernel_rfl) (fun _ _ _ h => h) (by rfl) (by intro x hx; obtain ⟨y0, y1⟩ := hx; clear y1; go_simp; try (intro h; omega)) ?_
                try simp only [Act.put, List.setIfInBounds_toArray, List.set_cons_zero, List.set_cons_succ]
                refine anyH_take 5 73 (.slice (some ⟨ge, 0, none⟩) 6 6) TD rfl (by kernel_rfl) (by kernel_rfl) (by kernel_rfl) (fun _ _ _ h => h) (by rfl) (by intro x hx; obtain ⟨y0, y1⟩ := hx; clear y0; go_simp; try (intro h; omega)) ?_
                try simp only [Act.put, List.setIfInBounds_toArray, List.set_cons_zero, List.set_cons_succ]
                refine anyH_take 6 74 (.int .i64 k) TD rfl (by kernel_rfl) (by kernel_rfl) (by kernel_rfl) (fun _ _ _ h => h) (by rfl) (by intro x hx; obtain ⟨y0, y1⟩ := hx; clear y0; go_simp; try (intro h; omega)) ?_
                try simp only [Act.put, List.setIfInBounds_toArray, List.set_cons_zero, List.set_cons_succ]
                refine anyH_take 7 75 (.pointer (some ⟨ge, k, none⟩)) TD rfl (by kernel_rfl) (by kernel_rfl) (by kernel_rfl) (fun _ _ _ h => h) (by rfl) (by intro x hx; obtain ⟨y0, y1⟩ := hx; clear y0; go_simp; try (intro h; omega)) ?_
                try simp only [Act.put, List.setIfInBounds_toArray, List.set_cons_zero, List.set_cons_succ]
                refine anyH_take 8 76 (.int .i64 n) TD rfl (by kernel_rfl) (by kernel_rfl) (by kernel_rfl) (fun _ _ _ h => h) (by rfl) (by intro x hx; obtain ⟨y0, y1⟩ := hx; clear y0; go_simp; try (intro h; omega)) ?_
                try simp only [Act.put, List.setIfInBounds_toArray, List.set_cons_zero, List.set_cons_succ]
                refine anyH_take 9 77 (.slice ps 0 cs) TD rfl (by kernel_rfl) (by kernel_rfl) (by kernel_rfl) (fun _ _ _ h => h) (by rfl) (by intro x hx; obtain ⟨y0, y1⟩ := hx; clear y0; go_simp; try (intro h; omega)) ?_
                try simp only [Act.put, List.setIfInBounds_toArray, List.set_cons_zero, List.set_cons_succ]
                refine anyH_one 10 (by kernel_rfl) ?_
                refine wpOp_step rfl (fun Kc hKc => ?_)
                go_simp
                refine (HOP.out _ _ _ BD.out AD.out).mono ?_
                rintro e9 w4 ⟨po, co, mo, rfl, hb9⟩
                have B4 : Hid (Below w0.heap.size w0 w4) := BD.out.trans (hb9.mono BD.out.size)
                have TE := HS.out _ B4.out
                dsimp only
                refine hKc _ _ ⟨TE, ?_⟩
                clear hKc Kc
                try simp only [Act.put, List.setIfInBounds_toArray, List.set_cons_zero, List.set_cons_succ]
                refine anyH_take 11 67 (.tuple #[.slice po mo co, .bool false]) TE rfl (by kernel_rfl) (by kernel_rfl) (by kernel_rfl) (fun _ _ _ h => h) (by rfl) (by intro x hx; obtain ⟨y0, y1⟩ := hx; clear y0; go_simp; try (intro h; omega)) ?_
                try simp only [Act.put, List.setIfInBounds_toArray, List.set_cons_zero, List.set_cons_succ]
                refine anyH_take 12 79 (.slice po mo co) TE rfl (by kernel_rfl) (by kernel_rfl) (by kernel_rfl) (fun _ _ _ h => h) (by rfl) (by intro x hx; obtain ⟨y0, y1⟩ := hx; clear y0; go_simp; try (intro h; omega)) ?_
                try simp only [Act.put, List.setIfInBounds_toArray, List.set_cons_zero, List.set_cons_succ]
                refine anyH_take 13 80 (.bool false) TE rfl (by kernel_rfl) (by kernel_rfl) (by kernel_rfl) (fun _ _ _ h => h) (by rfl) (by intro x hx; obtain ⟨y0, y1⟩ := hx; clear y0; go_simp; try (intro h; omega)) ?_
                try simp only [Act.put, List.setIfInBounds_toArray, List.set_cons_zero, List.set_cons_succ]
                refine anyH_take 14 7 (.slice po mo co) TE rfl (by kernel_rfl) (by kernel_rfl) (by kernel_rfl) (fun _ _ _ h => h) (by rfl) (by intro x hx; obtain ⟨y0, y1⟩ := hx; clear y0; go_simp; try (intro h; omega)) ?_
                try simp only [Act.put, List.setIfInBounds_toArray, List.set_cons_zero, List.set_cons_succ]
                refine anyH_take 15 8 (.bool false) TE rfl (by kernel_rfl) (by kernel_rfl) (by kernel_rfl) (fun _ _ _ h => h) (by rfl) (by intro x hx; obtain ⟨y0, y1⟩ := hx; clear y0; go_simp; try (intro h; omega)) ?_
                try simp only [Act.put, List.setIfInBounds_toArray, List.set_cons_zero, List.set_cons_succ]
                refine anyH_done (by kernel_rfl) ?_ _
                clear TE TD BD AD hb9
                go_wp2
                first
                  | exact ⟨⟨k + 1, by omega, by go_num, B4.out⟩, by simp [intOf]; omega⟩
                  | ((try simp only [Int.natCast_ofNat]); (try go_simp); first | exact ⟨⟨k + 1, by omega, by omega⟩, by simp [intOf] <;> omega⟩ | exact ⟨⟨k + 1, by omega, rfl⟩, by simp [intOf] <;> omega⟩ | exact ⟨⟨k + 1, by omega, by omega, B4.out⟩, by simp [intOf]; omega⟩)
            · have hi2 : ¬ ((i : Int) = 2) := by omega
              have hi3 : ¬ ((i : Int) = 3) := by omega
              clear hno hii
              go_upto_region 15 with (fail)
              refine wp_region_any (by kernel_rfl) ?_
              change wpAny _ _ _ _ _ _ _ (World.drew _)
              have BD : Hid (Below w0.heap.size w0 w3.drew) := B3.out.drew
              have AD : Hid (Bs w3.drew ps cs SL) := A3.out.old (Below.refl _ w3).drew
              generalize w3.drew = z at *
              have TD := HS.out _ BD.out
              refine wpAny_of_held (S := KnS ge i k e n) _ _ _ _ ?_
              refine anyH_take 0 68 (.pointer (some ⟨g, 0, none⟩)) TD rfl (by kernel_rfl) (by kernel_rfl) (by kernel_rfl) (fun _ _ _ h => h) (by rfl) (by intro x hx; obtain ⟨y0, y1⟩ := hx; clear y0; go_simp; try (intro h; omega)) ?_
              try simp only [Act.put, List.setIfInBounds_toArray, List.set_cons_zero, List.set_cons_succ]
              refine anyH_take 1 69 (.slice (some ⟨ge, 0, none⟩) 6 6) TD rfl (by kernel_rfl) (by kernel_rfl) (by kernel_rfl) (fun _ _ _ h => h) (by rfl) (by intro x hx; obtain ⟨y0, y1⟩ := hx; clear y0; go_simp; try (intro h; omega)) ?_
              try simp only [Act.put, List.setIfInBounds_toArray, List.set_cons_zero, List.set_cons_succ]
              refine anyH_take 2 70 (.int .i64 i) TD rfl (by kernel_rfl) (by kernel_rfl) (by kernel_rfl) (fun _ _ _ h => h) (by rfl) (by intro x hx; obtain ⟨y0, y1⟩ := hx; clear y0; go_simp; try (intro h; omega)) ?_
              try simp only [Act.put, List.setIfInBounds_toArray, List.set_cons_zero, List.set_cons_succ]
              refine anyH_take 3 71 (.pointer (some ⟨ge, i, none⟩)) TD rfl (by kernel_rfl) (by kernel_rfl) (by kernel_rfl) (fun _ _ _ h => h) (by rfl) (by intro x hx; obtain ⟨y0, y1⟩ := hx; clear y0; go_simp; try (intro h; omega)) ?_
              try simp only [Act.put, List.setIfInBounds_toArray, List.set_cons_zero, List.set_cons_succ]
              refine anyH_take 4 72 (.int .i64 e) TD rfl (by kernel_rfl) (by kernel_rfl) (by kernel_rfl) (fun _ _ _ h => h) (by rfl) (by intro x hx; obtain ⟨y0, y1⟩ := hx; clear y1; go_simp; try (intro h; omega)) ?_
              try simp only [Act.put, List.setIfInBounds_toArray, List.set_cons_zero, List.set_cons_succ]
              refine anyH_take 5 73 (.slice (some ⟨ge, 0, none⟩) 6 6) TD rfl (by kernel_rfl) (by kernel_rfl) (by kernel_rfl) (fun _ _ _ h => h) (by rfl) (by intro x hx; obtain ⟨y0, y1⟩ := hx; clear y0; go_simp; try (intro h; omega)) ?_
              try simp only [Act.put, List.setIfInBounds_toArray, List.set_cons_zero, List.set_cons_succ]
              refine anyH_take 6 74 (.int .i64 k) TD rfl (by kernel_rfl) (by kernel_rfl) (by kernel_rfl) (fun _ _ _ h => h) (by rfl) (by intro x hx; obtain ⟨y0, y1⟩ := hx; clear y0; go_simp; try (intro h; omega)) ?_
              try simp only [Act.put, List.setIfInBounds_toArray, List.set_cons_zero, List.set_cons_succ]
              refine anyH_take 7 75 (.pointer (some ⟨ge, k, none⟩)) TD rfl (by kernel_rfl) (by kernel_rfl) (by kernel_rfl) (fun _ _ _ h => h) (by rfl) (by intro x hx; obtain ⟨y0, y1⟩ := hx; clear y0; go_simp; try (intro h; omega)) ?_
              try simp only [Act.put, List.setIfInBounds_toArray, List.set_cons_zero, List.set_cons_succ]
              refine anyH_take 8 76 (.int .i64 n) TD rfl (by kernel_rfl) (by kernel_rfl) (by kernel_rfl) (fun _ _ _ h => h) (by rfl) (by intro x hx; obtain ⟨y0, y1⟩ := hx; clear y0; go_simp; try (intro h; omega)) ?_
              try simp only [Act.put, List.setIfInBounds_toArray, List.set_cons_zero, List.set_cons_succ]
              refine anyH_take 9 77 (.slice ps 0 cs) TD rfl (by kernel_rfl) (by kernel_rfl) (by kernel_rfl) (fun _ _ _ h => h) (by rfl) (by intro x hx; obtain ⟨y0, y1⟩ := hx; clear y0; go_simp; try (intro h; omega)) ?_
              try simp only [Act.put, List.setIfInBounds_toArray, List.set_cons_zero, List.set_cons_succ]
              refine anyH_one 10 (by kernel_rfl) ?_
              refine wpOp_step rfl (fun Kc hKc => ?_)
              go_simp
              refine (HOP.out _ _ _ BD.out AD.out).mono ?_
              rintro e9 w4 ⟨po, co, mo, rfl, hb9⟩
              have B4 : Hid (Below w0.heap.size w0 w4) := BD.out.trans (hb9.mono BD.out.size)
              have TE := HS.out _ B4.out
              dsimp only
              refine hKc _ _ ⟨TE, ?_⟩
              clear hKc Kc
              try simp only [Act.put, List.setIfInBounds_toArray, List.set_cons_zero, List.set_cons_succ]
              refine anyH_take 11 67 (.tuple #[.slice po mo co, .bool false]) TE rfl (by kernel_rfl) (by kernel_rfl) (by kernel_rfl) (fun _ _ _ h => h) (by rfl) (by intro x hx; obtain ⟨y0, y1⟩ := hx; clear y0; go_simp; try (intro h; omega)) ?_
              try simp only [Act.put, List.setIfInBounds_toArray, List.set_cons_zero, List.set_cons_succ]
              refine anyH_take 12 79 (.slice po mo co) TE rfl (by kernel_rfl) (by kernel_rfl) (by kernel_rfl) (fun _ _ _ h => h) (by rfl) (by intro x hx; obtain ⟨y0, y1⟩ := hx; clear y0; go_simp; try (intro h; omega)) ?_
              try simp only [Act.put, List.setIfInBounds_toArray, List.set_cons_zero, List.set_cons_succ]
              refine anyH_take 13 80 (.bool false) TE rfl (by kernel_rfl) (by kernel_rfl) (by kernel_rfl) (fun _ _ _ h => h) (by rfl) (by intro x hx; obtain ⟨y0, y1⟩ := hx; clear y0; go_simp; try (intro h; omega)) ?_
              try simp only [Act.put, List.setIfInBounds_toArray, List.set_cons_zero, List.set_cons_succ]
              refine anyH_take 14 7 (.slice po mo co) TE rfl (by kernel_rfl) (by kernel_rfl) (by kernel_rfl) (fun _ _ _ h => h) (by rfl) (by intro x hx; obtain ⟨y0, y1⟩ := hx; clear y0; go_simp; try (intro h; omega)) ?_
              try simp only [Act.put, List.setIfInBounds_toArray, List.set_cons_zero, List.set_cons_succ]
              refine anyH_take 15 8 (.bool false) TE rfl (by kernel_rfl) (by kernel_rfl) (by kernel_rfl) (fun _ _ _ h => h) (by rfl) (by intro x hx; obtain ⟨y0, y1⟩ := hx; clear y0; go_simp; try (intro h; omega)) ?_
              try simp only [Act.put, List.setIfInBounds_toArray, List.set_cons_zero, List.set_cons_succ]
              refine anyH_done (by kernel_rfl) ?_ _
              clear TE TD BD AD hb9
              go_wp2
              first
                | exact ⟨⟨k + 1, by omega, by go_num, B4.out⟩, by simp [intOf]; omega⟩
                | ((try simp only [Int.natCast_ofNat]); (try go_simp); first | exact ⟨⟨k + 1, by omega, by omega⟩, by simp [intOf] <;> omega⟩ | exact ⟨⟨k + 1, by omega, rfl⟩, by simp [intOf] <;> omega⟩ | exact ⟨⟨k + 1, by omega, by omega, B4.out⟩, by simp [intOf]; omega⟩)
        · obtain rfl : k = 6 := by omega
          go_wp2
          exact ⟨⟨i + 1, by omega, by go_num, HB.out⟩, by simp [intOf]; omega⟩
    · obtain rfl : i = 6 := by omega
      go_wp2_with (first
        | ((with_reducible refine make_at _ 5 _ _ (.int .u8 0) 1 31 31 ?_ ?_ ?_ ?_ rfl ?_ ?_ ?_ ?_); (exact rfl); (exact rfl); (exact Tryd.underlying22); (exact Tryd.info_u8); omega; omega; omega; intro w5 G5 hb5 hs5; have B5 : Hid (Below w0.heap.size w0 w5) := HB0.out.trans (hb5.mono HB0.out.size); clear hb5 hs5)
        | (go_at_call 15; refine (HO1.out _ _ B5.out (bs_zeros 31 (by omega) G5.out)).mono ?_; rintro e6 w6 ⟨_, _, _, rfl, hb6⟩; have B6 : Hid (Below w0.heap.size w0 w6) := B5.out.trans (hb6.mono B5.out.size); clear hb6 HO1)
        | (go_at_call 15; refine (HO2.out _ B6.out).mono ?_; rintro e7 w7 ⟨_, _, _, rfl, hb7⟩; have B7 : Hid (Below w0.heap.size w0 w7) := B6.out.trans (hb7.mono B6.out.size); clear hb7)
        | (go_at_call 8; refine (HKN.out _ B7.out).mono ?_; rintro e8 w8 ⟨rfl, hb8⟩; have B8 : Hid (Below w0.heap.size w0 w8) := B7.out.trans (hb8.mono B7.out.size); clear hb8))
      go_ret
      exact ⟨rfl, Fin.out _ B8.out⟩
end Go.Proofs.YtkhaiiiioieglaaDoor
