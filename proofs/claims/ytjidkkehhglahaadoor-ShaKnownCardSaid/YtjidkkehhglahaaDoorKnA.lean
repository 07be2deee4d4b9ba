/-
  rilllaw01.ShaKnown walked.
-/
import Derived.Test.YtjidkkehhglahaaDoorAddA
import Derived.Test.YtjidkkehhglahaaDoorShaQ
import Derived.Test.YtjidkkehhglahaaDoorShaK
import Derived.Test.YtjidkkehhglahaaDoorAnyH
namespace Go.Proofs.YtjidkkehhglahaaDoor
open Go.RowKit

theorem nil_words : sbK [3820012610, 2566659092, 2600203464, 2574235940, 665731556, 1687917388, 2761267483, 2018687061] 32 = Sha.dg [] := by rw [dg_nil]; decide +kernel
theorem w56_words : sbK [613247585, 3523623096, 3854575251, 205414457, 2738676825, 1694441831, 4142722516, 433784513] 32 = Sha.dg [97, 98, 99, 100, 98, 99, 100, 101, 99, 100, 101, 102, 100, 101, 102, 103, 101, 102, 103, 104, 102, 103, 104, 105, 103, 104, 105, 106, 104, 105, 106, 107, 105, 106, 107, 108, 106, 107, 108, 109, 107, 108, 109, 110, 108, 109, 110, 111, 109, 110, 111, 112, 110, 111, 112, 113] := by rw [dg_56]; decide +kernel
theorem st_chg {w wi w' : World} {G GL : Nat} {L : List Int} (h : St w wi G L) (ht : Tab w 0) (ch : Chg GL wi w') (hne : GL ≠ G) (hg : w.heap.size ≤ GL) : St w w' G L := by
  obtain ⟨⟨R, r1, r2⟩, a2, a3, a4, a5, a6⟩ := h
  have hb : Below w.heap.size w w' := ch.below a2 hg
  refine ⟨⟨R, r1, ?_⟩, hb, ht.below hb ht.lt, a4, a5, by rw [ch.size]; exact a6⟩
  unfold HBlk at r2 ⊢
  rw [ch.block _ (Ne.symm hne)]
  exact r2
theorem rep_byt (k : Nat) : Sha.Byt (List.replicate k 97) := fun x hx => by rw [List.mem_replicate] at hx; omega
theorem rep_pre {x : World} {p : Option Addr} (h : BAt x p (List.replicate 1000 97)) (k : Nat) (hk : k ≤ 1000) : BAt x p (List.replicate k 97) := by
  rw [show 1000 = k + (1000 - k) by omega, ← List.replicate_append_replicate] at h
  exact h.pre
theorem brows3 {x : World} {GL tb : Nat} (h : BAt x (some ⟨GL, 0, none⟩) (List.replicate 1000 97)) (k : Nat) (hk : k ≤ 1000) (hc : x.heap[tb]? = some (.cells #[.slice (some ⟨GL, 0, none⟩) k 1000, .slice (some ⟨GL, 0, none⟩) 64 1000, .slice (some ⟨GL, 0, none⟩) k 1000] 25 (0, 0))) :
    BRows x (some ⟨tb, 0, none⟩) [List.replicate k 97, List.replicate 64 97, List.replicate k 97] := fun _ => by
  refine ⟨tb, 0, rfl, lt_of_block hc, fun r hr => ?_⟩
  have h3 : r = 0 ∨ r = 1 ∨ r = 2 := by simp at hr; omega
  rcases h3 with rfl | rfl | rfl
  · refine ⟨some ⟨GL, 0, none⟩, 1000, ?_, rep_pre h k hk, by simp; omega, by omega, fun e => by cases e⟩
    rw [cell_of_row x tb (0 + 0) _ _ _ hc]; simp
  · refine ⟨some ⟨GL, 0, none⟩, 1000, ?_, rep_pre h 64 (by omega), by simp, by omega, fun e => by cases e⟩
    rw [cell_of_row x tb (0 + 1) _ _ _ hc]; simp
  · refine ⟨some ⟨GL, 0, none⟩, 1000, ?_, rep_pre h k hk, by simp; omega, by omega, fun e => by cases e⟩
    rw [cell_of_row x tb (0 + 2) _ _ _ hc]; simp
/-- A hash under way, and a row of bytes beside it. -/
def QQ (w : World) (G GL : Nat) (LA : List Int) (x : World) : Prop := St w x G LA ∧ x.heap[GL]? = some (.cells (LA.map (Value.int .u8)).toArray 5 (0, 0))
theorem QQ.below {w x x' : World} {G GL : Nat} {LA : List Int} (h : QQ w G GL LA x) (hb : Below x.heap.size x x') : QQ w G GL LA x' := ⟨h.1.below hb, (hb.block _ (lt_of_block h.2)).trans h.2⟩
/-- A thousand letters while they are laid. -/
def thk (k : Nat) : List Int := List.replicate k 97 ++ List.replicate (1000 - k) 0
theorem thk_len (k : Nat) (h : k ≤ 1000) : (thk k).length = 1000 := by simp [thk]; omega
theorem thk_zero : (thk 0).map (Value.int .u8) = List.replicate 1000 (Value.int .u8 0) := by
  unfold thk
  rw [List.replicate_zero, List.nil_append, List.map_replicate]
theorem thk_step (k : Nat) (h : k < 1000) : (thk k).set k 97 = thk (k + 1) := by
  unfold thk
  rw [List.set_append_right _ _ (by rw [List.length_replicate]; exact Nat.le_refl _), List.length_replicate, Nat.sub_self, show 1000 - k = (1000 - (k + 1)) + 1 by omega, List.replicate_succ, List.set_cons_zero, List.replicate_succ', List.append_assoc]
  rfl
theorem thk_all : thk 1000 = List.replicate 1000 97 := by
  unfold thk
  rw [Nat.sub_self, List.replicate_zero, List.append_nil]
attribute [irreducible] thk

set_option maxHeartbeats 4000000 in
set_option maxRecDepth 100000 in
theorem shaknown_law (hT : TakeSaid) (w : World) (ht : Tab w 0) (htk : Tab w 1) :
    Calls Tryd.prog 3 #[] w (YesSay w) := by
  have HT := Lib.hid hT; clear hT
  have Ht := Lib.hid ht; clear ht
  have Hk := Lib.hid htk; clear htk
  have hng := Tryd.noGuard
  have kc := fun (w : World) (C : Array Value) (n c : Nat) => Lib.run_convert_bytes_const (P := Tryd.prog) w 25 5 C n c Tryd.underlying25 Tryd.underlying5
  go_enter Tryd.func3, Tryd.ntmps3
  go_wp2_with (go_at_call 5; refine (new_any _).mono ?_; rintro e w1 ⟨rfl, hh1, hb1, hs1⟩; have S10 : Hid (St w w1 w.heap.size (List.replicate 0 97)) := St.new Ht.out hh1 hb1; clear hh1 hb1 hs1)
  go_loopw [2] (fun v wr => ∃ k : Nat, k ≤ 1000 ∧ v = .int .i64 k ∧ Hid (St w wr w.heap.size (List.replicate k 97))) (fun v _ => 1000 - (intOf v).toNat)
  case atStart => exact ⟨0, by omega, rfl, S10.out⟩
  case round =>
    clear S10
    obtain ⟨k, hk, rfl, HS⟩ := hrel
    by_cases hlt : k < 1000
    · have HSA : Hid (St w (wr.alloc (.cells #[.int .u8 97] 5 (1, 2))) w.heap.size (List.replicate k 97)) := HS.out.below ((Below.refl _ wr).alloc (Nat.le_refl _) _)
      have HBY : Hid (BytesAt (wr.alloc (.cells #[.int .u8 97] 5 (1, 2))) w.heap.size (some ⟨wr.heap.size, 0, none⟩) [97]) := bytes_at' (l := [97]) (t := 5) (by intro x hx; simp at hx; omega) (by have := lt_holds HS.out; omega) (heap_alloc_new wr _)
      have hL1 : (List.replicate k (97 : Int)).length + 1 ≤ 1152921504606846000 := by rw [List.length_replicate]; omega
      have HL1 := Lib.hid hL1; clear hL1
      go_wp2_with (go_at_call 6; refine (add_st HT.out [97] (some ⟨wr.heap.size, 0, none⟩) 1 _ rfl HSA.out HBY.out (by omega) (by omega) HL1.out).mono ?_; rintro e w2 ⟨rfl, HS2, _⟩; have HS3 := Lib.hid HS2; clear HS2)
      refine ⟨⟨k + 1, by omega, by go_num, ?_⟩, by simp [intOf]; omega⟩
      show St _ _ _ _
      rw [List.replicate_succ']
      exact HS3.out
    · have E : k = 1000 := by omega
      have hge : 1000 ≤ k := by omega
      have HS0 : Hid (St w wr w.heap.size (List.replicate 1000 97)) := by rw [← E]; exact HS
      obtain ⟨LA, HLA⟩ : ∃ LA : List Int, Hid (LA = List.replicate 1000 97) := ⟨_, rfl⟩
      rw [← HLA.out] at HS0
      have HG0 : Hid (w.heap.size < wr.heap.size) := lt_holds HS.out
      clear E hlt HS
      go_upto_region 7 with ((with_reducible refine make_at _ 5 _ _ (.int .u8 0) 1 1000 1000 ?_ ?_ ?_ ?_ rfl ?_ ?_ ?_ ?_); (exact rfl); (exact rfl); (exact Tryd.underlying25); (exact Tryd.info_u8); omega; omega; omega; intro w3 G3 hb3 hs3)
      have HS4 : Hid (St w w3 w.heap.size LA) := HS0.out.below hb3
      have G4 : Hid (w3.heap[wr.heap.size]? = some (.cells ((thk 0).map (Value.int .u8)).toArray 5 (0, 0))) := by show _ = _; rw [thk_zero]; exact G3.out
      clear HS0 G3 hb3 hs3
      generalize wr.heap.size = GL at *
      generalize wr = wA at *
      go_wp2
      go_loopw [4] (fun v wr => ∃ k : Nat, k ≤ 1000 ∧ v = .int .i64 k ∧ Hid (St w wr w.heap.size LA) ∧ Hid (wr.heap[GL]? = some (.cells ((thk k).map (Value.int .u8)).toArray 5 (0, 0)))) (fun v _ => 1000 - (intOf v).toNat)
      case atStart => exact ⟨0, by omega, rfl, HS4.out, G4.out⟩
      case round =>
        clear HS4 G4 hge
        obtain ⟨k, hk, rfl, HS, HG⟩ := hrel
        by_cases hlt : k < 1000
        · have c0 : wr.cell? ⟨GL, k, none⟩ = some (.int .u8 ((thk k).getD k 0)) := by
            rw [cell_of_row wr GL k _ _ _ HG.out]
            have := thk_len k hk
            simp [List.getD_eq_getElem?_getD, this, hlt]
          have f0 := frozen_of_row wr GL k _ _ HG.out
          generalize (thk k).getD k 0 = y0 at c0
          have hki : (k : Int) < 1000 := by omega
          go_wp2
          refine ⟨⟨k + 1, by omega, by go_num, ?_, ?_⟩, by simp [intOf]; omega⟩
          · exact st_chg HS.out Ht.out (Chg.setCell wr ⟨GL, k, none⟩ _) (by have := HG0.out; show GL ≠ _; omega) (by have := HG0.out; show _ ≤ GL; omega)
          · have h := set_u8' (i := k) (x := 97) HG.out
            rw [thk_step k hlt] at h
            exact h
        · have E : k = 1000 := by omega
          have hge : 1000 ≤ k := by omega
          have HG1 : Hid (wr.heap[GL]? = some (.cells (LA.map (Value.int .u8)).toArray 5 (0, 0))) := by
            have h := HG.out
            rw [E, thk_all, ← HLA.out] at h
            exact h
          clear E hlt HG
          generalize wr = wB at *
          go_wp2
          go_loopw [5] (fun v wr => ∃ k : Nat, 50 ≤ k ∧ k ≤ 70 ∧ v = .int .i64 k ∧ Hid (St w wr w.heap.size LA) ∧ Hid (wr.heap[GL]? = some (.cells (LA.map (Value.int .u8)).toArray 5 (0, 0)))) (fun v _ => 70 - (intOf v).toNat)
          case atStart => exact ⟨50, by omega, by omega, rfl, HS.out, HG1.out⟩
          case round =>
            clear HS HG1 hge
            obtain ⟨k, hk50, hk, rfl, HS, HG⟩ := hrel
            by_cases hlt : k < 70
            · have hki : (k : Int) < 70 := by omega
              go_upto_region 14 with fail
              refine wp_region_any (by kernel_rfl) ?_
              change wpAny _ _ _ _ _ _ _ (World.drew _)
              have HS8 : Hid (St w wr.drew w.heap.size LA) := HS.out.drew
              have HG8 : Hid (wr.drew.heap[GL]? = some (.cells (LA.map (Value.int .u8)).toArray 5 (0, 0))) := HG.out
              clear HS HG
              generalize wr.drew = w8 at *
              have Sz0 : Hid (Below w8.heap.size w8 w8) := Below.refl _ _
              have HBT : Hid (∀ x, Below w8.heap.size w8 x → BAt x (some ⟨GL, 0, none⟩) (List.replicate 1000 97)) := fun x hx => by
                have h := (hx.block _ (lt_of_block HG8.out)).trans HG8.out
                rw [HLA.out] at h
                exact bat_row h (rep_byt 1000)
              have HTB : Hid (∀ x, Below w8.heap.size w8 x → Tab x 0 ∧ Tab x 1) := fun x hx => by
                have hb : Below w.heap.size w x := HS8.out.2.1.trans (hx.mono HS8.out.2.2.2.2.2)
                exact ⟨Ht.out.below hb Ht.out.lt, Hk.out.below hb Hk.out.lt⟩
              have HPS : Hid (∀ (k : Nat) x, Below w8.heap.size w8 x → Calls Tryd.prog 8 #[.slice (some ⟨GL, 0, none⟩) 130 1000, .int .i64 k, .int .i64 64] x (BoolSay true x)) := fun k x hx => by
                have h := pieces_some HT.out (List.replicate 130 97) GL 0 1000 k 64 x (by simp) (fun g hg => (rep_pre (HBT.out x hx) 130 (by omega)).bytes g hg) (by simp) (by omega) (HTB.out x hx).1
                rw [List.length_replicate] at h
                exact h
              refine wpAny_of_held (S := fun x : World => Below w8.heap.size w8 x) _ _ _ _ ?_
              refine anyH_take 0 27 (.slice (some ⟨GL, 0, none⟩) 1000 1000) Sz0.out rfl (by kernel_rfl) (by kernel_rfl) (by kernel_rfl) (fun _ _ _ h => h) (by rfl) (by intro x hx; go_simp; try (intro h; omega)) ?_
              try simp only [Act.put, List.setIfInBounds_toArray, List.set_cons_zero, List.set_cons_succ]
              refine anyH_take 1 28 (.int .i64 (k : Int)) Sz0.out rfl (by kernel_rfl) (by kernel_rfl) (by kernel_rfl) (fun _ _ _ h => h) (by rfl) (by intro x hx; go_simp; try (intro h; omega)) ?_
              try simp only [Act.put, List.setIfInBounds_toArray, List.set_cons_zero, List.set_cons_succ]
              refine anyH_take 2 29 (.slice (some ⟨GL, 0, none⟩) k 1000) Sz0.out rfl (by kernel_rfl) (by kernel_rfl) (by kernel_rfl) (fun _ _ _ h => h) (by rfl) (by intro x hx; go_simp; try (intro h; omega)) ?_
              try simp only [Act.put, List.setIfInBounds_toArray, List.set_cons_zero, List.set_cons_succ]
              refine anyH_take 3 30 (.slice (some ⟨GL, 0, none⟩) 1000 1000) Sz0.out rfl (by kernel_rfl) (by kernel_rfl) (by kernel_rfl) (fun _ _ _ h => h) (by rfl) (by intro x hx; go_simp; try (intro h; omega)) ?_
              try simp only [Act.put, List.setIfInBounds_toArray, List.set_cons_zero, List.set_cons_succ]
              refine anyH_take 4 31 (.slice (some ⟨GL, 0, none⟩) 64 1000) Sz0.out rfl (by kernel_rfl) (by kernel_rfl) (by kernel_rfl) (fun _ _ _ h => h) (by rfl) (by intro x hx; go_simp; try (intro h; omega)) ?_
              try simp only [Act.put, List.setIfInBounds_toArray, List.set_cons_zero, List.set_cons_succ]
              refine anyH_take 5 32 (.slice (some ⟨GL, 0, none⟩) 1000 1000) Sz0.out rfl (by kernel_rfl) (by kernel_rfl) (by kernel_rfl) (fun _ _ _ h => h) (by rfl) (by intro x hx; go_simp; try (intro h; omega)) ?_
              try simp only [Act.put, List.setIfInBounds_toArray, List.set_cons_zero, List.set_cons_succ]
              refine anyH_take 6 33 (.int .i64 (k : Int)) Sz0.out rfl (by kernel_rfl) (by kernel_rfl) (by kernel_rfl) (fun _ _ _ h => h) (by rfl) (by intro x hx; go_simp; try (intro h; omega)) ?_
              try simp only [Act.put, List.setIfInBounds_toArray, List.set_cons_zero, List.set_cons_succ]
              refine anyH_take 7 34 (.slice (some ⟨GL, 0, none⟩) k 1000) Sz0.out rfl (by kernel_rfl) (by kernel_rfl) (by kernel_rfl) (fun _ _ _ h => h) (by rfl) (by intro x hx; go_simp; try (intro h; omega)) ?_
              try simp only [Act.put, List.setIfInBounds_toArray, List.set_cons_zero, List.set_cons_succ]
              refine anyH_one 8 (by kernel_rfl) ?_
              refine wpOp_step rfl (fun Kc hKc => ?_)
              go_simp
              have Sz1 : Hid (Below w8.heap.size w8 (w8.alloc (.cells #[.slice (some ⟨GL, 0, none⟩) k 1000, .slice (some ⟨GL, 0, none⟩) 64 1000, .slice (some ⟨GL, 0, none⟩) k 1000] 25))) := (Below.refl _ w8).alloc (Nat.le_refl _) _
              have HBR : Hid (BRows (w8.alloc (.cells #[.slice (some ⟨GL, 0, none⟩) k 1000, .slice (some ⟨GL, 0, none⟩) 64 1000, .slice (some ⟨GL, 0, none⟩) k 1000] 25)) (some ⟨w8.heap.size, 0, none⟩) [List.replicate k 97, List.replicate 64 97, List.replicate k 97]) := brows3 (HBT.out _ Sz1.out) k (by omega) (heap_alloc_new _ _)
              refine hKc _ _ ⟨Sz1.out, ?_⟩
              clear hKc Kc
              try simp only [Act.put, List.setIfInBounds_toArray, List.set_cons_zero, List.set_cons_succ]
              generalize hz1 : w8.alloc (.cells #[.slice (some ⟨GL, 0, none⟩) k 1000, .slice (some ⟨GL, 0, none⟩) 64 1000, .slice (some ⟨GL, 0, none⟩) k 1000] 25) = z1 at *
              clear hz1
              refine anyH_one 9 (by kernel_rfl) ?_
              refine wpOp_step rfl (fun Kc hKc => ?_)
              go_simp
              refine (adds_any HT.out [List.replicate k 97, List.replicate 64 97, List.replicate k 97] (some ⟨w8.heap.size, 0, none⟩) 3 3 rfl _ HBR.out (HTB.out _ Sz1.out).1 (HTB.out _ Sz1.out).2).mono ?_
              rintro e z2 ⟨rfl, hb⟩
              have Sz2 : Hid (Below w8.heap.size w8 z2) := Sz1.out.trans (hb.mono Sz1.out.size)
              clear hb
              dsimp only
              refine hKc _ _ ⟨Sz2.out, ?_⟩
              clear hKc Kc
              try simp only [Act.put, List.setIfInBounds_toArray, List.set_cons_zero, List.set_cons_succ]
              refine anyH_take 10 37 (.bool false) Sz2.out rfl (by kernel_rfl) (by kernel_rfl) (by kernel_rfl) (fun _ _ _ h => h) (by rfl) (by intro x hx; go_simp; try (intro h; omega)) ?_
              try simp only [Act.put, List.setIfInBounds_toArray, List.set_cons_zero, List.set_cons_succ]
              refine anyH_take 11 38 (.bool false) Sz2.out rfl (by kernel_rfl) (by kernel_rfl) (by kernel_rfl) (fun _ _ _ h => h) (by rfl) (by intro x hx; go_simp; try (intro h; omega)) ?_
              try simp only [Act.put, List.setIfInBounds_toArray, List.set_cons_zero, List.set_cons_succ]
              refine anyH_take 12 39 (.slice (some ⟨GL, 0, none⟩) 1000 1000) Sz2.out rfl (by kernel_rfl) (by kernel_rfl) (by kernel_rfl) (fun _ _ _ h => h) (by rfl) (by intro x hx; go_simp; try (intro h; omega)) ?_
              try simp only [Act.put, List.setIfInBounds_toArray, List.set_cons_zero, List.set_cons_succ]
              refine anyH_take 13 40 (.slice (some ⟨GL, 0, none⟩) 130 1000) Sz2.out rfl (by kernel_rfl) (by kernel_rfl) (by kernel_rfl) (fun _ _ _ h => h) (by rfl) (by intro x hx; go_simp; try (intro h; omega)) ?_
              try simp only [Act.put, List.setIfInBounds_toArray, List.set_cons_zero, List.set_cons_succ]
              refine anyH_take 14 41 (.int .i64 (k : Int)) Sz2.out rfl (by kernel_rfl) (by kernel_rfl) (by kernel_rfl) (fun _ _ _ h => h) (by rfl) (by intro x hx; go_simp; try (intro h; omega)) ?_
              try simp only [Act.put, List.setIfInBounds_toArray, List.set_cons_zero, List.set_cons_succ]
              refine anyH_one 15 (by kernel_rfl) ?_
              refine wpOp_step rfl (fun Kc hKc => ?_)
              go_simp
              refine (HPS.out k _ Sz2.out).mono ?_
              rintro e z3 ⟨rfl, hb⟩
              have Sz3 : Hid (Below w8.heap.size w8 z3) := Sz2.out.trans (hb.mono Sz2.out.size)
              clear hb
              dsimp only
              refine hKc _ _ ⟨Sz3.out, ?_⟩
              clear hKc Kc
              try simp only [Act.put, List.setIfInBounds_toArray, List.set_cons_zero, List.set_cons_succ]
              refine anyH_take 16 43 (.bool false) Sz3.out rfl (by kernel_rfl) (by kernel_rfl) (by kernel_rfl) (fun _ _ _ h => h) (by rfl) (by intro x hx; go_simp; try (intro h; omega)) ?_
              try simp only [Act.put, List.setIfInBounds_toArray, List.set_cons_zero, List.set_cons_succ]
              refine anyH_take 17 44 (.bool false) Sz3.out rfl (by kernel_rfl) (by kernel_rfl) (by kernel_rfl) (fun _ _ _ h => h) (by rfl) (by intro x hx; go_simp; try (intro h; omega)) ?_
              try simp only [Act.put, List.setIfInBounds_toArray, List.set_cons_zero, List.set_cons_succ]
              refine anyH_done (by kernel_rfl) ?_ _
              have HS9 : Hid (St w z3 w.heap.size LA) := HS8.out.below Sz3.out
              have HG9 : Hid (z3.heap[GL]? = some (.cells (LA.map (Value.int .u8)).toArray 5 (0, 0))) := (Sz3.out.block _ (lt_of_block HG8.out)).trans HG8.out
              clear HS8 HG8 HBT HTB HPS HBR
              go_wp2
              exact ⟨⟨k + 1, by omega, by omega, by go_num, HS9, HG9⟩, by simp [intOf]; omega⟩
            · have hge : 70 ≤ k := by omega
              clear hlt
              have Q0 : Hid (QQ w w.heap.size GL LA wr) := ⟨HS.out, HG.out⟩
              clear HS HG
              have HLN : Hid (LA.length = 1000 ∧ Sha.Byt LA) := by rw [HLA.out]; exact ⟨List.length_replicate .., rep_byt 1000⟩
              obtain ⟨D0, HD0⟩ : ∃ D : Array Value, Hid (D = ((Sha.dg []).map (Value.int .u8)).toArray) := ⟨_, rfl⟩
              obtain ⟨D6, HD6⟩ : ∃ D : Array Value, Hid (D = ((Sha.dg [97, 98, 99, 100, 98, 99, 100, 101, 99, 100, 101, 102, 100, 101, 102, 103, 101, 102, 103, 104, 102, 103, 104, 105, 103, 104, 105, 106, 104, 105, 106, 107, 105, 106, 107, 108, 106, 107, 108, 109, 107, 108, 109, 110, 108, 109, 110, 111, 109, 110, 111, 112, 110, 111, 112, 113]).map (Value.int .u8)).toArray) := ⟨_, rfl⟩
              obtain ⟨DL, HDL⟩ : ∃ D : Array Value, Hid (D = ((Sha.dg LA).map (Value.int .u8)).toArray) := ⟨_, rfl⟩
              have HE0 : ∀ w, (Op.equalIn 10000 30 (.agg D0) (.agg D0)).run Tryd.prog w = .ok true w := fun w => by rw [HD0.out]; exact sum_same _ (dg_len _) w
              have HE6 : ∀ w, (Op.equalIn 10000 30 (.agg D6) (.agg D6)).run Tryd.prog w = .ok true w := fun w => by rw [HD6.out]; exact sum_same _ (dg_len _) w
              have HEL : ∀ w, (Op.equalIn 10000 30 (.agg DL) (.agg DL)).run Tryd.prog w = .ok true w := fun w => by rw [HDL.out]; exact sum_same _ (dg_len _) w
              have OFN : Hid (∀ x, QQ w w.heap.size GL LA x → Calls Tryd.prog 9 #[.slice none 0 0] x fun e x' => e = .returned (.agg D0) ∧ Hid (Below x.heap.size x x')) := fun x hx => by
                refine (of_any'' HT.out [] none 0 0 rfl x (fun g _ => ⟨fun y hy => by simp at hy, fun h => by simp at h⟩) (by omega) (by omega) (by omega) hx.1.2.2.1).mono ?_
                rintro e x' ⟨h1, h2⟩
                exact ⟨by rw [h1, HD0.out], h2⟩
              have SMN : Hid (∀ x, Calls Tryd.prog 10 #[.int .u32 3820012610, .int .u32 2566659092, .int .u32 2600203464, .int .u32 2574235940, .int .u32 665731556, .int .u32 1687917388, .int .u32 2761267483, .int .u32 2018687061] x fun e x' => e = .returned (.agg D0) ∧ Hid (Below x.heap.size x x')) := fun x => by
                refine (wsum_any _ _ _ _ _ _ _ _ x).mono ?_
                rintro e x' ⟨h1, h2⟩
                exact ⟨by rw [h1, nil_words, HD0.out], h2⟩
              have SM6 : Hid (∀ x, Calls Tryd.prog 10 #[.int .u32 613247585, .int .u32 3523623096, .int .u32 3854575251, .int .u32 205414457, .int .u32 2738676825, .int .u32 1694441831, .int .u32 4142722516, .int .u32 433784513] x fun e x' => e = .returned (.agg D6) ∧ Hid (Below x.heap.size x x')) := fun x => by
                refine (wsum_any _ _ _ _ _ _ _ _ x).mono ?_
                rintro e x' ⟨h1, h2⟩
                exact ⟨by rw [h1, w56_words, HD6.out], h2⟩
              have SUN : Hid (∀ g x, QQ w w.heap.size GL LA x → Holds x g [] → Calls Tryd.prog 11 #[.pointer (some ⟨g, 0, none⟩)] x fun e x' => e = .returned (.agg D0) ∧ Hid (Below x.heap.size x x')) := fun g x hx hh => by
                refine (sum_any HT.out g [] x hh (by simp) hx.1.2.2.1).mono ?_
                rintro e x' ⟨h1, h2⟩
                exact ⟨by rw [h1, HD0.out], h2⟩
              have OF6 : Hid (∀ x, QQ w w.heap.size GL LA x → Calls Tryd.prog 9 #[.slice (some ⟨x.heap.size, 0, none⟩) 56 56] (x.alloc (.cells #[.int .u8 97, .int .u8 98, .int .u8 99, .int .u8 100, .int .u8 98, .int .u8 99, .int .u8 100, .int .u8 101, .int .u8 99, .int .u8 100, .int .u8 101, .int .u8 102, .int .u8 100, .int .u8 101, .int .u8 102, .int .u8 103, .int .u8 101, .int .u8 102, .int .u8 103, .int .u8 104, .int .u8 102, .int .u8 103, .int .u8 104, .int .u8 105, .int .u8 103, .int .u8 104, .int .u8 105, .int .u8 106, .int .u8 104, .int .u8 105, .int .u8 106, .int .u8 107, .int .u8 105, .int .u8 106, .int .u8 107, .int .u8 108, .int .u8 106, .int .u8 107, .int .u8 108, .int .u8 109, .int .u8 107, .int .u8 108, .int .u8 109, .int .u8 110, .int .u8 108, .int .u8 109, .int .u8 110, .int .u8 111, .int .u8 109, .int .u8 110, .int .u8 111, .int .u8 112, .int .u8 110, .int .u8 111, .int .u8 112, .int .u8 113] 5 (56, 57))) fun e x' => e = .returned (.agg D6) ∧ Hid (Below x.heap.size x x')) := fun x hx => by
                have hq := hx.below ((Below.refl _ x).alloc (Nat.le_refl _) (.cells #[.int .u8 97, .int .u8 98, .int .u8 99, .int .u8 100, .int .u8 98, .int .u8 99, .int .u8 100, .int .u8 101, .int .u8 99, .int .u8 100, .int .u8 101, .int .u8 102, .int .u8 100, .int .u8 101, .int .u8 102, .int .u8 103, .int .u8 101, .int .u8 102, .int .u8 103, .int .u8 104, .int .u8 102, .int .u8 103, .int .u8 104, .int .u8 105, .int .u8 103, .int .u8 104, .int .u8 105, .int .u8 106, .int .u8 104, .int .u8 105, .int .u8 106, .int .u8 107, .int .u8 105, .int .u8 106, .int .u8 107, .int .u8 108, .int .u8 106, .int .u8 107, .int .u8 108, .int .u8 109, .int .u8 107, .int .u8 108, .int .u8 109, .int .u8 110, .int .u8 108, .int .u8 109, .int .u8 110, .int .u8 111, .int .u8 109, .int .u8 110, .int .u8 111, .int .u8 112, .int .u8 110, .int .u8 111, .int .u8 112, .int .u8 113] 5 (56, 57)))
                refine (of_any'' HT.out [97, 98, 99, 100, 98, 99, 100, 101, 99, 100, 101, 102, 100, 101, 102, 103, 101, 102, 103, 104, 102, 103, 104, 105, 103, 104, 105, 106, 104, 105, 106, 107, 105, 106, 107, 108, 106, 107, 108, 109, 107, 108, 109, 110, 108, 109, 110, 111, 109, 110, 111, 112, 110, 111, 112, 113] (some ⟨x.heap.size, 0, none⟩) 56 56 rfl _ (fun g hg => bytes_at' (l := [97, 98, 99, 100, 98, 99, 100, 101, 99, 100, 101, 102, 100, 101, 102, 103, 101, 102, 103, 104, 102, 103, 104, 105, 103, 104, 105, 106, 104, 105, 106, 107, 105, 106, 107, 108, 106, 107, 108, 109, 107, 108, 109, 110, 108, 109, 110, 111, 109, 110, 111, 112, 110, 111, 112, 113]) (t := 5) (by intro y hy; simp at hy; omega) (by simp at hg; omega) (heap_alloc_new x _)) (by omega) (by omega) (by omega) hq.1.2.2.1).mono ?_
                rintro e x' ⟨h1, h2⟩
                exact ⟨by rw [h1, HD6.out], ((Below.refl _ x).alloc (Nat.le_refl _) _).trans (h2.mono (by simp))⟩
              have SUL : Hid (∀ x, QQ w w.heap.size GL LA x → Calls Tryd.prog 11 #[.pointer (some ⟨w.heap.size, 0, none⟩)] x fun e x' => e = .returned (.agg DL) ∧ Hid (Below x.heap.size x x')) := fun x hx => by
                refine (sum_st HT.out hx.1 (by rw [HLN.out.1]; omega)).mono ?_
                rintro e x' ⟨h1, _, h2⟩
                exact ⟨by rw [h1, HDL.out], h2⟩
              have OFL : Hid (∀ x, QQ w w.heap.size GL LA x → Calls Tryd.prog 9 #[.slice (some ⟨GL, 0, none⟩) 1000 1000] x fun e x' => e = .returned (.agg DL) ∧ Hid (Below x.heap.size x x')) := fun x hx => by
                refine (of_any'' HT.out LA (some ⟨GL, 0, none⟩) 1000 1000 HLN.out.1 x (fun g hg => (bat_row hx.2 HLN.out.2).bytes g hg) (by omega) (by omega) (by omega) hx.1.2.2.1).mono ?_
                rintro e x' ⟨h1, h2⟩
                exact ⟨by rw [h1, HDL.out], h2⟩
              have KNW : Hid (∀ x, QQ w w.heap.size GL LA x → Calls Tryd.prog 12 #[] x fun e x' => e = .returned (.bool true) ∧ Hid (Below x.heap.size x x')) := fun x hx => (known_any HT.out x hx.1.2.2.1).mono fun e x' hh => ⟨hh.1, hh.2⟩
              clear HT Ht Hk HLA HLN HD0 HD6 HDL HG0
              go_wp2_with (first
                | (go_at_call 12; have Q := Q9.out; refine (KNW.out _ Q).mono ?_; rintro e y10 ⟨rfl, hb⟩; have Q10 : Hid (QQ w w.heap.size GL LA y10) := Q.below hb.out; clear Q9 Q hb)
                | (go_at_call 9; have Q := Q8.out; refine (OFL.out _ Q).mono ?_; rintro e y9 ⟨rfl, hb⟩; have Q9 : Hid (QQ w w.heap.size GL LA y9) := Q.below hb.out; clear Q8 Q hb)
                | (go_at_call 11; have Q := Q7.out; refine (SUL.out _ Q).mono ?_; rintro e y8 ⟨rfl, hb⟩; have Q8 : Hid (QQ w w.heap.size GL LA y8) := Q.below hb.out; clear Q7 Q hb)
                | (go_at_call 10; have Q := Q6.out; refine (SM6.out _).mono ?_; rintro e y7 ⟨rfl, hb⟩; have Q7 : Hid (QQ w w.heap.size GL LA y7) := Q.below hb.out; clear Q6 Q hb)
                | (go_at_call 9; have Q := Q5.out; refine (OF6.out _ Q).mono ?_; rintro e y6 ⟨rfl, hb⟩; have Q6 : Hid (QQ w w.heap.size GL LA y6) := Q.below hb.out; clear Q5 Q hb)
                | (go_at_call 9; have Q := Q4.out; refine (OFN.out _ Q).mono ?_; rintro e y5 ⟨rfl, hb⟩; have Q5 : Hid (QQ w w.heap.size GL LA y5) := Q.below hb.out; clear Q4 Q hb)
                | (go_at_call 11; have Q := Q3.out; refine (SUN.out _ _ Q HN3.out).mono ?_; rintro e y4 ⟨rfl, hb⟩; have Q4 : Hid (QQ w w.heap.size GL LA y4) := Q.below hb.out; clear Q3 HN3 Q hb)
                | (go_at_call 5; have Q := Q2.out; refine (new_any _).mono ?_; rintro e y3 ⟨rfl, hh, hb, _⟩; have Q3 : Hid (QQ w w.heap.size GL LA y3) := Q.below hb; have HN3 := Lib.hid hh; clear Q2 Q hb hh)
                | (go_at_call 10; have Q := Q1.out; refine (SMN.out _).mono ?_; rintro e y2 ⟨rfl, hb⟩; have Q2 : Hid (QQ w w.heap.size GL LA y2) := Q.below hb.out; clear Q1 Q hb)
                | (go_at_call 9; have Q := Q0.out; refine (OFN.out _ Q).mono ?_; rintro e y1 ⟨rfl, hb⟩; have Q1 : Hid (QQ w w.heap.size GL LA y1) := Q.below hb.out; clear Q0 Q hb))
              go_ret
              exact ⟨rfl, Q10.out.1.2.1⟩

end Go.Proofs.YtjidkkehhglahaaDoor
