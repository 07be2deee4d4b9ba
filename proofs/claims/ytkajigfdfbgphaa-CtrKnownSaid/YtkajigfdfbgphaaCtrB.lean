/-
  Contracts: ctr.stream and the closure that it answers; bytes.Clone.
-/
import Derived.Test.YtkajigfdfbgphaaCtrA
import Derived.Test.YtkajigfdfbgphaaAnyH
import Derived.Deep.QuietTactic
import Derived.BigQuiet
namespace Go.Proofs.Ytkajigfdfbgphaa
open Go.RowKit

/-- Of what was there only the blocks a and b may have turned. -/
structure Only2 (a b : Nat) (w w' : World) : Prop where
  os : w'.os = w.os
  tape : w'.tape = w.tape
  output : w'.output = w.output
  size : w.heap.size ≤ w'.heap.size
  block : ∀ k, k < w.heap.size → k ≠ a → k ≠ b → w'.heap[k]? = w.heap[k]?
theorem Only2.refl (a b : Nat) (w : World) : Only2 a b w w := ⟨rfl, rfl, rfl, Nat.le_refl _, fun _ _ _ _ => rfl⟩
theorem Only2.trans {a b : Nat} {x y z : World} (h : Only2 a b x y) (k : Only2 a b y z) : Only2 a b x z :=
  ⟨k.os.trans h.os, k.tape.trans h.tape, k.output.trans h.output, Nat.le_trans h.size k.size, fun i hi ha hb => (k.block i (Nat.lt_of_lt_of_le hi h.size) ha hb).trans (h.block i hi ha hb)⟩
theorem only2_of_below {a b : Nat} {w w' : World} (h : Below w.heap.size w w') : Only2 a b w w' := ⟨h.os, h.tape, h.output, h.size, fun k hk _ _ => h.block k hk⟩
theorem only2_left {a b : Nat} {w w' : World} (h : Chg a w w') : Only2 a b w w' := ⟨h.os, h.tape, h.output, by rw [h.size]; exact Nat.le_refl _, fun k _ hk _ => h.block k hk⟩
theorem only2_right {a b : Nat} {w w' : World} (h : Chg b w w') : Only2 a b w w' := ⟨h.os, h.tape, h.output, by rw [h.size]; exact Nat.le_refl _, fun k _ _ hk => h.block k hk⟩
theorem Only2.below {a b B : Nat} {w0 w w' : World} (h : Only2 a b w w') (hb : Below B w0 w) (ha : B ≤ a) (hb2 : B ≤ b) (hB : B ≤ w.heap.size) : Below B w0 w' :=
  hb.trans ⟨h.os, h.tape, h.output, h.size, fun k hk => h.block k (by omega) (by omega) (by omega)⟩

/-- A stream under way: its block at gb, its counter at gi, the cipher's box at gc. -/
structure Strm (w : World) (gb gi gc c : Nat) (ks : List Int) (e n : Int) (i : Nat) : Prop where
  blk : ∃ z, w.heap[gb]? = some (.cells ((Ctr.cb e n z).map (Value.int .u8)).toArray 35 (0, 0))
  ctr : w.heap[gi]? = some (.cells #[.int .u64 (i : Int)] 82 (0, 0))
  box : w.heap[gc]? = some (.cells #[.pointer (some ⟨c, 0, none⟩)] 26 (0, 0))
  cip : Ciph w c Aes.TB ks
  ne : gb ≠ gi ∧ gb ≠ gc ∧ gi ≠ gc
theorem Strm.keep {w x : World} {gb gi gc c : Nat} {ks : List Int} {e n : Int} {i : Nat} (h : Strm w gb gi gc c ks e n i) (hb : Below w.heap.size w x) : Strm x gb gi gc c ks e n i := by
  obtain ⟨z, hz⟩ := h.blk
  exact ⟨⟨z, (hb.block _ (lt_of_block hz)).trans hz⟩, (hb.block _ (lt_of_block h.ctr)).trans h.ctr, (hb.block _ (lt_of_block h.box)).trans h.box, h.cip.below hb (Nat.le_refl _), h.ne⟩
theorem Ciph.chg {w w' : World} {c g : Nat} {T ks : List Int} {A : Array Value} {t : TypeId} {fr : Nat × Nat} (h : Ciph w c T ks) (hg : w.heap[g]? = some (.cells A t fr)) (h1 : t ≠ 51) (h2 : t ≠ 56) (ho : Chg g w w') : Ciph w' c T ks := by
  obtain ⟨kb, n, cap, base, hc, hlen, hown⟩ := h
  have hcg : c ≠ g := fun e => by
    subst e
    rw [hc] at hg
    simp only [Option.some.injEq, Obj.cells.injEq] at hg
    exact h1 hg.2.1.symm
  refine ⟨kb, n, cap, base, (ho.block _ hcg).trans hc, hlen, hown.1, ?_⟩
  rcases hown.2 with ⟨h', _⟩ | ⟨g', cap', cur, hv, q0, q1, q2⟩
  · cases h'
  · refine Or.inr ⟨g', cap', cur, hv, q0, (ho.block _ (fun e => ?_)).trans q1, q2⟩
    subst e
    rw [q1] at hg
    simp only [Option.some.injEq, Obj.cells.injEq] at hg
    exact h2 hg.2.1.symm
/-- The stream's own block is written over. -/
theorem Strm.turn {w x : World} {gb gi gc c : Nat} {ks : List Int} {e n z : Int} {i : Nat} (h : Strm w gb gi gc c ks e n i) (hg : x.heap[gb]? = some (.cells ((Ctr.cb e n z).map (Value.int .u8)).toArray 35 (0, 0))) (ho : Chg gb w x) : Strm x gb gi gc c ks e n i := by
  obtain ⟨z', hz⟩ := h.blk
  exact ⟨⟨z, hg⟩, (ho.block _ h.ne.1.symm).trans h.ctr, (ho.block _ h.ne.2.1.symm).trans h.box, h.cip.chg hz (by decide) (by decide) ho, h.ne⟩
/-- Its counter goes on. -/
theorem Strm.count {w x : World} {gb gi gc c : Nat} {ks : List Int} {e n : Int} {i j : Nat} (h : Strm w gb gi gc c ks e n i) (hg : x.heap[gi]? = some (.cells #[.int .u64 (j : Int)] 82 (0, 0))) (ho : Chg gi w x) : Strm x gb gi gc c ks e n j := by
  obtain ⟨z', hz⟩ := h.blk
  exact ⟨⟨z', (ho.block _ h.ne.1).trans hz⟩, hg, (ho.block _ h.ne.2.2.symm).trans h.box, h.cip.chg h.ctr (by decide) (by decide) ho, h.ne⟩
/-- The i-th block of a stream. -/
def Ctr.sblk (ks : List Int) (N : Nat) (e n : Int) (i : Nat) : List Int := Aes.blk Aes.TB ks N (Ctr.cb e n (i : Int))
theorem sblk_len (ks : List Int) (N : Nat) (e n : Int) (i : Nat) : (Ctr.sblk ks N e n i).length = 16 := Aes.blk_len _ _ _ _
theorem sblk_byt (ks : List Int) (N : Nat) (e n : Int) (i : Nat) : Sha.Byt (Ctr.sblk ks N e n i) := Aes.blk_byt _ _ _ _
def NextSay (gb gi gc c : Nat) (ks : List Int) (N : Nat) (e n : Int) (i : Nat) (w : World) (r : Ending) (w' : World) : Prop :=
  r = .returned (Bk (Ctr.sblk ks N e n i)) ∧ Strm w' gb gi gc c ks e n (i + 1) ∧ Only2 gb gi w w'

set_option maxHeartbeats 4000000 in
set_option maxRecDepth 100000 in
theorem next_any (gb gi gc c : Nat) (ks : List Int) (N : Nat) (e n : Int) (i : Nat) (hn : ks.length = 4 * (N + 2)) (hN : N ≤ 100) (hi : i < 4294967296) (w : World) (hS : Strm w gb gi gc c ks e n i) :
    Calls Try.prog 51 #[.pointer (some ⟨gb, 0, none⟩), .pointer (some ⟨gi, 0, none⟩), .pointer (some ⟨gc, 0, none⟩)] w (NextSay gb gi gc c ks N e n i w) := by
  have HS := Lib.hid hS; clear hS
  have HN := Lib.hid (And.intro hn hN); clear hn hN
  go_enter Try.func51, Try.ntmps51
  go_upto_region 1 with fail
  have HR1 : Hid ((w.alloc (.cells #[.int .u8 0, .int .u8 0, .int .u8 0, .int .u8 0, .int .u8 0, .int .u8 0, .int .u8 0, .int .u8 0, .int .u8 0, .int .u8 0, .int .u8 0, .int .u8 0, .int .u8 0, .int .u8 0, .int .u8 0, .int .u8 0] 35)).heap[w.heap.size]? = some (.cells (List.replicate 16 (Value.int .u8 0)).toArray 35 (0, 0))) := heap_alloc_new w _
  have HO1 : Hid (Only2 gb gi w (w.alloc (.cells #[.int .u8 0, .int .u8 0, .int .u8 0, .int .u8 0, .int .u8 0, .int .u8 0, .int .u8 0, .int .u8 0, .int .u8 0, .int .u8 0, .int .u8 0, .int .u8 0, .int .u8 0, .int .u8 0, .int .u8 0, .int .u8 0] 35))) := only2_of_below ((Below.refl _ w).alloc (Nat.le_refl _) _)
  have HS1 : Hid (Strm (w.alloc (.cells #[.int .u8 0, .int .u8 0, .int .u8 0, .int .u8 0, .int .u8 0, .int .u8 0, .int .u8 0, .int .u8 0, .int .u8 0, .int .u8 0, .int .u8 0, .int .u8 0, .int .u8 0, .int .u8 0, .int .u8 0, .int .u8 0] 35)) gb gi gc c ks e n i) := HS.out.keep ((Below.refl _ w).alloc (Nat.le_refl _) _)
  have HL : Hid (gb < w.heap.size ∧ gi < w.heap.size ∧ gc < w.heap.size) := ⟨lt_of_block HS.out.blk.choose_spec, lt_of_block HS.out.ctr, lt_of_block HS.out.box⟩
  clear HS
  generalize w.alloc (.cells #[.int .u8 0, .int .u8 0, .int .u8 0, .int .u8 0, .int .u8 0, .int .u8 0, .int .u8 0, .int .u8 0, .int .u8 0, .int .u8 0, .int .u8 0, .int .u8 0, .int .u8 0, .int .u8 0, .int .u8 0, .int .u8 0] 35) = w1 at *
  refine wp_region_any (by kernel_rfl) ?_
  change wpAny _ _ _ _ _ _ _ (World.drew _)
  have HR2 : Hid (w1.drew.heap[w.heap.size]? = some (.cells (List.replicate 16 (Value.int .u8 0)).toArray 35 (0, 0))) := HR1.out
  have HO2 : Hid (Only2 gb gi w w1.drew) := HO1.out.trans (only2_of_below (Below.refl _ _).drew)
  have HS2 : Hid (Strm w1.drew gb gi gc c ks e n i) := HS1.out.keep (Below.refl _ _).drew
  clear HR1 HO1 HS1
  generalize w1.drew = w2 at *
  have Sz0 : Hid (w2.cell? ⟨gi, 0, none⟩ = some (.int .u64 (i : Int))) := by show _ = _; rw [cell_of_row w2 gi 0 _ _ _ HS2.out.ctr]; rfl
  refine wpAny_of_held (S := fun x : World => x.cell? ⟨gi, 0, none⟩ = some (.int .u64 (i : Int))) _ _ _ _ ?_
  refine anyH_take 0 4 (.slice (some ⟨gb, 12, none⟩) 4 4) Sz0.out rfl (by kernel_rfl) (by kernel_rfl) (by kernel_rfl) (fun _ _ _ h => h) (by rfl) (by intro x hx; go_simp; try (intro h; omega)) ?_
  try simp only [Act.put, List.setIfInBounds_toArray, List.set_cons_zero, List.set_cons_succ]
  refine anyH_take 1 5 (.int .u64 (i : Int)) Sz0.out rfl (by kernel_rfl) (by kernel_rfl) (by kernel_rfl) (fun _ _ _ h => h) (by rfl) (by intro x hx; go_simp; try (intro h; omega)) ?_
  try simp only [Act.put, List.setIfInBounds_toArray, List.set_cons_zero, List.set_cons_succ]
  obtain ⟨z, hz⟩ := HS2.out.blk
  have hi64 : 0 ≤ (i : Int) ∧ (i : Int) < 18446744073709551616 := by omega
  refine anyH_one 2 (by kernel_rfl) ?_
  refine wpOp_step rfl (fun Kc hKc => ?_)
  go_simp
  refine (put_any (Ctr.cb e n z) gb 12 4 4 (i : Int) (Ctr.cb_len _ _ _) (by omega) hi64 _ hz).mono ?_
  rintro r w3 ⟨rfl, G3, ch3⟩
  have HG3 : Hid (w3.heap[gb]? = some (.cells ((Ctr.cb e n (i : Int)).map (Value.int .u8)).toArray 35 (0, 0))) := by
    have h := G3.out
    rw [Ctr.pt_place] at h
    exact h
  have HS3 := Lib.hid (HS2.out.turn HG3.out ch3)
  have HO3 : Hid (Only2 gb gi w w3) := HO2.out.trans (only2_left ch3)
  have HR3 : Hid (w3.heap[w.heap.size]? = some (.cells (List.replicate 16 (Value.int .u8 0)).toArray 35 (0, 0))) := (ch3.block _ (by have := HL.out; omega)).trans HR2.out
  have Sz3 : Hid (w3.cell? ⟨gi, 0, none⟩ = some (.int .u64 (i : Int))) := by show _ = _; rw [cell_of_row w3 gi 0 _ _ _ HS3.out.ctr]; rfl
  clear G3 ch3 hz HO2 HR2 Sz0 HS2
  dsimp only
  refine hKc _ _ ⟨Sz3.out, ?_⟩
  clear hKc Kc
  try simp only [Act.put, List.setIfInBounds_toArray, List.set_cons_zero, List.set_cons_succ]
  refine anyH_done (by kernel_rfl) ?_ _
  have f3 := frozen_of_row w3 gi 0 _ _ HS3.out.ctr
  have c3 := Sz3.out
  have hw3 : (i : Int) + 1 < 18446744073709551616 := by omega
  go_upto_region 3 with fail
  have ch4 : Chg gi w3 (w3.setCell ⟨gi, 0, none⟩ (.int .u64 ((i : Int) + 1))) := Chg.setCell w3 ⟨gi, 0, none⟩ _
  have HC4 : Hid ((w3.setCell ⟨gi, 0, none⟩ (.int .u64 ((i : Int) + 1))).heap[gi]? = some (.cells #[.int .u64 (((i + 1 : Nat)) : Int)] 82 (0, 0))) := by
    show _ = _
    rw [heap_setCell_same w3 gi 0 _ _ _ HS3.out.ctr]
    rfl
  have HS4 : Hid (Strm (w3.setCell ⟨gi, 0, none⟩ (.int .u64 ((i : Int) + 1))) gb gi gc c ks e n (i + 1)) := HS3.out.count HC4.out ch4
  have HG4 : Hid ((w3.setCell ⟨gi, 0, none⟩ (.int .u64 ((i : Int) + 1))).heap[gb]? = some (.cells ((Ctr.cb e n (i : Int)).map (Value.int .u8)).toArray 35 (0, 0))) := (ch4.block _ HS3.out.ne.1).trans HG3.out
  have HR4 : Hid ((w3.setCell ⟨gi, 0, none⟩ (.int .u64 ((i : Int) + 1))).heap[w.heap.size]? = some (.cells (List.replicate 16 (Value.int .u8 0)).toArray 35 (0, 0))) := (ch4.block _ (by have := HL.out; omega)).trans HR3.out
  have HO4 : Hid (Only2 gb gi w (w3.setCell ⟨gi, 0, none⟩ (.int .u64 ((i : Int) + 1)))) := HO3.out.trans (only2_right ch4)
  clear ch4 HC4 c3 f3 hw3 Sz3 HS3 HR3 HO3 HG3
  generalize w3.setCell ⟨gi, 0, none⟩ (.int .u64 ((i : Int) + 1)) = w4 at *
  have c4 : w4.cell? ⟨gc, 0, none⟩ = some (.pointer (some ⟨c, 0, none⟩)) := by rw [cell_of_row w4 gc 0 _ _ _ HS4.out.box]; rfl
  obtain ⟨A, HA1, HA2⟩ : ∃ A : Array Value, Hid (A = ((Ctr.cb e n (i : Int)).map (Value.int .u8)).toArray) ∧ Hid (A.size = 16) := ⟨_, rfl, by show _ = _; simp [Ctr.cb_len]⟩
  rw [← HA1.out] at HG4
  obtain ⟨X, HX1, HX2, HX3⟩ : ∃ X : Array Value, Hid (X = ((Ctr.sblk ks N e n i).map (Value.int .u8)).toArray) ∧ Hid (X.size = 16) ∧ Hid (X.all (·.oneCell') = true) := ⟨_, rfl, by show _ = _; simp [sblk_len], u8_all _⟩
  have HBK : Hid (Calls Try.prog 15 #[.pointer (some ⟨c, 0, none⟩), .agg A] w4 fun r w' => r = .returned (.agg X) ∧ Below w4.heap.size w4 w') := by
    have h := block_any ks (Ctr.cb e n (i : Int)) N c w4 HS4.out.cip HN.out.1 HN.out.2 (Ctr.cb_len _ _ _) (Ctr.cb_byt _ _ _)
    unfold Bk at h
    rw [← HA1.out] at h
    rw [HX1.out]
    exact h.mono fun r w' hh => ⟨hh.1, hh.2⟩
  go_wp2_with (first
    | ((with_reducible refine row_load _ _ _ _ _ _ _ ?_ HG4.out Try.underlying35 ?_ (row_size Try.size16 HA2) ?_); (exact rfl); (exact rfl))
    | (go_at_call 15; refine HBK.out.mono ?_; rintro r w5 ⟨rfl, hb5⟩; have HS5 := Lib.hid (HS4.out.keep hb5); have HO5 : Hid (Only2 gb gi w w5) := HO4.out.trans (only2_of_below hb5); have HR5 : Hid (w5.heap[w.heap.size]? = some (.cells (List.replicate 16 (Value.int .u8 0)).toArray 35 (0, 0))) := (hb5.block _ (lt_of_block HR4.out)).trans HR4.out; clear hb5)
    | ((with_reducible refine row_store _ _ _ _ _ _ _ ?_ ?_ HR5.out (row_size Try.size16 HX2) ?_ HX3.out ?_); (exact rfl); (exact rfl); (rw [HX2.out]; rfl); intro w6 G6 ch6))
  refine bodyPost_ret (results_cell_row rfl _ _ w.heap.size 35 X (0, 0) _ rfl G6.out Try.underlying35 rfl (row_size Try.size16 HX2)) rfl ⟨?_, ?_, ?_⟩
  · rw [HX1.out, Bk]
  · have hb := HL.out
    obtain ⟨z', hz'⟩ := HS5.out.blk
    exact ⟨⟨z', (ch6.block _ (by omega)).trans hz'⟩, (ch6.block _ (by omega)).trans HS5.out.ctr, (ch6.block _ (by omega)).trans HS5.out.box, HS5.out.cip.chg HR5.out (by decide) (by decide) ch6, HS5.out.ne⟩
  · have ho := HO5.out
    exact ⟨ch6.os.trans ho.os, ch6.tape.trans ho.tape, ch6.output.trans ho.output, by rw [ch6.size]; exact ho.size, fun k hk ha hb => (ch6.block k (by omega)).trans (ho.block k hk ha hb)⟩

/-- What stream says. -/
def StrmSay (c : Nat) (ks : List Int) (e n : Int) (w : World) (r : Ending) (w' : World) : Prop :=
  ∃ gb gi gc, r = .returned (.func (.func 51) #[] #[.pointer (some ⟨gb, 0, none⟩), .pointer (some ⟨gi, 0, none⟩), .pointer (some ⟨gc, 0, none⟩)]) ∧ w.heap.size ≤ gb ∧ w.heap.size ≤ gi ∧ w.heap.size ≤ gc ∧ Strm w' gb gi gc c ks e n 0 ∧ Below w.heap.size w w'
set_option maxHeartbeats 4000000 in
set_option maxRecDepth 100000 in
theorem stream_any (c : Nat) (ks : List Int) (e n : Int) (w : World) (hC : Ciph w c Aes.TB ks) :
    Calls Try.prog 39 #[.pointer (some ⟨c, 0, none⟩), .int .i64 e, .int .i64 n] w (StrmSay c ks (e % 18446744073709551616) (n % 18446744073709551616) w) := by
  have HC := Lib.hid hC; clear hC
  go_enter Try.func39, Try.ntmps39
  go_upto_region 2 with fail
  have HG1 : Hid (((w.alloc (.cells #[.pointer (some ⟨c, 0, none⟩)] 26)).alloc (.cells #[.int .u8 0, .int .u8 0, .int .u8 0, .int .u8 0, .int .u8 0, .int .u8 0, .int .u8 0, .int .u8 0, .int .u8 0, .int .u8 0, .int .u8 0, .int .u8 0, .int .u8 0, .int .u8 0, .int .u8 0, .int .u8 0] 35)).heap[w.heap.size + 1]? = some (.cells ((List.replicate 16 (0 : Int)).map (Value.int .u8)).toArray 35 (0, 0))) := heap_alloc2_new w _ _
  have HX1 : Hid (((w.alloc (.cells #[.pointer (some ⟨c, 0, none⟩)] 26)).alloc (.cells #[.int .u8 0, .int .u8 0, .int .u8 0, .int .u8 0, .int .u8 0, .int .u8 0, .int .u8 0, .int .u8 0, .int .u8 0, .int .u8 0, .int .u8 0, .int .u8 0, .int .u8 0, .int .u8 0, .int .u8 0, .int .u8 0] 35)).heap[w.heap.size]? = some (.cells #[.pointer (some ⟨c, 0, none⟩)] 26 (0, 0))) := heap_alloc2_old w _ _
  have HB1 : Hid (Below w.heap.size w ((w.alloc (.cells #[.pointer (some ⟨c, 0, none⟩)] 26)).alloc (.cells #[.int .u8 0, .int .u8 0, .int .u8 0, .int .u8 0, .int .u8 0, .int .u8 0, .int .u8 0, .int .u8 0, .int .u8 0, .int .u8 0, .int .u8 0, .int .u8 0, .int .u8 0, .int .u8 0, .int .u8 0, .int .u8 0] 35))) := ((Below.refl _ w).alloc (Nat.le_refl _) _).alloc (by simp) _
  have HZ1 : Hid (((w.alloc (.cells #[.pointer (some ⟨c, 0, none⟩)] 26)).alloc (.cells #[.int .u8 0, .int .u8 0, .int .u8 0, .int .u8 0, .int .u8 0, .int .u8 0, .int .u8 0, .int .u8 0, .int .u8 0, .int .u8 0, .int .u8 0, .int .u8 0, .int .u8 0, .int .u8 0, .int .u8 0, .int .u8 0] 35)).heap.size = w.heap.size + 2) := by show _ = _; simp
  generalize (w.alloc (.cells #[.pointer (some ⟨c, 0, none⟩)] 26)).alloc (.cells #[.int .u8 0, .int .u8 0, .int .u8 0, .int .u8 0, .int .u8 0, .int .u8 0, .int .u8 0, .int .u8 0, .int .u8 0, .int .u8 0, .int .u8 0, .int .u8 0, .int .u8 0, .int .u8 0, .int .u8 0, .int .u8 0] 35) = w1 at *
  have he : 0 ≤ e % 18446744073709551616 ∧ e % 18446744073709551616 < 18446744073709551616 := ⟨by omega, by omega⟩
  have hn : 0 ≤ n % 18446744073709551616 ∧ n % 18446744073709551616 < 18446744073709551616 := ⟨by omega, by omega⟩
  have tok1 : Hid (1 = 1) := rfl
  have hp0 : Hid ((Ctr.pt (List.replicate 16 0) 0 6 (e % 18446744073709551616) 6).length = 16) := by show _ = _; rw [Ctr.pt_len]; rfl
  go_upto_region 4 with (first
    | (go_at_call 50; have _t := tok1.out; refine (put_any (List.replicate 16 0) (w.heap.size + 1) 0 6 6 (e % 18446744073709551616) rfl (by omega) he _ HG1.out).mono ?_; clear tok1; rintro r w2 ⟨rfl, HG2, ch2⟩)
    | (go_at_call 50; refine (put_any (Ctr.pt (List.replicate 16 0) 0 6 (e % 18446744073709551616) 6) (w.heap.size + 1) 6 6 6 (n % 18446744073709551616) hp0.out (by omega) hn _ HG2.out).mono ?_; rintro r w3 ⟨rfl, HG3, ch3⟩))
  have HG3' : Hid (w3.heap[w.heap.size + 1]? = some (.cells ((Ctr.cb (e % 18446744073709551616) (n % 18446744073709551616) 0).map (Value.int .u8)).toArray 35 (0, 0))) := by
    have h := HG3.out
    rw [Ctr.pt_start] at h
    exact h
  have ch := ch2.trans ch3
  have HX3 : Hid (w3.heap[w.heap.size]? = some (.cells #[.pointer (some ⟨c, 0, none⟩)] 26 (0, 0))) := (ch.block _ (by omega)).trans HX1.out
  have HB3 : Hid (Below w.heap.size w w3) := ch.below HB1.out (by omega)
  have HZ3 : Hid (w3.heap.size = w.heap.size + 2) := ch.size.trans HZ1.out
  clear ch ch2 ch3 HG1 HG2 HG3 HX1 HB1 HZ1
  go_wp2
  go_ret
  have hsz := HZ3.out
  rw [hsz]
  refine ⟨w.heap.size + 1, w.heap.size + 2, w.heap.size, rfl, by omega, by omega, Nat.le_refl _, ?_, ?_⟩
  · have hb : Below w3.heap.size w3 (w3.alloc (.cells #[.int .u64 0] 82)) := (Below.refl _ w3).alloc (Nat.le_refl _) _
    refine ⟨⟨0, (hb.block _ (lt_of_block HG3'.out)).trans HG3'.out⟩, ?_, (hb.block _ (lt_of_block HX3.out)).trans HX3.out, (HC.out.below HB3.out (Nat.le_refl _)).below hb (Nat.le_refl _), by omega, by omega, by omega⟩
    rw [← hsz]
    exact heap_alloc_new w3 _
  · exact HB3.out.alloc HB3.out.size _

/-- What Clone says. -/
def ClnSay (L : List Int) (w : World) (r : Ending) (w' : World) : Prop :=
  ∃ v, r = .returned v ∧ w'.ownsRow w.heap.size 5 1 v L.length (U8s L) ∧ Below w.heap.size w w'
set_option maxHeartbeats 1000000 in
set_option maxRecDepth 100000 in
theorem clone_any (L : List Int) (p : Option Addr) (cap : Nat) (hL : L.length ≤ 1000000000) (hp0 : p = none → L = [] ∧ cap = 0) (w : World) (hp : BAt w p L) :
    Calls Try.prog 38 #[.slice p L.length cap] w (ClnSay L w) := by
  have hq := @Lib.run_eql_slice_nil Try.prog
  cases p with
  | none =>
    obtain ⟨rfl, rfl⟩ := hp0 rfl
    go_enter Try.func38, Try.ntmps38
    go_wp2
    go_ret
    exact ⟨_, rfl, by unfold U8s; exact World.ownsRow_nil _ _ _ _, Below.refl _ _⟩
  | some ad =>
    have Hp := Lib.hid hp; clear hp hp0
    have HC : Hid (∀ j u, (L.map (Value.int .u8))[j]? = some u → (w.alloc (.cells #[] 5)).cell? (ad.add j) = some u) := fun j u hj => by
      have hjl : j < L.length := by have := (List.getElem?_eq_some_iff.1 hj).1; simpa using this
      obtain ⟨ab, ao, h1, h2⟩ := Hp.out.2 (by omega)
      cases h1
      rw [Addr.add_mid, cell_alloc_old _ (h2 j hjl)]
      rw [List.getElem?_map, List.getElem?_eq_getElem hjl] at hj
      rw [List.getD_eq_getElem?_getD, List.getElem?_eq_getElem hjl]
      simpa using hj
    have HE : Hid ((w.alloc (.cells #[] 5)).ownsRow w.heap.size 5 1 (.slice (some ⟨w.heap.size, 0, none⟩) 0 0) 0 []) := by
      have h := own_empty w w.heap.size (Nat.le_refl _)
      rwa [U8s_nil] at h
    obtain ⟨i0, hi, hz0, hz1, hz2⟩ := info_parts Try.info_u8
    go_enter Try.func38, Try.ntmps38
    go_wp2_with (at_builtin; refine wpList_append_own _ rfl _ _ 22 rfl w.heap.size 5 i0 (.int .u8 0) 1 1 Try.underlying22 hi hz0 hz1 hz2 rfl (by decide) _ 0 [] rfl HE.out ad L.length cap (L.map (Value.int .u8)) rfl (by simp) HC.out (by intro u hu; rw [List.mem_map] at hu; obtain ⟨x, _, rfl⟩ := hu; rfl) (by unfold maxLen; omega) (by omega) (by simp) ?_; intro v' w1 hown hgrow _)
    go_ret
    have hl : 0 + L.length = L.length := Nat.zero_add _
    rw [hl, List.nil_append] at hown
    exact ⟨_, rfl, by unfold U8s; exact hown, ((Below.refl _ w).alloc (Nat.le_refl _) _).grown hgrow (by simp) (fun j e => by cases e; exact Nat.le_refl _)⟩
end Go.Proofs.Ytkajigfdfbgphaa
