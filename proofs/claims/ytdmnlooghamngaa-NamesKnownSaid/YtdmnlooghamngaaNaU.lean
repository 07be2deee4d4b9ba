/-
  Contract: Open, of as many bytes as may be.
-/
import Derived.Test.YtdmnlooghamngaaNaT
namespace Go.Proofs.Ytdmnlooghamngaa
open Go.RowKit

theorem row_rng {w : World} {g : Nat} {A : Array Value} {t : TypeId} {fr : Nat × Nat} (h : w.heap[g]? = some (.cells A t fr)) : w.rangeAt g 0 A.toList := fun j v hv => by
  rw [cell_of_row w g (0 + j) _ _ _ h]
  simpa using hv
theorem exec_arr {P : Program} {a : Act} {w : World} {D : Option Tmp} {T : TypeId} {ps : String} {af : Array Edge} {gd : Option (Nat × Bool)} (ty : TypeId) (x : Operand) (b o : Nat) (A : Array Value) (d : TypeDesc) (hx : a.eval x = .pointer (some ⟨b, o, none⟩)) (hc : w.rangeAt b o A.toList)
    (hu : P.underlying ty = some d) (hd : d.isRow = true) (hi : (P.info? ty).map (·.size) = some A.size) :
    (execOp a.eval { dst := D, op := .load ty x, type := T, pos := ps, after := af, guard := gd }).run P w = .ok (.value (.agg A)) w := by
  have h := run_loadAt_mid (P := P) w b o ty A.toList d hc hu hd (by simpa using hi)
  unfold execOp
  simp only [hx, h, Sem.run_bind, Sem.run_pure, Result.andThen_ok, Array.toArray_toList]
theorem BAt.take {w : World} {p : Option Addr} {l : List Int} (h : BAt w p l) (k : Nat) : BAt w p (l.take k) := by
  have h2 : BAt w p (l.take k ++ l.drop k) := by rw [List.take_append_drop]; exact h
  exact h2.pre

set_option maxHeartbeats 4000000 in
set_option maxRecDepth 100000 in
theorem open_good (S : Nm.St) (e n : Int) (h s : List Int) (g b c : Nat) (ph : Option Addr) (ab ao nh ns ch cs k : Nat) (hnh : h.length = nh) (hns : s.length = ns) (hk : ns = k + 32) (hsz : ns ≤ 1000000) (he : Nm.In64 e) (hn : Nm.In64 n)
    (w : World) (hs : StAt w g b c S) (hh : Bs w ph ch h) (hS : Bs w (some ⟨ab, ao, none⟩) cs s) :
    Calls Try.prog 20 #[.pointer (some ⟨g, 0, none⟩), .int .i64 e, .int .i64 n, .slice ph nh ch, .slice (some ⟨ab, ao, none⟩) ns cs] w (OpSay (Nm.opn S e n h s) w) := by
  obtain ⟨X, HX⟩ : ∃ X, Hid (X = s.take k) := ⟨_, rfl⟩
  have HXL : Hid (X.length = k) := by show _ = _; rw [HX.out, List.length_take]; omega
  obtain ⟨G, HGT⟩ : ∃ G, Hid (G = s.drop k) := ⟨_, rfl⟩
  have HGL : Hid (G.length = 32) := by show _ = _; rw [HGT.out, List.length_drop]; omega
  have HBX : Hid (Bs w (some ⟨ab, ao, none⟩) cs X) := ⟨by rw [HX.out]; exact hS.bat.take k, ⟨by have := hS.cap; have := HXL.out; omega, hS.cap.2⟩, fun h => by cases h⟩
  have HX4 : Hid (Nm.ok4 (e, n, h, X)) := ⟨he, hn, okt_bs hh, okt_bs HBX.out⟩
  obtain ⟨K, HK⟩ : ∃ K, Hid (K = Nm.place (e, n, h, X) S.ss) := ⟨_, rfl⟩
  obtain ⟨T, HT⟩ : ∃ T, Hid (T = Nm.tg 0 (K : Nat)) := ⟨_, rfl⟩
  have HTL : Hid (T.length = 32) := by show _ = _; rw [HT.out, Nm.tg_len]
  obtain ⟨AT, HAT⟩ : ∃ A : Array Value, Hid (A = (T.map (Value.int .u8)).toArray) := ⟨_, rfl⟩
  have HOP : Hid (Nm.opn S e n h s = if K ≠ 0 ∧ G = T then some X else none) := by
    show _ = _
    unfold Nm.opn
    rw [if_neg (by omega), hns, show ns - 32 = k by omega, ← HX.out, ← HGT.out, ← HK.out, ← HT.out]
  obtain ⟨AG, HAG1, HAG2, HAG3⟩ : ∃ A : Array Value, Hid (A = (G.map (Value.int .u8)).toArray) ∧ Hid (A.size = 32) ∧ Hid (A.all (·.oneCell') = true) :=
    ⟨_, rfl, by show _ = _; simp [HGL.out], all_oneCell_toArray (bytes_one _)⟩
  have HRG : Hid (∀ x, Below w.heap.size w x → x.rangeAt ab (ao + k) AG.toList) := fun x hx j v hv => by
    obtain ⟨ab', ao', h1, h2⟩ := (hS.old hx).bat.2 (by omega)
    cases h1
    rw [HAG1.out, HGT.out] at hv
    have hj : j < 32 := by
      have := (List.getElem?_eq_some_iff.1 hv).1
      simp at this
      omega
    rw [Nat.add_assoc, h2 (k + j) (by omega)]
    have hv2 : (s.drop k)[j]?.map (Value.int .u8) = some v := by simpa using hv
    rw [List.getElem?_drop] at hv2
    rw [List.getD_eq_getElem?_getD]
    cases hq : s[k + j]? with
    | none => rw [hq] at hv2; cases hv2
    | some y => rw [hq] at hv2; simpa using hv2
  have HLK : Hid (∀ y, Below w.heap.size w y → y.cell? ⟨g, 0, none⟩ = some (.map (some b)) ∧ (convert 30 9 (.slice ph nh ch)).run Try.prog y = .ok (.string (Nm.bts h)) y ∧ (convert 30 9 (.slice (some ⟨ab, ao, none⟩) k cs)).run Try.prog y = .ok (.string (Nm.bts X)) y ∧ (Instr.lookup 59 (.map (some b)) (.agg #[.int .i64 e, .int .i64 n, .string (Nm.bts h), .string (Nm.bts X)]) true).run Try.prog y = .ok (.tuple #[.int .i64 (K : Nat), .bool (decide (0 < K))]) y) := fun y hy => by
    refine ⟨?_, ?_, ?_, ?_⟩
    · rw [cell_of_row _ g 0 _ _ _ (hs.old hy).row]; rfl
    · rw [← hnh]; exact text_of (hh.old hy)
    · rw [← HXL.out]; exact text_of (HBX.out.old hy)
    · have h1 := (hs.old hy).ss.look kd_four Try.underlying59 HX4.out
      rw [← HK.out] at h1
      exact h1
  have hcap := hS.cap
  rw [hns] at hcap
  generalize Nm.opn S e n h s = O at *
  have hw0 : IntKind.i64.wrap ((ns : Int) - 32) = (ns : Int) - 32 := IntWalk.i64_in _ ⟨by omega, by omega⟩
  have hw1 : (ns : Int) - 32 = (k : Int) := by omega
  have hw2 : ¬ ((k : Int) < 0) := by omega
  have hnk : k + 32 - k = 32 := by omega
  have hkc : k ≤ cs := by omega
  have hck : ¬ (cs - k = 0) := by omega
  have hck2 : ¬ (cs = k) := by omega
  have hle : (k : Int) ≤ (k : Int) + 32 := by omega
  have hat : ∀ w, (Instr.arrayAt 42 (.slice (some ⟨ab, ao + k, none⟩) 32 (cs - k))).run Try.prog w = .ok (.pointer (some ⟨ab, ao + k, none⟩)) w := fun w => run_arrayAt _ _ _ 32 _ 32 _ Try.underlying42 (Nat.le_refl _)
  subst hk
  clear hs hh hS hns he hn
  have B0 : Hid (Below w.heap.size w w.drew) := (Below.refl _ w).drew
  go_enter Try.func20, Try.ntmps20
  go_upto_region 4 with (fail)
  refine wp_region_any (by kernel_rfl) ?_
  change wpAny _ _ _ _ _ _ _ (World.drew _)
  obtain ⟨w1, hw1e⟩ : ∃ x, x = w.drew := ⟨_, rfl⟩
  rw [← hw1e] at B0 ⊢
  clear hw1e
  refine wpAny_of_held (S := fun y => y.rangeAt ab (ao + k) AG.toList) _ _ _ _ ?_
  have SD := HRG.out _ B0.out
  refine anyH_take 0 22 (.slice (some ⟨ab, ao, none⟩) (k + 32) cs) SD rfl (by kernel_rfl) (by kernel_rfl) (by kernel_rfl) (fun _ _ _ h => h) (by rfl) (by intro x hx; go_simp) ?_
  try simp only [Act.put, List.setIfInBounds_toArray, List.set_cons_zero, List.set_cons_succ]
  refine anyH_take 1 23 (.int .i64 (k : Int)) SD rfl (by kernel_rfl) (by kernel_rfl) (by kernel_rfl) (fun _ _ _ h => h) (by rfl) (by intro x hx; go_simp) ?_
  try simp only [Act.put, List.setIfInBounds_toArray, List.set_cons_zero, List.set_cons_succ]
  refine anyH_take 2 24 (.slice (some ⟨ab, ao, none⟩) k cs) SD rfl (by kernel_rfl) (by kernel_rfl) (by kernel_rfl) (fun _ _ _ h => h) (by rfl) (by intro x hx; go_simp) ?_
  try simp only [Act.put, List.setIfInBounds_toArray, List.set_cons_zero, List.set_cons_succ]
  refine anyH_take 3 25 (.slice (some ⟨ab, ao, none⟩) (k + 32) cs) SD rfl (by kernel_rfl) (by kernel_rfl) (by kernel_rfl) (fun _ _ _ h => h) (by rfl) (by intro x hx; go_simp) ?_
  try simp only [Act.put, List.setIfInBounds_toArray, List.set_cons_zero, List.set_cons_succ]
  refine anyH_take 4 26 (.int .i64 (k : Int)) SD rfl (by kernel_rfl) (by kernel_rfl) (by kernel_rfl) (fun _ _ _ h => h) (by rfl) (by intro x hx; go_simp) ?_
  try simp only [Act.put, List.setIfInBounds_toArray, List.set_cons_zero, List.set_cons_succ]
  refine anyH_take 5 27 (.slice (some ⟨ab, ao + k, none⟩) 32 (cs - k)) SD rfl (by kernel_rfl) (by kernel_rfl) (by kernel_rfl) (fun _ _ _ h => h) (by rfl) (by intro x hx; go_simp) ?_
  try simp only [Act.put, List.setIfInBounds_toArray, List.set_cons_zero, List.set_cons_succ]
  refine anyH_take 6 28 (.pointer (some ⟨ab, ao + k, none⟩)) SD rfl (by kernel_rfl) (by kernel_rfl) (by kernel_rfl) (fun _ _ _ h => h) (by rfl) (by intro x hx; go_simp) ?_
  try simp only [Act.put, List.setIfInBounds_toArray, List.set_cons_zero, List.set_cons_succ]
  refine anyH_take 7 29 (.agg AG) SD rfl (by kernel_rfl) (by kernel_rfl) (by kernel_rfl) (fun _ _ _ h => h) (by rfl) (fun x hx => exec_arr 42 (.tmp 28) ab (ao + k) AG _ rfl hx Try.underlying42 rfl (row_size Try.sizeSum HAG2)) ?_
  try simp only [Act.put, List.setIfInBounds_toArray, List.set_cons_zero, List.set_cons_succ]
  have BA1 : Hid (∀ C, Below w.heap.size w (w1.alloc C)) := fun C => B0.out.alloc B0.out.size C
  refine anyH_one 8 (by kernel_rfl) ?_
  refine wpOp_step rfl (fun Kc hKc => ?_)
  go_simp
  refine hKc _ _ ⟨HRG.out _ (BA1.out _), ?_⟩
  clear hKc Kc SD
  try simp only [Act.put, List.setIfInBounds_toArray, List.set_cons_zero, List.set_cons_succ]
  have SD := HRG.out _ (BA1.out (.cells #[.int .u8 0, .int .u8 0, .int .u8 0, .int .u8 0, .int .u8 0, .int .u8 0, .int .u8 0, .int .u8 0, .int .u8 0, .int .u8 0, .int .u8 0, .int .u8 0, .int .u8 0, .int .u8 0, .int .u8 0, .int .u8 0, .int .u8 0, .int .u8 0, .int .u8 0, .int .u8 0, .int .u8 0, .int .u8 0, .int .u8 0, .int .u8 0, .int .u8 0, .int .u8 0, .int .u8 0, .int .u8 0, .int .u8 0, .int .u8 0, .int .u8 0, .int .u8 0] 42))
  refine anyH_take 9 13 (.slice (some ⟨ab, ao, none⟩) k cs) SD rfl (by kernel_rfl) (by kernel_rfl) (by kernel_rfl) (fun _ _ _ h => h) (by rfl) (by intro x hx; go_simp) ?_
  try simp only [Act.put, List.setIfInBounds_toArray, List.set_cons_zero, List.set_cons_succ]
  refine anyH_one 10 (by kernel_rfl) ?_
  refine op_store 10 42 (.tmp 14) (.tmp 29) rfl w1.heap.size 0 42 (List.replicate 32 (Value.int .u8 0)) AG rfl rfl (heap_alloc_new w1 _) (row_size Try.sizeSum HAG2) (by rw [HAG2.out]; simp) HAG3.out ?_
  intro w5 g5 ch5
  have B5 : Hid (Below w.heap.size w w5) := ch5.below (BA1.out _) B0.out.size
  refine ⟨HRG.out _ B5.out, ?_⟩
  try simp only [Act.put, List.setIfInBounds_toArray, List.set_cons_zero, List.set_cons_succ]
  refine wpAnyH_done (by kernel_rfl) ?_ _
  have G5 : Hid (w5.heap[w1.heap.size]? = some (.cells AG 42 (0, 0))) := by
    have h := g5.out
    have e : splice (List.replicate 32 (Value.int .u8 0)) 0 AG.toList = AG.toList := by
      unfold splice
      rw [List.take_zero, List.nil_append, Array.length_toList, HAG2.out, List.drop_of_length_le (by simp), List.append_nil]
    rw [e, Array.toArray_toList] at h
    exact h
  clear g5 ch5 BA1 B0 SD
  generalize w1.heap.size = g1 at *
  go_upto_region 5 with (fail)
  refine wp_region_any (by kernel_rfl) ?_
  change wpAny _ _ _ _ _ _ _ (World.drew _)
  have B6 : Hid (Below w.heap.size w w5.drew) := B5.out.drew
  have G6 : Hid (w5.drew.heap[g1]? = some (.cells AG 42 (0, 0))) := G5.out
  clear B5 G5
  generalize w5.drew = w6 at *
  refine wpAny_of_held (S := fun y => y.cell? ⟨g, 0, none⟩ = some (.map (some b)) ∧ (convert 30 9 (.slice ph nh ch)).run Try.prog y = .ok (.string (Nm.bts h)) y ∧ (convert 30 9 (.slice (some ⟨ab, ao, none⟩) k cs)).run Try.prog y = .ok (.string (Nm.bts X)) y ∧ (Instr.lookup 59 (.map (some b)) (.agg #[.int .i64 e, .int .i64 n, .string (Nm.bts h), .string (Nm.bts X)]) true).run Try.prog y = .ok (.tuple #[.int .i64 (K : Nat), .bool (decide (0 < K))]) y) _ _ _ _ ?_
  have SD := Lib.hid (HLK.out _ B6.out)
  refine anyH_take 0 31 (.pointer (some ⟨g, 0, none⟩)) SD.out rfl (by kernel_rfl) (by kernel_rfl) (by kernel_rfl) (fun _ _ _ h => h) (by rfl) (by intro x hx; obtain ⟨y0, y1, y2, y3⟩ := hx; go_simp) ?_
  try simp only [Act.put, List.setIfInBounds_toArray, List.set_cons_zero, List.set_cons_succ]
  refine anyH_take 1 32 (.pointer (some ⟨g, 0, none⟩)) SD.out rfl (by kernel_rfl) (by kernel_rfl) (by kernel_rfl) (fun _ _ _ h => h) (by rfl) (by intro x hx; obtain ⟨y0, y1, y2, y3⟩ := hx; go_simp) ?_
  try simp only [Act.put, List.setIfInBounds_toArray, List.set_cons_zero, List.set_cons_succ]
  refine anyH_take 2 33 (.pointer (some ⟨g, 0, none⟩)) SD.out rfl (by kernel_rfl) (by kernel_rfl) (by kernel_rfl) (fun _ _ _ h => h) (by rfl) (by intro x hx; obtain ⟨y0, y1, y2, y3⟩ := hx; go_simp) ?_
  try simp only [Act.put, List.setIfInBounds_toArray, List.set_cons_zero, List.set_cons_succ]
  refine anyH_take 3 34 (.map (some b)) SD.out rfl (by kernel_rfl) (by kernel_rfl) (by kernel_rfl) (fun _ _ _ h => h) (by rfl) (by intro x hx; obtain ⟨y0, y1, y2, y3⟩ := hx; go_simp) ?_
  try simp only [Act.put, List.setIfInBounds_toArray, List.set_cons_zero, List.set_cons_succ]
  refine anyH_take 4 35 (.int .i64 e) SD.out rfl (by kernel_rfl) (by kernel_rfl) (by kernel_rfl) (fun _ _ _ h => h) (by rfl) (by intro x hx; obtain ⟨y0, y1, y2, y3⟩ := hx; go_simp) ?_
  try simp only [Act.put, List.setIfInBounds_toArray, List.set_cons_zero, List.set_cons_succ]
  refine anyH_take 5 36 (.int .i64 n) SD.out rfl (by kernel_rfl) (by kernel_rfl) (by kernel_rfl) (fun _ _ _ h => h) (by rfl) (by intro x hx; obtain ⟨y0, y1, y2, y3⟩ := hx; go_simp) ?_
  try simp only [Act.put, List.setIfInBounds_toArray, List.set_cons_zero, List.set_cons_succ]
  refine anyH_take 6 37 (.slice ph nh ch) SD.out rfl (by kernel_rfl) (by kernel_rfl) (by kernel_rfl) (fun _ _ _ h => h) (by rfl) (by intro x hx; obtain ⟨y0, y1, y2, y3⟩ := hx; go_simp) ?_
  try simp only [Act.put, List.setIfInBounds_toArray, List.set_cons_zero, List.set_cons_succ]
  refine anyH_take 7 38 (.string (Nm.bts h)) SD.out rfl (by kernel_rfl) (by kernel_rfl) (by kernel_rfl) (fun _ _ _ h => h) (by rfl) (by intro x hx; obtain ⟨y0, y1, y2, y3⟩ := hx; go_simp) ?_
  try simp only [Act.put, List.setIfInBounds_toArray, List.set_cons_zero, List.set_cons_succ]
  refine anyH_take 8 39 (.slice (some ⟨ab, ao, none⟩) k cs) SD.out rfl (by kernel_rfl) (by kernel_rfl) (by kernel_rfl) (fun _ _ _ h => h) (by rfl) (by intro x hx; obtain ⟨y0, y1, y2, y3⟩ := hx; go_simp) ?_
  try simp only [Act.put, List.setIfInBounds_toArray, List.set_cons_zero, List.set_cons_succ]
  refine anyH_take 9 40 (.string (Nm.bts X)) SD.out rfl (by kernel_rfl) (by kernel_rfl) (by kernel_rfl) (fun _ _ _ h => h) (by rfl) (by intro x hx; obtain ⟨y0, y1, y2, y3⟩ := hx; go_simp) ?_
  try simp only [Act.put, List.setIfInBounds_toArray, List.set_cons_zero, List.set_cons_succ]
  refine anyH_take 10 41 (.agg #[.int .i64 e, .int .i64 n, .string (Nm.bts h), .string (Nm.bts X)]) SD.out rfl (by kernel_rfl) (by kernel_rfl) (by kernel_rfl) (fun _ _ _ h => h) (by rfl) (by intro x hx; obtain ⟨y0, y1, y2, y3⟩ := hx; go_simp) ?_
  try simp only [Act.put, List.setIfInBounds_toArray, List.set_cons_zero, List.set_cons_succ]
  refine anyH_take 11 42 (.tuple #[.int .i64 (K : Nat), .bool (decide (0 < K))]) SD.out rfl (by kernel_rfl) (by kernel_rfl) (by kernel_rfl) (fun _ _ _ h => h) (by rfl) (by intro x hx; obtain ⟨y0, y1, y2, y3⟩ := hx; go_simp) ?_
  try simp only [Act.put, List.setIfInBounds_toArray, List.set_cons_zero, List.set_cons_succ]
  refine anyH_take 12 30 (.tuple #[.int .i64 (K : Nat), .bool (decide (0 < K))]) SD.out rfl (by kernel_rfl) (by kernel_rfl) (by kernel_rfl) (fun _ _ _ h => h) (by rfl) (by intro x hx; obtain ⟨y0, y1, y2, y3⟩ := hx; go_simp) ?_
  try simp only [Act.put, List.setIfInBounds_toArray, List.set_cons_zero, List.set_cons_succ]
  refine anyH_take 13 43 (.int .i64 (K : Nat)) SD.out rfl (by kernel_rfl) (by kernel_rfl) (by kernel_rfl) (fun _ _ _ h => h) (by rfl) (by intro x hx; obtain ⟨y0, y1, y2, y3⟩ := hx; go_simp) ?_
  try simp only [Act.put, List.setIfInBounds_toArray, List.set_cons_zero, List.set_cons_succ]
  refine anyH_take 14 44 (.bool (decide (0 < K))) SD.out rfl (by kernel_rfl) (by kernel_rfl) (by kernel_rfl) (fun _ _ _ h => h) (by rfl) (by intro x hx; obtain ⟨y0, y1, y2, y3⟩ := hx; go_simp) ?_
  try simp only [Act.put, List.setIfInBounds_toArray, List.set_cons_zero, List.set_cons_succ]
  refine anyH_take 15 15 (.int .i64 (K : Nat)) SD.out rfl (by kernel_rfl) (by kernel_rfl) (by kernel_rfl) (fun _ _ _ h => h) (by rfl) (by intro x hx; obtain ⟨y0, y1, y2, y3⟩ := hx; go_simp) ?_
  try simp only [Act.put, List.setIfInBounds_toArray, List.set_cons_zero, List.set_cons_succ]
  refine anyH_take 16 16 (.bool (decide (0 < K))) SD.out rfl (by kernel_rfl) (by kernel_rfl) (by kernel_rfl) (fun _ _ _ h => h) (by rfl) (by intro x hx; obtain ⟨y0, y1, y2, y3⟩ := hx; go_simp) ?_
  try simp only [Act.put, List.setIfInBounds_toArray, List.set_cons_zero, List.set_cons_succ]
  refine wpAnyH_done (by kernel_rfl) ?_ _
  clear SD HLK
  by_cases hK : 0 < K
  · have hd : decide (0 < K) = true := by simpa using hK
    rw [hd]
    go_upto_region 6 with (fail)
    refine wp_region_any (by kernel_rfl) ?_
    change wpAny _ _ _ _ _ _ _ (World.drew _)
    have B7 : Hid (Below w.heap.size w w6.drew) := B6.out.drew
    have G7 : Hid (w6.drew.heap[g1]? = some (.cells AG 42 (0, 0))) := G6.out
    clear B6 G6
    generalize w6.drew = w7 at *
    refine wpAny_of_held (S := fun y => y.heap[g1]? = some (.cells AG 42 (0, 0))) _ _ _ _ ?_
    refine anyH_take 0 45 (.bool true) G7.out rfl (by kernel_rfl) (by kernel_rfl) (by kernel_rfl) (fun _ _ _ h => h) (by rfl) (by intro x hx; go_simp) ?_
    try simp only [Act.put, List.setIfInBounds_toArray, List.set_cons_zero, List.set_cons_succ]
    refine anyH_take 1 46 (.bool false) G7.out rfl (by kernel_rfl) (by kernel_rfl) (by kernel_rfl) (fun _ _ _ h => h) (by rfl) (by intro x hx; go_simp) ?_
    try simp only [Act.put, List.setIfInBounds_toArray, List.set_cons_zero, List.set_cons_succ]
    refine anyH_take 2 47 (.bool false) G7.out rfl (by kernel_rfl) (by kernel_rfl) (by kernel_rfl) (fun _ _ _ h => h) (by rfl) (by intro x hx; go_simp) ?_
    try simp only [Act.put, List.setIfInBounds_toArray, List.set_cons_zero, List.set_cons_succ]
    refine anyH_take 3 48 (.agg AG) G7.out rfl (by kernel_rfl) (by kernel_rfl) (by kernel_rfl) (fun _ _ _ h => h) (by rfl) (fun x hx => exec_arr 42 (.tmp 14) g1 0 AG _ rfl (row_rng hx) Try.underlying42 rfl (row_size Try.sizeSum HAG2)) ?_
    try simp only [Act.put, List.setIfInBounds_toArray, List.set_cons_zero, List.set_cons_succ]
    refine anyH_take 4 49 (.int .i64 (K : Nat)) G7.out rfl (by kernel_rfl) (by kernel_rfl) (by kernel_rfl) (fun _ _ _ h => h) (by rfl) (by intro x hx; go_simp) ?_
    try simp only [Act.put, List.setIfInBounds_toArray, List.set_cons_zero, List.set_cons_succ]
    refine anyH_one 5 (by kernel_rfl) ?_
    refine wpOp_step rfl (fun Kc hKc => ?_)
    go_simp
    refine (ending_any _ _ _).mono ?_
    rintro e8 w8 ⟨rfl, hb8⟩
    have B8 : Hid (Below w.heap.size w w8) := B7.out.trans (hb8.mono B7.out.size)
    have G8 : Hid (w8.heap[g1]? = some (.cells AG 42 (0, 0))) := (hb8.block _ (lt_of_block G7.out)).trans G7.out
    clear hb8
    rw [← HT.out, show A32 T = .agg AT from by rw [HAT.out]; rfl]
    dsimp only
    refine hKc _ _ ⟨G8.out, ?_⟩
    clear hKc Kc B7 G7
    try simp only [Act.put, List.setIfInBounds_toArray, List.set_cons_zero, List.set_cons_succ]
    have hng := Try.noGuard
    have HEQ : ∀ x, (Op.equalIn 10000 42 (.agg AG) (.agg AT)).run Try.prog x = .ok (decide (G = T)) x := fun x => by rw [HAG1.out, HAT.out]; exact sums_eq G T HGL.out HTL.out x
    refine anyH_take 6 51 (.bool (!decide (G = T))) G8.out rfl (by kernel_rfl) (by kernel_rfl) (by kernel_rfl) (fun _ _ _ h => h) (by rfl) (by intro x hx; go_simp) ?_
    try simp only [Act.put, List.setIfInBounds_toArray, List.set_cons_zero, List.set_cons_succ]
    refine anyH_take 7 52 (.bool (!decide (G = T))) G8.out rfl (by kernel_rfl) (by kernel_rfl) (by kernel_rfl) (fun _ _ _ h => h) (by rfl) (by intro x hx; go_simp) ?_
    try simp only [Act.put, List.setIfInBounds_toArray, List.set_cons_zero, List.set_cons_succ]
    refine wpAnyH_done (by kernel_rfl) ?_ _
    clear HEQ hng
    by_cases hGT : G = T
    · have HOX : Hid (O = some X) := by show _ = _; rw [HOP.out, if_pos ⟨by omega, hGT⟩]
      rw [decide_eq_true hGT, Bool.not_true]
      clear hGT HOP
      go_wp2_with (go_at_call 37; refine (clone_any X _ k cs HXL.out (by omega) _ (HBX.out.old B8.out)).mono ?_; rintro e9 w9 ⟨v9, rfl, ho9, hb9⟩)
      go_ret2
      have hb2 : Below w.heap.size w w9 := B8.out.trans (hb9.mono B8.out.size)
      obtain ⟨p9, c9, rfl, hbs, _⟩ := own_bs ho9 HBX.out.bat.1
      rw [HOX.out]
      refine ⟨p9, c9, _, rfl, rfl, ?_, hbs, hb2⟩
      show World.ownsRow _ _ _ _ _ _ _
      have h1 := own_base ho9 B8.out.size
      rw [HXL.out] at h1 ⊢
      exact h1
    · have HOX : Hid (O = none) := by show _ = _; rw [HOP.out, if_neg (fun q => hGT q.2)]
      rw [decide_eq_false hGT, Bool.not_false]
      clear hGT HOP
      go_wp2
      go_ret2
      rw [HOX.out]
      exact opsay_none B8.out
  · have hd : decide (0 < K) = false := by simpa using hK
    have HOX : Hid (O = none) := by show _ = _; rw [HOP.out, if_neg (fun q => hK (by omega))]
    rw [hd]
    clear HOP
    go_wp2
    go_quiet (fail)
    go_wp2
    go_ret2
    rw [HOX.out]
    exact opsay_none (below_dn B6.out _)
/-- Open, whatever is opened. -/
theorem open_any (S : Nm.St) (e n : Int) (h s : List Int) (g b c : Nat) (ph ps : Option Addr) (nh ns ch cs : Nat) (hnh : h.length = nh) (hns : s.length = ns) (hsz : ns ≤ 1000000) (he : Nm.In64 e) (hn : Nm.In64 n)
    (w : World) (hs : StAt w g b c S) (hh : Bs w ph ch h) (hS : Bs w ps cs s) :
    Calls Try.prog 20 #[.pointer (some ⟨g, 0, none⟩), .int .i64 e, .int .i64 n, .slice ph nh ch, .slice ps ns cs] w (OpSay (Nm.opn S e n h s) w) := by
  by_cases hl : ns < 32
  · exact open_short S e n h s g _ ps ns cs hns hl w
  · obtain ⟨ab, ao, rfl, _⟩ := hS.bat.2 (by omega)
    exact open_good S e n h s g b c ph ab ao nh ns ch cs (ns - 32) hnh hns (by omega) hsz he hn w hs hh hS
end Go.Proofs.Ytdmnlooghamngaa
