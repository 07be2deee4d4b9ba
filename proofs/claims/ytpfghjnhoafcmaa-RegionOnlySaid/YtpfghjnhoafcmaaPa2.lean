/-
  PaE, PaF, PaG, PaH (merged)
-/
import Derived.Test.YtpfghjnhoafcmaaPa1
namespace Go.Proofs.Ytpfghjnhoafcmaa

/-! PaE: A reader in memory; contracts: Read, Left, Bad, End, Byte. -/
section
open Go.RowKit

/-- A reader at block g, its bytes in block D: what is left, and whether it is bad. -/
structure RdAt (w : World) (g : Nat) (D : Option Nat) (L : List Int) (b : Bool) : Prop where
  row : ∃ p c, w.heap[g]? = some (.cells #[.slice p L.length c, .bool b] 125 (0, 0)) ∧ Bs w p c L ∧ (∀ ad, p = some ad → D = some ad.block)
  ne : D ≠ some g
  lt : ∀ d, D = some d → d < w.heap.size
theorem RdAt.glt {w : World} {g : Nat} {D : Option Nat} {L : List Int} {b : Bool} (h : RdAt w g D L b) : g < w.heap.size := by
  obtain ⟨p, c, h1, _⟩ := h.row
  exact lt_of_block h1
theorem RdAt.drew {w : World} {g : Nat} {D : Option Nat} {L : List Int} {b : Bool} (h : RdAt w g D L b) : RdAt w.drew g D L b := by
  obtain ⟨⟨p, c, h1, h2, h3⟩, h4, h5⟩ := h
  exact ⟨⟨p, c, h1, h2.drew, h3⟩, h4, h5⟩
theorem Bs.only {w x : World} {p : Option Addr} {c k : Nat} {L : List Int} (h : Bs w p c L) (ho : Only k w x) (hk : ∀ ad, p = some ad → ad.block ≠ k) : Bs x p c L :=
  ⟨⟨h.bat.1, fun h0 => by
    obtain ⟨ab, ao, h1, h2⟩ := h.bat.2 h0
    exact ⟨ab, ao, h1, fun j hj => ho.cell (hk _ h1) (h2 j hj)⟩⟩, h.cap, h.nil⟩
theorem RdAt.only {w x : World} {g k : Nat} {D : Option Nat} {L : List Int} {b : Bool} (h : RdAt w g D L b) (ho : Only k w x) (hk : k ≠ g) (hd : D ≠ some k) : RdAt x g D L b := by
  obtain ⟨⟨p, c, h1, h2, h3⟩, h4, h5⟩ := h
  exact ⟨⟨p, c, (ho.block g (lt_of_block h1) (Ne.symm hk)).trans h1, h2.only ho (fun ad ha e => hd (by rw [h3 ad ha, e])), h3⟩, h4, fun d hd => Nat.lt_of_lt_of_le (h5 d hd) ho.size⟩
theorem RdAt.old {w x : World} {g : Nat} {D : Option Nat} {L : List Int} {b : Bool} (h : RdAt w g D L b) (hb : Below w.heap.size w x) : RdAt x g D L b := by
  obtain ⟨⟨p, c, h1, h2, h3⟩, h4, h5⟩ := h
  exact ⟨⟨p, c, (hb.block g (lt_of_block h1)).trans h1, h2.old hb, h3⟩, h4, fun d hd => Nat.lt_of_lt_of_le (h5 d hd) hb.size⟩

/-- Behind Read. -/
def NewSay (L : List Int) (w : World) (e : Ending) (w' : World) : Prop :=
  ∃ g D, e = .returned (.pointer (some ⟨g, 0, none⟩)) ∧ Hid (RdAt w' g D L false) ∧ Hid (w.heap.size ≤ g ∧ ∀ d, D = some d → w.heap.size ≤ d) ∧ Hid (Below w.heap.size w w')
set_option maxHeartbeats 1000000 in
set_option maxRecDepth 100000 in
theorem read_any (L : List Int) (p : Option Addr) (n c : Nat) (hn : L.length = n) (hL : n ≤ 1000000) (w : World) (hp : Bs w p c L) :
    Calls Try.prog 47 #[.slice p n c] w (NewSay L w) := by
  have HP := Lib.hid hp; clear hp
  have HN := Lib.hid hn
  have HC : Hid (Calls Try.prog 34 #[.slice p n c] w fun e w' => ∃ v, e = .returned v ∧ w'.ownsRow w.heap.size 5 1 v n (U8s L) ∧ Below w.heap.size w w') := clone_any L p n c hn hL w HP.out
  clear hn
  go_enter Try.func47, Try.ntmps47
  go_wp2_with (first
    | (go_at_call 34; refine HC.out.mono ?_; rintro e1 w1 ⟨v1, rfl, ho1, hb1⟩; have HO1 := Lib.hid ho1; have HB1 := Lib.hid hb1; clear ho1 hb1; obtain ⟨p1, c1, rfl, hbs, _⟩ := own_bs HO1.out HP.out.bat.1; have HBS := Lib.hid hbs; clear hbs))
  go_ret
  have hw1 : w1.heap.size < (w1.alloc (.cells #[.slice p1 n c1, .bool false] 125)).heap.size := by simp
  have HB2 : Hid (Below w.heap.size w (w1.alloc (.cells #[.slice p1 n c1, .bool false] 125))) := HB1.out.alloc HB1.out.size _
  have HBS2 : Hid (Bs (w1.alloc (.cells #[.slice p1 n c1, .bool false] 125)) p1 c1 L) := HBS.out.old ((Below.refl _ w1).alloc (Nat.le_refl _) _)
  have HD : Hid (∀ d, p1.map (·.block) = some d → w.heap.size ≤ d ∧ d < w1.heap.size) := fun d hd => by
    cases p1 with
    | none => cases hd
    | some ad =>
      cases hd
      obtain ⟨h2, h1⟩ := HO1.out.lt ad.block rfl
      exact ⟨h2, h1⟩
  refine ⟨w1.heap.size, p1.map (·.block), rfl, ⟨⟨p1, c1, by rw [HN.out]; exact heap_alloc_new w1 _, HBS2.out, fun ad h => by rw [h]; rfl⟩, fun h => ?_, fun d hd => ?_⟩, ⟨HB1.out.size, fun d hd => (HD.out d hd).1⟩, HB2.out⟩
  · have h1 := (HD.out _ h).2
    omega
  · have h1 := (HD.out _ hd).2
    omega

def LeftSay (L : List Int) (w : World) (e : Ending) (w' : World) : Prop := e = .returned (.int .i64 (L.length : Nat)) ∧ Below w.heap.size w w'
def BadSay (b : Bool) (w : World) (e : Ending) (w' : World) : Prop := e = .returned (.bool b) ∧ Below w.heap.size w w'
/-- What End answers. -/
def Pk.en (L : List Int) (b : Bool) : Int := if b then 4 else if 0 < L.length then 3 else 0
def EndSayP (n : Int) (w : World) (e : Ending) (w' : World) : Prop := e = .returned (.int .i64 n) ∧ Below w.heap.size w w'
set_option maxRecDepth 100000 in
theorem end_any (L : List Int) (b : Bool) (g : Nat) (D : Option Nat) (w : World) (hr : RdAt w g D L b) : Calls Try.prog 49 #[.pointer (some ⟨g, 0, none⟩)] w (EndSayP (Pk.en L b) w) := by
  obtain ⟨p, c, h1, _, _⟩ := hr.row
  have c0 : w.cell? ⟨g, 0, none⟩ = some (.slice p L.length c) := by rw [cell_of_row w g 0 _ _ _ h1]; rfl
  have c1 : w.cell? ⟨g, 1, none⟩ = some (.bool b) := by rw [cell_of_row w g 1 _ _ _ h1]; rfl
  cases b with
  | true =>
    go_enter Try.func49, Try.ntmps49
    go_wp2
    go_ret
    exact ⟨rfl, Below.refl _ _⟩
  | false =>
    by_cases h0 : 0 < L.length
    · have HE : Hid (Pk.en L false = 3) := by show _ = _; unfold Pk.en; simp [h0]
      have h0' : ((L.length : Nat) : Int) > 0 := by omega
      go_enter Try.func49, Try.ntmps49
      go_wp2
      go_ret
      exact ⟨by rw [HE.out]; rfl, Below.refl _ _⟩
    · have HE : Hid (Pk.en L false = 0) := by show _ = _; unfold Pk.en; simp [h0]
      have h0' : ¬ ((L.length : Nat) : Int) > 0 := by omega
      go_enter Try.func49, Try.ntmps49
      go_wp2
      go_ret
      exact ⟨by rw [HE.out]; rfl, Below.refl _ _⟩
end

/-! PaF: Contracts: toByte, toInt, toSum, toRef. -/
section
open Go.RowKit

theorem Sha.byt_getD {l : List Int} (h : Sha.Byt l) (i : Nat) : 0 ≤ l.getD i 0 ∧ l.getD i 0 ≤ 255 := by
  rw [List.getD_eq_getElem?_getD]
  cases q : l[i]? with
  | none => simp
  | some x =>
    obtain ⟨hi, rfl⟩ := List.getElem?_eq_some_iff.1 q
    simpa using h _ (List.getElem_mem hi)
section
variable {P : Program} {ops : Array Oper} {rest : List Oper} {a : Act} {w : World} {Q : Exit → Act → World → Prop} {D : Option Tmp} {T : TypeId} {ps : String} {af : Array Edge}
/-- A row out of cells that are known. -/
theorem rng_load (ty : TypeId) (x : Operand) (b o : Nat) (A : Array Value) (d : TypeDesc) (hx : a.eval x = .pointer (some ⟨b, o, none⟩)) (hc : w.rangeAt b o A.toList)
    (hu : P.underlying ty = some d) (hd : d.isRow = true) (hi : (P.info? ty).map (·.size) = some A.size)
    (h : wpList P ops Q rest (a.put D (.agg A)) w) : wpList P ops Q ({ dst := D, op := .load ty x, type := T, pos := ps, after := af, guard := none } :: rest) a w :=
  wpList_load_mid rfl ty x rfl b o hx A.toList d hc hu hd (by simpa using hi) (by simpa using h)
end
set_option maxRecDepth 100000 in
theorem tobyte_any (L : List Int) (p : Option Addr) (n c : Nat) (hn : L.length = n) (h0 : 0 < n) (w : World) (hp : Bs w p c L) :
    Calls Try.prog 108 #[.slice p n c] w fun e w' => e = .returned (.int .u8 (L.getD 0 0)) ∧ w' = w := by
  obtain ⟨ab, ao, rfl, hc⟩ := hp.bat.2 (by omega)
  have c0 := hc 0 (by omega)
  rw [Nat.add_zero] at c0
  clear hc
  generalize L.getD 0 0 = x at *
  go_enter Try.func108, Try.ntmps108
  go_wp2
  go_ret
  exact ⟨rfl, rfl⟩

def Pk.pre (L : List Int) (k : Nat) : Int := (Pk.be (L.take k) + 9223372036854775808) % 18446744073709551616 - 9223372036854775808
theorem Pk.pre_zero (L : List Int) : Pk.pre L 0 = 0 := by unfold Pk.pre; rw [List.take_zero, Pk.be_nil]; rfl
theorem Pk.pre_in (L : List Int) (k : Nat) : -9223372036854775808 ≤ Pk.pre L k ∧ Pk.pre L k ≤ 9223372036854775807 := by
  unfold Pk.pre
  omega
theorem Pk.pre_all (L : List Int) : Pk.pre L L.length = Pk.in8 L := by unfold Pk.pre Pk.in8; rw [List.take_length]
theorem Pk.pre_succ (L : List Int) (hb : Sha.Byt L) (k : Nat) (hk : k < L.length) : bits .or .i64 (wrap64 (Pk.pre L k * 256)) (L.getD k 0) = Pk.pre L (k + 1) := by
  have hx : 0 ≤ L.getD k 0 ∧ L.getD k 0 ≤ 255 := by
    rw [List.getD_eq_getElem?_getD, List.getElem?_eq_getElem hk]
    exact hb _ (List.getElem_mem _)
  have e : Pk.be (L.take (k + 1)) = Pk.be (L.take k) * 256 + L.getD k 0 := by rw [← take_snoc L k hk, Pk.be_snoc]
  unfold Pk.pre
  rw [e, ← Pk.or8 _ _ hx.1 hx.2]
  unfold wrap64
  congr 1
  omega
attribute [irreducible] Pk.pre
set_option maxHeartbeats 1000000 in
set_option maxRecDepth 100000 in
theorem toint_any (L : List Int) (p : Option Addr) (n c : Nat) (hn : L.length = n) (hL : n ≤ 1000) (w : World) (hp : Bs w p c L) :
    Calls Try.prog 73 #[.slice p n c] w fun e w' => e = .returned (.int .i64 (Pk.in8 L)) ∧ w' = w := by
  have HP := Lib.hid hp; clear hp
  have HN := Lib.hid hn; clear hn
  go_enter Try.func73, Try.ntmps73
  go_wp2
  go_loopw [3, 8] (fun v3 v8 wr => ∃ k : Nat, k ≤ n ∧ v8 = .int .i64 k ∧ v3 = .int .i64 (Pk.pre L k) ∧ wr = w) (fun _ v8 _ => n - (intOf v8).toNat)
  case atStart => exact ⟨0, by omega, rfl, by rw [Pk.pre_zero], rfl⟩
  case round =>
    obtain ⟨k, hk, rfl, rfl, rfl⟩ := hrel
    by_cases hlt : k < n
    · obtain ⟨ab, ao, hpp, hcs⟩ := HP.out.bat.2 (by rw [HN.out]; omega)
      subst hpp
      have c0 := hcs k (by rw [HN.out]; exact hlt)
      clear hcs
      have HS : Hid (bits .or .i64 (wrap64 (Pk.pre L k * 256)) (L.getD k 0) = Pk.pre L (k + 1)) := Pk.pre_succ L HP.out.bat.1 k (by rw [HN.out]; exact hlt)
      have hx0 := Sha.byt_getD HP.out.bat.1 k
      generalize L.getD k 0 = x at *
      generalize Pk.pre L k = y at *
      have hw : IntKind.i64.wrap x = x := IntWalk.i64_in _ ⟨by omega, by omega⟩
      have hn0 : 0 ≤ (k : Int) := by omega
      have hn1 : (k : Int) < (n : Int) := by omega
      go_wp2
      exact ⟨⟨k + 1, by omega, by go_num, congrArg (Value.int .i64) HS.out, trivial⟩, by simp [intOf]; omega⟩
    · obtain rfl : k = n := by omega
      have hge : ¬ ((k : Int) < (k : Int)) := by omega
      have HE : Hid (Pk.pre L k = Pk.in8 L) := by show _ = _; rw [← HN.out, Pk.pre_all]
      clear hlt
      go_wp2
      go_ret
      exact ⟨by rw [← HE.out]; rfl, rfl⟩

set_option maxHeartbeats 1000000 in
set_option maxRecDepth 100000 in
/-- An array of 32 bytes in the answer's own cell. -/
theorem tosum_any (L : List Int) (p : Option Addr) (n c : Nat) (hn : L.length = n) (h32 : n = 32) (w : World) (hp : Bs w p c L) :
    Calls Try.prog 93 #[.slice p n c] w fun e w' => e = .returned (A32 L) ∧ Below w.heap.size w w' := by
  subst h32
  obtain ⟨ab, ao, rfl, hc⟩ := hp.bat.2 (by omega)
  have HP := Lib.hid hp; clear hp hc
  have HN := Lib.hid hn; clear hn
  obtain ⟨A, HA1⟩ : ∃ A, Hid (A = (L.map (Value.int .u8)).toArray) := ⟨_, rfl⟩
  have HA2 : Hid (A.size = 32) := by show _ = _; rw [HA1.out]; simp [HN.out]
  have h1 : A.all (·.oneCell') = true := by rw [HA1.out]; exact all_oneCell_toArray (bytes_one _)
  have e32 : A32 L = .agg A := by unfold A32; rw [HA1.out]
  have hat : ∀ w, (Instr.arrayAt 34 (.slice (some ⟨ab, ao, none⟩) 32 c)).run Try.prog w = .ok (.pointer (some ⟨ab, ao, none⟩)) w := fun w => run_arrayAt _ _ _ 32 _ 32 _ Try.underlying34 (Nat.le_refl _)
  have hr : ∀ y, Below w.heap.size w y → y.rangeAt ab ao A.toList := fun y hy j v hv => by
    obtain ⟨ab', ao', h1, h2⟩ := (HP.out.old hy).bat.2 (by rw [HN.out]; omega)
    cases h1
    rw [HA1.out] at hv
    have hj : j < 32 := by
      have := (List.getElem?_eq_some_iff.1 hv).1
      simp [HN.out] at this
      omega
    rw [h2 j (by rw [HN.out]; exact hj)]
    have hv2 : L[j]?.map (Value.int .u8) = some v := by simpa using hv
    rw [List.getD_eq_getElem?_getD]
    cases hq : L[j]? with
    | none => rw [hq] at hv2; cases hv2
    | some y => rw [hq] at hv2; simpa using hv2
  have HR := Lib.hid hr
  clear hr HA1
  rw [e32]
  go_enter Try.func93, Try.ntmps93
  have B0 : Hid (Below w.heap.size w (w.alloc (.cells (List.replicate 32 (Value.int .u8 0)).toArray 34))) := (Below.refl _ w).alloc (Nat.le_refl _) _
  have R0 : Hid ((w.alloc (.cells (List.replicate 32 (Value.int .u8 0)).toArray 34)).heap[w.heap.size]? = some (.cells (List.replicate 32 (Value.int .u8 0)).toArray 34 (0, 0))) := heap_alloc_new w _
  go_wp2_with (first
    | ((with_reducible refine rng_load _ _ _ _ _ _ ?_ (HR.out _ ((Below.refl _ w).alloc (Nat.le_refl _) _)) Try.underlying34 ?_ (row_size Try.sizeSum HA2) ?_); (exact rfl); (exact rfl))
    | ((with_reducible refine row_store _ _ _ _ _ _ _ ?_ ?_ (heap_alloc_new _ _) (row_size Try.sizeSum HA2) ?_ h1 ?_); (exact rfl); (exact rfl); (rw [HA2.out]; rfl); intro w6 G6 ch6))
  refine bodyPost_ret (results_cell_row rfl _ _ w.heap.size 34 A (0, 0) _ rfl G6.out Try.underlying34 rfl (row_size Try.sizeSum HA2)) rfl ⟨rfl, ch6.below B0.out (Nat.le_refl _)⟩
end

/-! PaG: Contract: toRef. -/
section
open Go.RowKit

theorem fill_off (off : Nat) : ∀ (l : List Value) (k : Nat) (Z : Array Value), off + k + l.length ≤ Z.size →
    (l.zipIdx k).foldl (fun (cs : Array Value) (x : Value × Nat) => cs.setIfInBounds (off + x.2) x.1) Z = (Z.toList.take (off + k) ++ l ++ Z.toList.drop (off + k + l.length)).toArray
  | [], k, Z, _ => by simp
  | v :: l, k, Z, h => by
    simp only [List.length_cons] at h
    rw [List.zipIdx_cons, List.foldl_cons]
    rw [fill_off off l (k + 1) _ (by simp; omega)]
    apply Array.ext'
    have hk : off + k < Z.toList.length := by simp; omega
    simp only [Array.toList_setIfInBounds, List.length_cons]
    have e1 : (Z.toList.set (off + k) v).take (off + (k + 1)) = Z.toList.take (off + k) ++ [v] := by
      rw [show off + (k + 1) = off + k + 1 by omega, List.take_add_one, List.getElem?_set_self hk, List.take_set_of_le (Nat.le_refl _)]
      rfl
    have e2 : (Z.toList.set (off + k) v).drop (off + (k + 1) + l.length) = Z.toList.drop (off + k + (l.length + 1)) := by
      rw [List.drop_set_of_lt (by omega)]
      congr 1
      omega
    rw [e1, e2]
    simp
theorem fill_ref (place : Nat → Option (Nat × Nat)) (v : Value) (A Z : Array Value) (z : List Value) (hv : v.cells = #[v]) (h0 : place 0 = some (0, 1)) (h1 : place 1 = some (1, 32)) (hA : A.size = 32) (hZ : Z = (Value.int .i64 0 :: z).toArray) (hz : z.length = 32) :
    Instr.fill place Z [(0, v), (1, .agg A)] = some (#[v] ++ A) := by
  have h := fill_off 1 A.toList 0 (v :: z).toArray (by simp; omega)
  subst hZ
  unfold Instr.fill
  rw [h0]
  dsimp only
  rw [hv]
  split
  · rename_i hh
    simp [hz] at hh
  · unfold Instr.fill
    rw [h1]
    dsimp only
    split
    · rename_i hh
      simp [Value.cells, hA, hz] at hh
    · unfold Instr.fill
      congr 1
      show Array.foldl (fun (cs : Array Value) (x : Value × Nat) => cs.setIfInBounds (1 + x.2) x.1) (v :: z).toArray A.zipIdx = _
      rw [← Array.foldl_toList, Array.toList_zipIdx, h]
      apply Array.ext'
      simp [hA, hz]

def Z33 : Array Value := (Value.int .i64 0 :: List.replicate 32 (Value.int .u8 0)).toArray
theorem Try.zeroRef : (Try.prog.info? 36).map (fun i => (i.zero, i.size)) = some (some (.agg Z33), 33) := by kernel_rfl
theorem Try.placesRef : (match Try.prog.underlying 36 with
    | some (.struct fields) => fields.toList.mapM (fun f => (Try.prog.info? f.type).map fun i => (f.offset, i.size))
    | _ => none) = some [(0, 1), (1, 32)] := by kernel_rfl
set_option maxRecDepth 100000 in
theorem build_ref (a : Int) (A : Array Value) (hA : A.size = 32) : Try.prog.built 36 [(0, .int .i64 a), (1, .agg A)] = some (#[.int .i64 a] ++ A) := by
  unfold Program.built
  have hz := Try.zeroRef
  have hp := Try.placesRef
  cases hi : Try.prog.info? 36 with
  | none => rw [hi] at hz; cases hz
  | some i =>
    rw [hi] at hz
    simp only [Option.map_some, Option.some.injEq, Prod.mk.injEq] at hz
    cases hu : Try.prog.underlying 36 with
    | none => rw [hu] at hp; cases hp
    | some d =>
      rw [hu] at hp
      cases d <;> try (exact absurd hp (fun h => by cases h))
      case struct fields =>
        dsimp only at hp ⊢
        rw [hz.1, hp]
        dsimp only
        exact fill_ref _ (.int .i64 a) A Z33 (List.replicate 32 (Value.int .u8 0)) rfl rfl rfl hA rfl rfl
theorem exec_build2 {P : Program} {a : Act} {w : World} {D : Option Tmp} {T : TypeId} {ps : String} {af : Array Edge} {gd : Option (Nat × Bool)} (t : TypeId) (x y : Operand) (v u : Value) (R : Array Value) (hx : a.eval x = v) (hy : a.eval y = u) (hr : P.built t [(0, v), (1, u)] = some R) :
    (execOp a.eval { dst := D, op := .build t #[(0, x), (1, y)], type := T, pos := ps, after := af, guard := gd }).run P w = .ok (.value (.agg R)) w := by
  have hrun := run_build (P := P) w t #[(0, v), (1, u)] R hr
  unfold execOp
  simp only [hx, hy, List.map_toArray, List.map_cons, List.map_nil, hrun, Sem.run_bind, Sem.run_pure, Result.andThen_ok]
theorem r33_eq (k : Int) (S : List Int) : R33 (k, S) = .agg (#[.int .i64 k] ++ (S.map (Value.int .u8)).toArray) := by
  unfold R33
  congr 1
  apply Array.ext'
  simp

set_option maxHeartbeats 2000000 in
set_option maxRecDepth 100000 in
theorem toref_any (L : List Int) (ab ao n c : Nat) (hn : L.length = n) (h40 : n = 40) (w : World) (hp : Bs w (some ⟨ab, ao, none⟩) c L) :
    Calls Try.prog 95 #[.slice (some ⟨ab, ao, none⟩) n c] w fun e w' => e = .returned (R33 (Pk.in8 (L.take 8), L.drop 8)) ∧ Below w.heap.size w w' := by
  subst h40
  have hcap := hp.cap
  have HP := Lib.hid hp; clear hp
  have HN := Lib.hid hn
  have HL8 : Hid ((L.take 8).length = 8) := by show _ = _; rw [List.length_take]; omega
  have HD8 : Hid ((L.drop 8).length = 32) := by show _ = _; rw [List.length_drop]; omega
  rw [hn] at hcap
  obtain ⟨A, HA1⟩ : ∃ A, Hid (A = ((L.drop 8).map (Value.int .u8)).toArray) := ⟨_, rfl⟩
  have HA2 : Hid (A.size = 32) := by show _ = _; rw [HA1.out, List.size_toArray, List.length_map, HD8.out]
  have HA3 : Hid (A.all (·.oneCell') = true) := by show _ = _; rw [HA1.out]; exact all_oneCell_toArray (bytes_one _)
  have e33 : R33 (Pk.in8 (L.take 8), L.drop 8) = .agg (#[.int .i64 (Pk.in8 (L.take 8))] ++ A) := by rw [HA1.out]; exact r33_eq _ _
  have e32 : Hid (A32 (L.drop 8) = .agg A) := by show _ = _; unfold A32; rw [HA1.out]
  have HI : Hid (∀ y, Below w.heap.size w y → Calls Try.prog 73 #[.slice (some ⟨ab, ao, none⟩) 8 c] y fun e w' => e = .returned (.int .i64 (Pk.in8 (L.take 8))) ∧ w' = y) := fun y hy =>
    toint_any (L.take 8) _ 8 c HL8.out (by omega) y ((HP.out.take 8).old hy)
  have HS : Hid (∀ y, Below w.heap.size w y → Calls Try.prog 93 #[.slice (some ⟨ab, ao + 8, none⟩) 32 (c - 8)] y fun e w' => e = .returned (.agg A) ∧ Below y.heap.size y w') := fun y hy => by
    rw [← e32.out]
    exact tosum_any (L.drop 8) _ 32 (c - 8) HD8.out rfl y ((HP.out.dropk (k := 8) (by rw [HN.out]; omega)).old hy)
  clear HA1 hn
  rw [e33]
  clear e33
  generalize Pk.in8 (L.take 8) = K at *
  have HBR := build_ref K A HA2.out
  have HB2 : Hid ((#[Value.int .i64 K] ++ A).size = 33) := by show _ = _; simp [HA2.out]
  have HB3 : Hid ((#[Value.int .i64 K] ++ A).all (·.oneCell') = true) := by show _ = _; have := HA3.out; simp_all [Value.oneCell']
  obtain ⟨R, HR⟩ : ∃ R, R = #[Value.int .i64 K] ++ A := ⟨_, rfl⟩
  rw [← HR] at HBR HB2 HB3 ⊢
  clear HR
  have hc8 : 8 ≤ c := by omega
  have hc8' : c ≠ 8 := by omega
  have hc8i : ¬ ((c : Int) < 8) := by omega
  go_enter Try.func95, Try.ntmps95
  go_upto_region 1 with (fail)
  refine wp_region_any (by kernel_rfl) ?_
  change wpAny _ _ _ _ _ _ _ (World.drew _)
  have B0 : Hid (Below w.heap.size w (w.alloc (.cells Z33 36)).drew) := ((Below.refl _ w).alloc (Nat.le_refl _) _).drew
  have R0 : Hid ((w.alloc (.cells Z33 36)).drew.heap[w.heap.size]? = some (.cells Z33 36 (0, 0))) := heap_alloc_new w _
  change wpAny _ _ _ _ _ _ _ (w.alloc (.cells Z33 36)).drew
  obtain ⟨w1, hw1e⟩ : ∃ x, x = (w.alloc (.cells Z33 36)).drew := ⟨_, rfl⟩
  have L1 : Hid (w.heap.size < w1.heap.size) := by show _ < _; rw [hw1e]; simp
  rw [← hw1e] at B0 R0 ⊢
  clear hw1e
  refine wpAny_of_held (S := fun _ => True) _ _ _ _ ?_
  refine anyH_take 0 3 (.slice (some ⟨ab, ao, none⟩) 40 c) trivial rfl (by kernel_rfl) (by kernel_rfl) (by kernel_rfl) (fun _ _ _ h => h) (by rfl) (by intro x hx; go_simp) ?_
  try simp only [Act.put, List.setIfInBounds_toArray, List.set_cons_zero, List.set_cons_succ]
  refine anyH_take 1 4 (.slice (some ⟨ab, ao, none⟩) 8 c) trivial rfl (by kernel_rfl) (by kernel_rfl) (by kernel_rfl) (fun _ _ _ h => h) (by rfl) (by intro x hx; go_simp) ?_
  try simp only [Act.put, List.setIfInBounds_toArray, List.set_cons_zero, List.set_cons_succ]
  refine anyH_take 3 6 (.slice (some ⟨ab, ao, none⟩) 40 c) trivial rfl (by kernel_rfl) (by kernel_rfl) (by kernel_rfl) (fun _ _ _ h => h) (by rfl) (by intro x hx; go_simp) ?_
  try simp only [Act.put, List.setIfInBounds_toArray, List.set_cons_zero, List.set_cons_succ]
  refine anyH_take 4 7 (.slice (some ⟨ab, ao + 8, none⟩) 32 (c - 8)) trivial rfl (by kernel_rfl) (by kernel_rfl) (by kernel_rfl) (fun _ _ _ h => h) (by rfl) (by intro x hx; go_simp) ?_
  try simp only [Act.put, List.setIfInBounds_toArray, List.set_cons_zero, List.set_cons_succ]
  refine anyH_one 2 (by kernel_rfl) ?_
  refine wpOp_step rfl (fun Kc hKc => ?_)
  go_simp
  refine (HI.out _ B0.out).mono ?_
  rintro e2 w2 ⟨rfl, rfl⟩
  dsimp only
  refine hKc _ _ ⟨trivial, ?_⟩
  clear hKc Kc
  try simp only [Act.put, List.setIfInBounds_toArray, List.set_cons_zero, List.set_cons_succ]
  refine anyH_one 5 (by kernel_rfl) ?_
  refine wpOp_step rfl (fun Kc hKc => ?_)
  go_simp
  refine (HS.out _ B0.out).mono ?_
  rintro e3 w3 ⟨rfl, hb3⟩
  dsimp only
  refine hKc _ _ ⟨trivial, ?_⟩
  clear hKc Kc
  try simp only [Act.put, List.setIfInBounds_toArray, List.set_cons_zero, List.set_cons_succ]
  refine anyH_take 6 9 (.agg R) trivial rfl (by kernel_rfl) (by kernel_rfl) (by kernel_rfl) (fun _ _ _ h => h) (by rfl) (fun x hx => exec_build2 _ _ _ _ _ R rfl rfl HBR) ?_
  try simp only [Act.put, List.setIfInBounds_toArray, List.set_cons_zero, List.set_cons_succ]
  refine anyH_one 7 (by kernel_rfl) ?_
  have R3 := (hb3.block _ L1.out).trans R0.out
  have B3 : Hid (Below w.heap.size w w3) := B0.out.trans (hb3.mono B0.out.size)
  refine op_store 7 36 (.tmp 2) (.tmp 9) rfl w.heap.size 0 36 Z33.toList R rfl rfl (by rw [Array.toArray_toList]; exact R3) (row_size Try.sizeRef HB2) (by rw [HB2.out]; exact Nat.le_refl _) HB3.out ?_
  intro w5 g5 ch5
  refine ⟨trivial, ?_⟩
  have G5 : Hid (w5.heap[w.heap.size]? = some (.cells R 36 (0, 0))) := by
    have h := g5.out
    have e : splice Z33.toList 0 R.toList = R.toList := by
      unfold splice
      rw [List.take_zero, List.nil_append, Array.length_toList, HB2.out, List.drop_of_length_le (by exact Nat.le_refl _), List.append_nil]
    rw [e, Array.toArray_toList] at h
    exact h
  refine wpAnyH_done (by kernel_rfl) ?_ _
  go_wp2
  refine bodyPost_ret (results_cell_row rfl _ _ w.heap.size 36 R (0, 0) _ rfl G5.out Try.underlying36 rfl (row_size Try.sizeRef HB2)) rfl ⟨rfl, ch5.below B3.out (Nat.le_refl _)⟩
end

/-! PaH: Contracts: a reader's Byte, Int, Sum, Ref. -/
section
open Go.RowKit

/-- Behind a call that reads. -/
def RdSay (v : Value) (L : List Int) (b : Bool) (g : Nat) (D : Option Nat) (w : World) (e : Ending) (w' : World) : Prop :=
  e = .returned v ∧ Hid (RdAt w' g D L b) ∧ Hid (Only g w w')
theorem RdAt.spoilt {w : World} {g : Nat} {D : Option Nat} {L : List Int} {b : Bool} (h : RdAt w g D L b) :
    RdAt ((w.setCell ⟨g, 0, none⟩ (.slice none 0 0)).setCell ⟨g, 1, none⟩ (.bool true)) g D [] true ∧ Only g w ((w.setCell ⟨g, 0, none⟩ (.slice none 0 0)).setCell ⟨g, 1, none⟩ (.bool true)) := by
  obtain ⟨⟨p, c, h1, h2, h3⟩, h4, h5⟩ := h
  refine ⟨⟨⟨none, 0, ?_, bs_none _, fun ad h => by cases h⟩, h4, fun d hd => by simpa using h5 d hd⟩, ((Chg.setCell w ⟨g, 0, none⟩ _).trans (Chg.setCell _ ⟨g, 1, none⟩ _)).only⟩
  rw [heap_setCell_same _ g 1 _ _ _ (heap_setCell_same _ g 0 _ _ _ h1)]
  rfl
/-- Where so many bytes on lie. -/
abbrev adv (ab ao k c : Nat) : Option Addr := if c = k then some ⟨ab, ao, none⟩ else some ⟨ab, ao + k, none⟩
theorem adv_bs {w : World} {ab ao c k : Nat} {L : List Int} (h : Bs w (some ⟨ab, ao, none⟩) c L) (hk : k ≤ L.length) : Bs w (adv ab ao k c) (c - k) (L.drop k) := by
  have hc := h.cap
  unfold adv
  by_cases e : k < L.length
  · rw [if_neg (by omega)]
    exact h.dropk e
  · rw [List.drop_of_length_le (by omega)]
    refine ⟨⟨fun x hx => by simp at hx, fun h0 => by simp at h0⟩, ⟨by simp, by omega⟩, fun h0 => ?_⟩
    split at h0 <;> cases h0
theorem RdAt.step {w : World} {g ab ao c k n m d : Nat} {D : Option Nat} {L : List Int} {b : Bool} (h : RdAt w g D L b) (h1 : w.heap[g]? = some (.cells #[.slice (some ⟨ab, ao, none⟩) n c, .bool b] 125 (0, 0))) (hB : Bs w (some ⟨ab, ao, none⟩) c L) (hn : L.length = n) (hk : k ≤ n) (hm : n - k = m) (hd : c - k = d) (hD : D = some ab) :
    RdAt (w.setCell ⟨g, 0, none⟩ (.slice (adv ab ao k c) m d)) g D (L.drop k) b ∧ Only g w (w.setCell ⟨g, 0, none⟩ (.slice (adv ab ao k c) m d)) := by
  subst hd
  subst hm
  subst hn
  have ho : Only g w (w.setCell ⟨g, 0, none⟩ (.slice (adv ab ao k c) (L.length - k) (c - k))) := (Chg.setCell w ⟨g, 0, none⟩ _).only
  have hne : ∀ ad, adv ab ao k c = some ad → ad.block = ab := fun ad h => by
    unfold adv at h
    split at h <;> cases h <;> rfl
  refine ⟨⟨⟨adv ab ao k c, c - k, ?_, (adv_bs hB hk).only ho (fun ad hq e => ?_), fun ad h => by rw [hne ad h, hD]⟩, h.ne, fun d hd => by simpa using h.lt d hd⟩, ho⟩
  · rw [heap_setCell_same _ g 0 _ _ _ h1, List.length_drop]
    rfl
  · rw [hne ad hq] at e
    exact h.ne (by rw [hD, e])
theorem RdAt.parts {w : World} {g : Nat} {D : Option Nat} {L : List Int} {b : Bool} (h : RdAt w g D L b) {n : Nat} (hn : L.length = n) (h0 : 0 < n) :
    ∃ ab ao c, w.heap[g]? = some (.cells #[.slice (some ⟨ab, ao, none⟩) n c, .bool b] 125 (0, 0)) ∧ Bs w (some ⟨ab, ao, none⟩) c L ∧ D = some ab ∧ n ≤ c ∧ c ≤ 9223372036854775807 := by
  subst hn
  obtain ⟨⟨p, c, h1, h2, h3⟩, h4, h5⟩ := h
  obtain ⟨ab, ao, rfl, _⟩ := h2.bat.2 h0
  exact ⟨ab, ao, c, h1, h2, h3 _ rfl, h2.cap⟩
set_option maxHeartbeats 1000000 in
set_option maxRecDepth 100000 in
theorem rbyte_any (L : List Int) (b : Bool) (g : Nat) (D : Option Nat) (n : Nat) (hn : L.length = n) (hL : n ≤ 10000000) (w : World) (hr : RdAt w g D L b) :
    Calls Try.prog 91 #[.pointer (some ⟨g, 0, none⟩)] w (RdSay (.int .u8 (Pk.vb L)) (Pk.nx 1 L) (Pk.nb 1 L b) g D w) := by
  have HN := Lib.hid hn; clear hn
  by_cases hlt : n < 1
  · have HV : Hid ((.int .u8 (Pk.vb L)) = (.int .u8 0 : Value)) := by show _ = _; unfold Pk.vb; obtain rfl : L = [] := List.eq_nil_of_length_eq_zero (by have := HN.out; omega); rfl
    have HX : Hid (Pk.nx 1 L = []) := by show _ = _; unfold Pk.nx; rw [HN.out, if_pos hlt]
    have HB : Hid (Pk.nb 1 L b = true) := by show _ = _; unfold Pk.nb; rw [HN.out, if_pos hlt]
    rw [HV.out, HX.out, HB.out]
    clear HV HX HB
    have HS := Lib.hid hr.spoilt
    obtain ⟨p, c, h1, _, _⟩ := hr.row
    rw [HN.out] at h1
    have c0 : w.cell? ⟨g, 0, none⟩ = some (.slice p n c) := by rw [cell_of_row w g 0 _ _ _ h1]; rfl
    have f0 := frozen_of_row w g 0 _ _ h1
    have h2 := heap_setCell_same w g 0 _ _ (Value.slice none 0 0) h1
    have c1 : (w.setCell ⟨g, 0, none⟩ (.slice none 0 0)).cell? ⟨g, 1, none⟩ = some (.bool b) := by rw [cell_of_row _ g 1 _ _ _ h2]; rfl
    have f1 := frozen_of_row _ g 1 _ _ h2
    have hlt' : (n : Int) < 1 := by omega
    clear hr h1 h2
    go_enter Try.func91, Try.ntmps91
    go_wp2
    go_ret
    exact ⟨rfl, HS.out.1, HS.out.2⟩
  · obtain ⟨ab, ao, c, h1, hB, hD, hcap⟩ := hr.parts HN.out (by omega)
    have HX : Hid (Pk.nx 1 L = L.drop 1) := by show _ = _; unfold Pk.nx; rw [HN.out, if_neg hlt]
    have HB : Hid (Pk.nb 1 L b = b) := by show _ = _; unfold Pk.nb; rw [HN.out, if_neg hlt]
    have HV : Hid ((L.take 1).getD 0 0 = Pk.vb L) := by
      show _ = _
      unfold Pk.vb
      cases L with
      | nil => have := HN.out; simp at this; omega
      | cons x l => rfl
    rw [HX.out, HB.out]
    clear HX HB
    have hnn : 1 ≤ n := by omega
    have HS := Lib.hid (hr.step (k := 1) (m := n - 1) (d := c - 1) h1 hB HN.out hnn rfl rfl hD)
    have HT : Hid (Bs (w.setCell ⟨g, 0, none⟩ (.slice (adv ab ao 1 c) (n - 1) (c - 1))) (some ⟨ab, ao, none⟩) c (L.take 1)) :=
      (hB.only HS.out.2 (fun ad h e => by cases h; exact hr.ne (by rw [hD]; exact congrArg some e))).take 1
    have HTL : Hid ((L.take 1).length = 1) := by show _ = _; rw [List.length_take, HN.out]; omega
    have HC : Hid (Calls Try.prog 108 #[.slice (some ⟨ab, ao, none⟩) 1 c] (w.setCell ⟨g, 0, none⟩ (.slice (adv ab ao 1 c) (n - 1) (c - 1))) fun e w' => e = .returned (.int .u8 (Pk.vb L)) ∧ w' = w.setCell ⟨g, 0, none⟩ (.slice (adv ab ao 1 c) (n - 1) (c - 1))) := by
      rw [← HV.out]
      exact tobyte_any (L.take 1) _ 1 c HTL.out (by omega) _ HT.out
    obtain ⟨X, HXe⟩ : ∃ X, Hid (L.drop 1 = X) := ⟨_, rfl⟩
    rw [HXe.out] at HS ⊢
    have c0 : w.cell? ⟨g, 0, none⟩ = some (.slice (some ⟨ab, ao, none⟩) n c) := by rw [cell_of_row w g 0 _ _ _ h1]; rfl
    have f0 := frozen_of_row w g 0 _ _ h1
    have hge : ¬ ((n : Int) < 1) := by omega
    have hcc : ¬ ((c : Int) < 1) := by omega
    have hkn : (1 : Int) ≤ (n : Int) := by omega
    clear hr h1 hB hD hlt hL
    go_enter Try.func91, Try.ntmps91
    go_wp2_with (first
      | (go_at_call 108; refine HC.out.mono ?_; rintro e2 w2 ⟨rfl, rfl⟩)
      | go_in)
    all_goals
      first
        | (have hce : c = 1 := (by first | assumption | omega); rw [hce] at HS; go_ret; exact ⟨rfl, HS.out.1, HS.out.2⟩)
        | (go_ret; exact ⟨rfl, HS.out.1, HS.out.2⟩)

set_option maxHeartbeats 1000000 in
set_option maxRecDepth 100000 in
theorem rint_any (L : List Int) (b : Bool) (g : Nat) (D : Option Nat) (n : Nat) (hn : L.length = n) (hL : n ≤ 10000000) (w : World) (hr : RdAt w g D L b) :
    Calls Try.prog 48 #[.pointer (some ⟨g, 0, none⟩)] w (RdSay (.int .i64 (Pk.vi L)) (Pk.nx 8 L) (Pk.nb 8 L b) g D w) := by
  have HN := Lib.hid hn; clear hn
  by_cases hlt : n < 8
  · have HV : Hid ((.int .i64 (Pk.vi L)) = (.int .i64 0 : Value)) := by show _ = _; unfold Pk.vi; rw [HN.out, if_pos hlt]
    have HX : Hid (Pk.nx 8 L = []) := by show _ = _; unfold Pk.nx; rw [HN.out, if_pos hlt]
    have HB : Hid (Pk.nb 8 L b = true) := by show _ = _; unfold Pk.nb; rw [HN.out, if_pos hlt]
    rw [HV.out, HX.out, HB.out]
    clear HV HX HB
    have HS := Lib.hid hr.spoilt
    obtain ⟨p, c, h1, _, _⟩ := hr.row
    rw [HN.out] at h1
    have c0 : w.cell? ⟨g, 0, none⟩ = some (.slice p n c) := by rw [cell_of_row w g 0 _ _ _ h1]; rfl
    have f0 := frozen_of_row w g 0 _ _ h1
    have h2 := heap_setCell_same w g 0 _ _ (Value.slice none 0 0) h1
    have c1 : (w.setCell ⟨g, 0, none⟩ (.slice none 0 0)).cell? ⟨g, 1, none⟩ = some (.bool b) := by rw [cell_of_row _ g 1 _ _ _ h2]; rfl
    have f1 := frozen_of_row _ g 1 _ _ h2
    have hlt' : (n : Int) < 8 := by omega
    clear hr h1 h2
    go_enter Try.func48, Try.ntmps48
    go_wp2
    go_ret
    exact ⟨rfl, HS.out.1, HS.out.2⟩
  · obtain ⟨ab, ao, c, h1, hB, hD, hcap⟩ := hr.parts HN.out (by omega)
    have HX : Hid (Pk.nx 8 L = L.drop 8) := by show _ = _; unfold Pk.nx; rw [HN.out, if_neg hlt]
    have HB : Hid (Pk.nb 8 L b = b) := by show _ = _; unfold Pk.nb; rw [HN.out, if_neg hlt]
    have HV : Hid (Pk.in8 (L.take 8) = Pk.vi L) := by
      show _ = _
      unfold Pk.vi
      rw [HN.out, if_neg hlt]
    rw [HX.out, HB.out]
    clear HX HB
    have hnn : 8 ≤ n := by omega
    have HS := Lib.hid (hr.step (k := 8) (m := n - 8) (d := c - 8) h1 hB HN.out hnn rfl rfl hD)
    have HT : Hid (Bs (w.setCell ⟨g, 0, none⟩ (.slice (adv ab ao 8 c) (n - 8) (c - 8))) (some ⟨ab, ao, none⟩) c (L.take 8)) :=
      (hB.only HS.out.2 (fun ad h e => by cases h; exact hr.ne (by rw [hD]; exact congrArg some e))).take 8
    have HTL : Hid ((L.take 8).length = 8) := by show _ = _; rw [List.length_take, HN.out]; omega
    have HC : Hid (Calls Try.prog 73 #[.slice (some ⟨ab, ao, none⟩) 8 c] (w.setCell ⟨g, 0, none⟩ (.slice (adv ab ao 8 c) (n - 8) (c - 8))) fun e w' => e = .returned (.int .i64 (Pk.vi L)) ∧ w' = w.setCell ⟨g, 0, none⟩ (.slice (adv ab ao 8 c) (n - 8) (c - 8))) := by
      rw [← HV.out]
      exact toint_any (L.take 8) _ 8 c HTL.out (by omega) _ HT.out
    obtain ⟨X, HXe⟩ : ∃ X, Hid (L.drop 8 = X) := ⟨_, rfl⟩
    rw [HXe.out] at HS ⊢
    have c0 : w.cell? ⟨g, 0, none⟩ = some (.slice (some ⟨ab, ao, none⟩) n c) := by rw [cell_of_row w g 0 _ _ _ h1]; rfl
    have f0 := frozen_of_row w g 0 _ _ h1
    have hge : ¬ ((n : Int) < 8) := by omega
    have hcc : ¬ ((c : Int) < 8) := by omega
    have hkn : (8 : Int) ≤ (n : Int) := by omega
    clear hr h1 hB hD hlt hL
    go_enter Try.func48, Try.ntmps48
    go_wp2_with (first
      | (go_at_call 73; refine HC.out.mono ?_; rintro e2 w2 ⟨rfl, rfl⟩)
      | go_in)
    all_goals
      first
        | (have hce : c = 8 := (by first | assumption | omega); rw [hce] at HS; go_ret; exact ⟨rfl, HS.out.1, HS.out.2⟩)
        | (go_ret; exact ⟨rfl, HS.out.1, HS.out.2⟩)
end
end Go.Proofs.Ytpfghjnhoafcmaa
