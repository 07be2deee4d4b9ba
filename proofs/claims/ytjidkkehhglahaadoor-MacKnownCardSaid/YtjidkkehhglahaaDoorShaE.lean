/-
  Contract: (*sha.Hash).Add.
-/
import Derived.Test.YtjidkkehhglahaaDoorShaC0
import Derived.Test.YtjidkkehhglahaaDoorShaN
import Derived.Deep.RegionHeld3
import Derived.OneCell
import Derived.StillTailTactics
namespace Go.Proofs.YtjidkkehhglahaaDoor
open Go.RowKit

/-- Block g is a hash by which L went: but for the length, which is N. -/
def HBlk (w : World) (g : Nat) (L R : List Int) (N : Int) : Prop :=
  w.heap[g]? = some (.cells (Sha.HC (Sha.stN L (L.length / 64)) R N).toArray 49 (0, 0))
/-- Block g is a hash by which L went. -/
def Holds (w : World) (g : Nat) (L : List Int) : Prop := ∃ R, Sha.Rest L R ∧ HBlk w g L R L.length
/-- The bytes l in memory, as a slice sees them, outside block g. -/
def BytesAt (w : World) (g : Nat) (p : Option Addr) (l : List Int) : Prop :=
  Sha.Byt l ∧ (0 < l.length → ∃ ab ao, p = some ⟨ab, ao, none⟩ ∧ ab ≠ g ∧ ∀ j, j < l.length → w.cell? ⟨ab, ao + j, none⟩ = some (.int .u8 (l.getD j 0)))

/-- An array in a block, cut from place k on. -/
theorem arr_slice {P : Program} (w : World) (t e : TypeId) (n g o k : Nat) (hn : P.underlying t = some (.array n e)) (he : (P.info? e).map (·.size) = some 1) (hk : k < n) :
    (Instr.sliceAt t (.pointer (some ⟨g, o, none⟩)) (some (.int .i64 (k : Int))) none none).run P w = .ok (.slice (some ⟨g, o + k, none⟩) (n - k) (n - k)) w := by
  have hne : ¬ n = k := by omega
  have ha : (⟨g, o, none⟩ : Addr).add k = ⟨g, o + k, none⟩ := Addr.add_mid g o k
  have h1 : k ≤ n := by omega
  cases hq : P.info? e with
  | none => simp [hq] at he
  | some i =>
    have hs : i.size = 1 := by simpa [hq] using he
    simp [Instr.sliceAt, Instr.sureAddr, run_underlying hn, Instr.sliceBounds, run_sliceBound, sizeOf, typeInfo, hq, hs, hne, ha, h1]

theorem HC_at72 (s : Sha.St) (R : List Int) (n : Int) (h : R.length = 64) : (Sha.HC s R n).toArray[72]? = some (.int .u64 n) := by
  unfold Sha.HC Sha.St.l
  simp [h]
theorem HC_set72 (s : Sha.St) (R : List Int) (n m : Int) (h : R.length = 64) : (Sha.HC s R n).toArray.setIfInBounds 72 (.int .u64 m) = (Sha.HC s R m).toArray := by
  apply Array.ext'
  unfold Sha.HC Sha.St.l
  simp [h]

/-- A part of a block that is known whole, in a still prefix. -/
theorem still_mid {P : Program} {ops : Array Oper} {rest : List Oper} {a : Act} {w : World} {Q : Act → Prop} {D : Option Tmp} {T : TypeId} {ps : String} {af : Array Edge} (ty : TypeId) (x : Operand) (g o : Nat) (t : TypeId) (C : Array Value) (cs : List Value) (fr : Nat × Nat) (d : TypeDesc) (hx : a.eval x = .pointer (some ⟨g, o, none⟩)) (hg : w.heap[g]? = some (.cells C t fr))
    (hc : ∀ j v, cs[j]? = some v → C[o + j]? = some v) (hu : P.underlying ty = some d) (hd : d.isRow = true) (hi : (P.info? ty).map (·.size) = some cs.length)
    (h : wpStill P ops w Q rest (a.put D (.agg cs.toArray))) : wpStill P ops w Q ({ dst := D, op := .load ty x, type := T, pos := ps, after := af, guard := none } :: rest) a := by
  refine wpStill_step fun K hK => ?_
  have hl := run_loadVar_mid (P := P) w g o ty cs d (fun j v hv => by rw [cell_of_row w g (o + j) C t fr hg]; exact hc j v hv) hu hd hi
  simp only [Region.wanted, if_true]
  unfold Oper.still execOp
  simp only [hx, Instr.loadAt, Instr.sureAddr, Sem.run_bind, Sem.run_pure, Result.andThen_ok, hl, Oper.stillUpon_value]
  exact hK _ h
theorem HC_range0 {w : World} {g : Nat} {s : Sha.St} {R : List Int} {n : Int} {t : TypeId} (h : w.heap[g]? = some (.cells (Sha.HC s R n).toArray t (0, 0))) : w.rangeAt g 0 s.l := fun j v hv => by
  rw [cell_of_row w g (0 + j) _ _ _ h]
  unfold Sha.HC
  have hj : j < s.l.length := (List.getElem?_eq_some_iff.1 hv).1
  rw [List.getElem?_toArray, List.getElem?_append, if_pos (by omega), Nat.zero_add]
  exact hv
theorem cells8 {w : World} {g : Nat} {s : Sha.St} {R : List Int} {n : Int} {t : TypeId} (h : w.heap[g]? = some (.cells (Sha.HC s R n).toArray t (0, 0))) : w.cell? ⟨g, 0, none⟩ = some (.int .u32 s.a) ∧ w.cell? ⟨g, 1, none⟩ = some (.int .u32 s.b) ∧ w.cell? ⟨g, 2, none⟩ = some (.int .u32 s.c) ∧ w.cell? ⟨g, 3, none⟩ = some (.int .u32 s.d) ∧ w.cell? ⟨g, 4, none⟩ = some (.int .u32 s.e) ∧ w.cell? ⟨g, 5, none⟩ = some (.int .u32 s.f) ∧ w.cell? ⟨g, 6, none⟩ = some (.int .u32 s.g) ∧ w.cell? ⟨g, 7, none⟩ = some (.int .u32 s.h) ∧ w.frozen? ⟨g, 0, none⟩ = false ∧ w.frozen? ⟨g, 1, none⟩ = false ∧ w.frozen? ⟨g, 2, none⟩ = false ∧ w.frozen? ⟨g, 3, none⟩ = false ∧ w.frozen? ⟨g, 4, none⟩ = false ∧ w.frozen? ⟨g, 5, none⟩ = false ∧ w.frozen? ⟨g, 6, none⟩ = false ∧ w.frozen? ⟨g, 7, none⟩ = false :=
  ⟨HC_range0 h 0 _ rfl, HC_range0 h 1 _ rfl, HC_range0 h 2 _ rfl, HC_range0 h 3 _ rfl, HC_range0 h 4 _ rfl, HC_range0 h 5 _ rfl, HC_range0 h 6 _ rfl, HC_range0 h 7 _ rfl, frozen_of_row w g 0 _ _ h, frozen_of_row w g 1 _ _ h, frozen_of_row w g 2 _ _ h, frozen_of_row w g 3 _ _ h, frozen_of_row w g 4 _ _ h, frozen_of_row w g 5 _ _ h, frozen_of_row w g 6 _ _ h, frozen_of_row w g 7 _ _ h⟩
theorem HC_size9 (s : Sha.St) (R : List Int) (n : Int) (h : R.length = 64) : 0 + 8 ≤ (Sha.HC s R n).toArray.size := by
  have := Sha.HC_len s R n; simp; omega
theorem HC_get0 (s : Sha.St) (R : List Int) (n : Int) : ∀ j v, s.l[j]? = some v → (Sha.HC s R n).toArray[0 + j]? = some v := fun j v hv => by
  unfold Sha.HC
  have hj : j < s.l.length := (List.getElem?_eq_some_iff.1 hv).1
  rw [List.getElem?_toArray, List.getElem?_append, if_pos (by omega), Nat.zero_add]
  exact hv
theorem HC_get8 (s : Sha.St) (R : List Int) (n : Int) : ∀ j v, (R.map (Value.int .u8))[j]? = some v → (Sha.HC s R n).toArray[8 + j]? = some v := fun j v hv => by
  unfold Sha.HC
  have hj : j < (R.map (Value.int .u8)).length := (List.getElem?_eq_some_iff.1 hv).1
  have e : s.l.length = 8 := rfl
  rw [List.getElem?_toArray, List.getElem?_append, if_neg (by omega), e, show 8 + j - 8 = j by omega, List.getElem?_append, if_pos hj]
  exact hv
theorem HC_range8 {w : World} {g : Nat} {s : Sha.St} {R : List Int} {n : Int} {t : TypeId} (h : w.heap[g]? = some (.cells (Sha.HC s R n).toArray t (0, 0))) : w.rangeAt g 8 (R.map (Value.int .u8)) := fun j v hv => by
  rw [cell_of_row w g (8 + j) _ _ _ h]
  unfold Sha.HC
  have hj : j < (R.map (Value.int .u8)).length := (List.getElem?_eq_some_iff.1 hv).1
  have e : s.l.length = 8 := rfl
  rw [List.getElem?_toArray, List.getElem?_append, if_neg (by omega), e, show 8 + j - 8 = j by omega, List.getElem?_append, if_pos hj]
  exact hv
theorem HC_there {w : World} {g : Nat} {s : Sha.St} {R : List Int} {n : Int} {t : TypeId} (h : w.heap[g]? = some (.cells (Sha.HC s R n).toArray t (0, 0))) : w.there g 0 8 := fun j hj => by
  refine ⟨?_, frozen_of_row w g (0 + j) _ _ h⟩
  rw [cell_of_row w g (0 + j) _ _ _ h]
  have e := Sha.HC_len s R n
  simp
  omega
theorem bcell {W w1 : World} (hb : Below W.heap.size W w1) : (∀ b o, b < W.heap.size → w1.cell? ⟨b, o, none⟩ = W.cell? ⟨b, o, none⟩) ∧ (∀ b o, b < W.heap.size → w1.frozen? ⟨b, o, none⟩ = W.frozen? ⟨b, o, none⟩) :=
  ⟨fun b o h => hb.cell (p := ⟨b, o, none⟩) h, fun b o h => hb.frozen (p := ⟨b, o, none⟩) h⟩
/-- The contract of take, as Add meets it. -/
def TookSay (s : Sha.St) (R : List Int) (w : World) (e : Ending) (w' : World) : Prop :=
  ∃ x : Sha.St, e = .returned (.agg x.l.toArray) ∧ Hid (x = Sha.tk s (fun i => R.getD i 0)) ∧ Below w.heap.size w w'
theorem take_of (hT : TakeSaid) (s : Sha.St) (R : List Int) (rl : List Value) (hr : Hid (rl = R.map (Value.int .u8))) (hl : R.length = 64) (hb : Sha.Byt R) (w : World) (ht : Tab w 0) :
    Calls Tryd.prog 22 #[.agg s.l.toArray, .agg rl.toArray] w (TookSay s R w) := by
  rw [hr.out]
  refine (hT s _ (fun i => R.getD i 0) (by simp [hl]) (fun i hi => ?_) (fun i _ => Sha.byt_getD hb i) w ht).mono fun e w' h => ⟨_, h.1, rfl, h.2⟩
  simp [List.getD_eq_getElem?_getD, hl, hi]
theorem st_one (s : Sha.St) : s.l.toArray.all (·.oneCell') = true := one8 _ _ _ _ _ _ _ _ _
theorem Tryd.size44 : (Tryd.prog.info? 45).map (·.size) = some 8 := by kernel_rfl
theorem Tryd.size45 : (Tryd.prog.info? 46).map (·.size) = some 64 := by kernel_rfl
theorem take_more (L b : List Int) (k n : Nat) : L ++ b.take (k + n) = (L ++ b.take k) ++ (b.drop k).take n := by
  rw [List.take_add, List.append_assoc]
theorem len_before {L b : List Int} {k : Nat} (h : k ≤ b.length) : (L ++ b.take k).length = L.length + k := by simp; omega
theorem len_piece {b : List Int} {k n : Nat} (h : n + k ≤ b.length) : ((b.drop k).take n).length = n := by simp; omega
theorem add_some {w2 : World} {g : Nat} {L b R : List Int} {k hd n : Nat} {N : Int} (hk : n + k ≤ b.length) (hhd : hd = (L.length + k) % 64) (hby : Sha.Byt b) (hR : Sha.Rest (L ++ b.take k) R) (hl : hd + n < 64)
    (g2 : w2.heap[g]? = some (.cells (splice (Sha.HC (Sha.stN (L ++ b.take k) ((L ++ b.take k).length / 64)) R N) (8 + hd) (((b.drop k).take n).map (Value.int .u8))).toArray 49 (0, 0))) :
    Sha.Rest (L ++ b.take (k + n)) (splice R hd ((b.drop k).take n)) ∧ hd + n = (L.length + (k + n)) % 64 ∧
      w2.heap[g]? = some (.cells (Sha.HC (Sha.stN (L ++ b.take (k + n)) ((L ++ b.take (k + n)).length / 64)) (splice R hd ((b.drop k).take n)) N).toArray 49 (0, 0)) := by
  have e1 := len_before (L := L) (b := b) (k := k) (by omega)
  have e2 := len_piece hk
  have hd' : hd = (L ++ b.take k).length % 64 := by rw [e1]; exact hhd
  have hby2 : Sha.Byt ((b.drop k).take n) := Sha.byt_take (Sha.byt_drop hby _) _
  rw [take_more L b k n]
  subst hd'
  obtain ⟨q1, q2, q3, q4⟩ := Sha.rest_some hR hby2 (by rw [e2]; exact hl)
  refine ⟨q1, by omega, ?_⟩
  rw [q4, ← Sha.HC_splice _ _ _ _ _ (by rw [e2, hR.1]; omega)]
  exact g2
theorem add_full {w2 : World} {g : Nat} {L b R : List Int} {k hd n : Nat} {N : Int} (hk : n + k ≤ b.length) (hhd : hd = (L.length + k) % 64) (hby : Sha.Byt b) (hR : Sha.Rest (L ++ b.take k) R) (hl : hd + n = 64)
    (g2 : w2.heap[g]? = some (.cells (Sha.HC (Sha.tk (Sha.stN (L ++ b.take k) ((L ++ b.take k).length / 64)) (fun i => (splice R hd ((b.drop k).take n)).getD i 0)) (splice R hd ((b.drop k).take n)) N).toArray 49 (0, 0))) :
    Sha.Rest (L ++ b.take (k + n)) (splice R hd ((b.drop k).take n)) ∧ 0 = (L.length + (k + n)) % 64 ∧
      w2.heap[g]? = some (.cells (Sha.HC (Sha.stN (L ++ b.take (k + n)) ((L ++ b.take (k + n)).length / 64)) (splice R hd ((b.drop k).take n)) N).toArray 49 (0, 0)) := by
  have e1 := len_before (L := L) (b := b) (k := k) (by omega)
  have e2 := len_piece hk
  have hd' : hd = (L ++ b.take k).length % 64 := by rw [e1]; exact hhd
  have hby2 : Sha.Byt ((b.drop k).take n) := Sha.byt_take (Sha.byt_drop hby _) _
  rw [take_more L b k n]
  subst hd'
  obtain ⟨q1, q2, q3⟩ := Sha.rest_full hR hby2 (by rw [e2]; exact hl)
  refine ⟨q1, by omega, ?_⟩
  rw [q3]
  exact g2
theorem cells_at {w wr : World} {g ab ao k n : Nat} {b : List Int} (hO : Only g w wr) (ha : ab ≠ g) (hk : n + k ≤ b.length) (h : ∀ j, j < b.length → w.cell? ⟨ab, ao + j, none⟩ = some (.int .u8 (b.getD j 0))) :
    ∀ j v, (((b.drop k).take n).map (Value.int .u8))[j]? = some v → wr.cell? ((⟨ab, ao + k, none⟩ : Addr).add j) = some v := fun j v hv => by
  rw [Addr.add_mid]
  simp only [List.getElem?_map, List.getElem?_take, List.getElem?_drop] at hv
  split at hv
  · have hj : k + j < b.length := by omega
    rw [List.getElem?_eq_getElem hj] at hv
    have := hO.cell ha (h (k + j) hj)
    rw [List.getD_eq_getElem?_getD, List.getElem?_eq_getElem hj] at this
    simp at hv this
    rw [← hv, ← this]
    congr 2
    omega
  · cases hv
theorem bytes_one (l : List Int) : ∀ v ∈ l.map (Value.int .u8), v.oneCell' = true := fun v hv => by
  obtain ⟨x, _, rfl⟩ := List.mem_map.1 hv; rfl
theorem Tryd.size5 : (Tryd.prog.info? 5).map (·.size) = some 1 := by kernel_rfl
def sliceLen : Value → Nat | .slice _ n _ => n | _ => 0

set_option maxRecDepth 100000 in
set_option maxHeartbeats 1000000 in
theorem add_any (hT : TakeSaid) (g : Nat) (L b : List Int) (p : Option Addr) (cap : Nat) (w : World) (hH : Holds w g L) (hb : BytesAt w g p b) (hc : b.length ≤ cap) (hcm : cap ≤ 9223372036854775807) (hL : L.length + b.length ≤ 1152921504606846976) (ht : Tab w 0) (hg : g ≠ 0) :
    Calls Tryd.prog 6 #[.pointer (some ⟨g, 0, none⟩), .slice p b.length cap] w fun e w' => e = .returned (.tuple #[]) ∧ Holds w' g (L ++ b) ∧ Only g w w' := by
  have HT := Lib.hid hT; clear hT
  obtain ⟨R, hR, hB⟩ := hH
  obtain ⟨hby, hsrc⟩ := hb
  have c72 := (cell_of_row w g 72 _ _ _ hB).trans (HC_at72 _ R _ hR.1)
  have f72 := frozen_of_row w g 72 _ _ hB
  have HB := Lib.hid hB; clear hB
  have HR := Lib.hid hR; clear hR
  have Hby := Lib.hid hby; clear hby
  have Ht := Lib.hid ht; clear ht
  obtain ⟨ab, ao, Hs⟩ : ∃ ab ao, Hid (0 < b.length → p = some ⟨ab, ao, none⟩ ∧ ab ≠ g ∧ ∀ j, j < b.length → w.cell? ⟨ab, ao + j, none⟩ = some (.int .u8 (b.getD j 0))) := by
    by_cases h0 : 0 < b.length
    · obtain ⟨ab, ao, h⟩ := hsrc h0; exact ⟨ab, ao, fun _ => h⟩
    · exact ⟨0, 0, fun h => absurd h h0⟩
  clear hsrc
  go_enter Tryd.func6, Tryd.ntmps6
  go_wp2
  go_loopw [1, 4] (fun v1 v4 wr => ∃ (k hd rl cl : Nat) (q : Option Addr) (R : List Int), Hid (rl + k = b.length) ∧ hd < 64 ∧ Hid (hd = (L.length + k) % 64) ∧ v1 = .slice q rl cl ∧ rl ≤ cl ∧ cl ≤ 9223372036854775807 ∧ v4 = .int .i64 hd ∧ Hid (0 < rl → q = some ⟨ab, ao + k, none⟩) ∧ Hid (Sha.Rest (L ++ b.take k) R) ∧
      Hid (wr.heap[g]? = some (.cells (Sha.HC (Sha.stN (L ++ b.take k) ((L ++ b.take k).length / 64)) R (L.length + b.length)).toArray 49 (0, 0))) ∧ Hid (Only g w wr)) (fun v1 _ _ => sliceLen v1)
  case atStart =>
    refine ⟨0, L.length % 64, b.length, cap, p, R, rfl, by omega, rfl, rfl, hc, hcm, by simp, fun h => (Hs.out h).1, by simpa using HR, ?_, ?_⟩
    · have h0 := heap_setCell_same w g 72 _ _ (.int .u64 (L.length + b.length)) HB.out
      rw [HC_set72 _ _ _ _ HR.out.1] at h0
      show _ = _
      simpa using h0
    · exact (Chg.setCell w ⟨g, 72, none⟩ _).only
  case round =>
    obtain ⟨k, hd, rl, cl, q, R2, Hrl, hhd, Hhd, rfl, hrc, hcl, rfl, Hq, HR2, HB2, HO⟩ := hrel
    clear c72 f72 HB HR
    by_cases h0 : 0 < rl
    · obtain rfl := Hq.out h0
      clear Hq
      have hsl := arr_slice (P := Tryd.prog) wr 46 5 64 g 8 hd Tryd.underlying46 Tryd.size5 hhd
      by_cases hf : 64 - hd ≤ rl
      · obtain ⟨m, Hm⟩ : ∃ m, Hid (m = 64 - hd) := ⟨_, rfl⟩
        have hm1 : m + hd ≤ 64 := by rw [Hm.out]; omega
        have hm2 : 64 ≤ m + hd := by rw [Hm.out]; omega
        have hkr : m + k ≤ b.length := by have := Hrl.out; omega
        obtain ⟨c, Hc⟩ : ∃ c, Hid (c = (b.drop k).take m) := ⟨_, rfl⟩
        have Hcl : Hid (c.length = m) := by show _ = _; rw [Hc.out, len_piece hkr]
        obtain ⟨CS, HCS, Hl⟩ : ∃ CS : List Value, Hid (CS = c.map (Value.int .u8)) ∧ Hid (CS.length = m) := ⟨_, rfl, by show _ = _; rw [List.length_map, Hcl.out]⟩
        have hl1 : CS.length ≤ rl := by rw [Hl.out]; omega
        have hl2 : 64 ≤ hd + CS.length := by rw [Hl.out]; omega
        have hl3 : hd + CS.length ≤ 64 := by rw [Hl.out]; omega
        have ht1 : ((hd : Int) + (CS.length : Int) == 64) = true := by simp; omega
        have hcs : Hid (∀ j v, CS[j]? = some v → wr.cell? ((⟨ab, ao + k, none⟩ : Addr).add j) = some v) := by
          rw [HCS.out, Hc.out]; exact cells_at HO.out (Hs.out (by omega)).2.1 hkr (Hs.out (by omega)).2.2
        have hone : Hid (∀ v ∈ CS, v.oneCell' = true) := by rw [HCS.out]; exact bytes_one _
        have hfit : Hid (8 + hd + CS.length ≤ (Sha.HC (Sha.stN (L ++ b.take k) ((L ++ b.take k).length / 64)) R2 (L.length + b.length)).length) := by
          show _ ≤ _; rw [Sha.HC_len, HR2.out.1]; omega
        have hn : Hid (CS.length = Nat.min rl (64 - hd)) := by
          show _ = _; rw [Hl.out, Hm.out]; exact (Nat.min_eq_right (by omega)).symm
        go_upto_region 7 with ((with_reducible refine row_copy _ _ _ _ 5 g (8 + hd) (64 - hd) (64 - hd) ⟨ab, ao + k, none⟩ rl cl _ _ CS ?_ ?_ HB2.out ?_ ?_ hn.out hcs.out hfit.out hone.out ?_); (exact rfl); (exact rfl); (exact Tryd.underlying25); (exact Tryd.size5); intro w2 g2 ch)
        have HB3 : Hid (w2.heap[g]? = some (.cells (Sha.HC (Sha.stN (L ++ b.take k) ((L ++ b.take k).length / 64)) (splice R2 hd c) (L.length + b.length)).toArray 49 (0, 0))) := by
          have g3 := g2.out
          rw [HCS.out, Sha.HC_splice _ _ _ _ _ (by rw [Hcl.out, HR2.out.1]; omega)] at g3
          exact g3
        have HR3 : Hid ((splice R2 hd c).length = 64 ∧ Sha.Byt (splice R2 hd c)) := by
          refine ⟨?_, ?_⟩
          · rw [Sha.splice_len _ _ _ (by rw [Hcl.out, HR2.out.1]; omega), HR2.out.1]
          · exact Sha.splice_byt _ HR2.out.2.1 (by rw [Hc.out]; exact Sha.byt_take (Sha.byt_drop Hby.out _) _)
        have HO2 : Hid (Only g w w2) := HO.out.trans ch.only
        have HT2 : Hid (Tab w2 0) := fun t h => HO2.out.cell (Ne.symm hg) (Ht.out t h)
        obtain ⟨q2, Hq2⟩ : ∃ q2 : Option Addr, Hid (q2 = if cl = CS.length then some ⟨ab, ao + k, none⟩ else some ⟨ab, ao + k + CS.length, none⟩) := ⟨_, rfl⟩
        rw [← Hq2.out]
        clear g2 ch HB2 HO hcs hone hfit hn hsl ht1 HCS
        generalize hs : Sha.stN (L ++ b.take k) ((L ++ b.take k).length / 64) = s at HB3
        have HS := Lib.hid hs; clear hs
        obtain ⟨RR, HRR⟩ : ∃ RR, Hid (RR = splice R2 hd c) := ⟨_, rfl⟩
        rw [← HRR.out] at HB3 HR3
        obtain ⟨rl8, Hrl8⟩ : ∃ rl8 : List Value, Hid (rl8 = RR.map (Value.int .u8)) := ⟨_, rfl⟩
        have HG8 : Hid (∀ j v, rl8[j]? = some v → (Sha.HC s RR (L.length + b.length)).toArray[8 + j]? = some v) := by rw [Hrl8.out]; exact HC_get8 _ _ _
        have HL8 : Hid ((Tryd.prog.info? 46).map (·.size) = some rl8.length) := by rw [Hrl8.out, List.length_map, HR3.out.1]; exact Tryd.size45
        have HT3 : Hid (Tab w2.drew 0) := HT2.out
        have LR0 : Hid (w2.drew.rangeAt g 0 s.l) := HC_range0 HB3.out
        have LR8 : Hid (w2.drew.rangeAt g 8 rl8) := by rw [Hrl8.out]; exact HC_range8 HB3.out
        have hgl : Hid (g < w2.drew.heap.size) := lt_of_block HB3.out
        refine wp_region_any (by kernel_rfl) ?_
        change wpAny _ _ _ _ _ _ _ (World.drew _)
        refine any_take 0 40 (.pointer (some ⟨g, 0, none⟩)) rfl (by kernel_rfl) (by kernel_rfl) (by kernel_rfl) (fun _ _ _ h => h) (by intro w; go_simp) ?_
        simp only [Act.put, List.setIfInBounds_toArray, List.set_cons_zero, List.set_cons_succ]
        refine any_take 1 41 (.pointer (some ⟨g, 0, none⟩)) rfl (by kernel_rfl) (by kernel_rfl) (by kernel_rfl) (fun _ _ _ h => h) (by intro w; go_simp) ?_
        simp only [Act.put, List.setIfInBounds_toArray, List.set_cons_zero, List.set_cons_succ]
        refine any_take 2 42 (.pointer (some ⟨g, 0, none⟩)) rfl (by kernel_rfl) (by kernel_rfl) (by kernel_rfl) (fun _ _ _ h => h) (by intro w; go_simp) ?_
        simp only [Act.put, List.setIfInBounds_toArray, List.set_cons_zero, List.set_cons_succ]
        refine any_take 3 43 (.pointer (some ⟨g, 0, none⟩)) rfl (by kernel_rfl) (by kernel_rfl) (by kernel_rfl) (fun _ _ _ h => h) (by intro w; go_simp) ?_
        simp only [Act.put, List.setIfInBounds_toArray, List.set_cons_zero, List.set_cons_succ]
        refine any_take 5 45 (.pointer (some ⟨g, 0, none⟩)) rfl (by kernel_rfl) (by kernel_rfl) (by kernel_rfl) (fun _ _ _ h => h) (by intro w; go_simp) ?_
        simp only [Act.put, List.setIfInBounds_toArray, List.set_cons_zero, List.set_cons_succ]
        refine any_take 6 46 (.pointer (some ⟨g, 0, none⟩)) rfl (by kernel_rfl) (by kernel_rfl) (by kernel_rfl) (fun _ _ _ h => h) (by intro w; go_simp) ?_
        simp only [Act.put, List.setIfInBounds_toArray, List.set_cons_zero, List.set_cons_succ]
        refine any_take 7 47 (.pointer (some ⟨g, 8, none⟩)) rfl (by kernel_rfl) (by kernel_rfl) (by kernel_rfl) (fun _ _ _ h => h) (by intro w; go_simp) ?_
        simp only [Act.put, List.setIfInBounds_toArray, List.set_cons_zero, List.set_cons_succ]
        refine any_two 4 8 (by kernel_rfl) ?_ ?_
        · refine op_load 4 45 (.tmp 43) rfl g 0 s.l _ rfl LR0.out Tryd.underlying45 rfl Tryd.size44 ?_
          simp only [Act.put, List.setIfInBounds_toArray, List.set_cons_zero, List.set_cons_succ]
          refine any_one 8 (by kernel_rfl) ?_
          refine op_load 8 46 (.tmp 47) rfl g 8 rl8 _ rfl LR8.out Tryd.underlying46 rfl HL8.out ?_
          simp only [Act.put, List.setIfInBounds_toArray, List.set_cons_zero, List.set_cons_succ]
          refine any_one 9 (by kernel_rfl) ?_
          refine wpOp_step rfl (fun K hK => ?_)
          go_simp
          refine (take_of HT.out s RR rl8 Hrl8 HR3.out.1 HR3.out.2 _ HT3.out).mono ?_
          rintro e w3 ⟨y, rfl, HY, hb3⟩
          have HB4 := Lib.hid ((hb3.block g hgl.out).trans HB3.out)
          have HO3 : Hid (Only g w w3) := HO2.out.drew.trans (only_of_below hb3)
          clear hb3 hgl LR0 LR8 HB3 HG8 HL8 HT3 HT2 HO2
          dsimp only
          refine hK _ _ ?_
          clear hK K
          try simp only [Act.put, List.setIfInBounds_toArray, List.set_cons_zero, List.set_cons_succ]
          refine any_take 10 50 (.pointer (some ⟨g, 0, none⟩)) rfl (by kernel_rfl) (by kernel_rfl) (by kernel_rfl) (fun _ _ _ h => h) (by intro w; go_simp) ?_
          simp only [Act.put, List.setIfInBounds_toArray, List.set_cons_zero, List.set_cons_succ]
          refine any_take 11 51 (.pointer (some ⟨g, 0, none⟩)) rfl (by kernel_rfl) (by kernel_rfl) (by kernel_rfl) (fun _ _ _ h => h) (by intro w; go_simp) ?_
          simp only [Act.put, List.setIfInBounds_toArray, List.set_cons_zero, List.set_cons_succ]
          refine any_one 12 (by kernel_rfl) ?_
          refine op_store 12 45 (.tmp 51) (.tmp 49) rfl g 0 _ _ y.l.toArray rfl rfl HB4.out Tryd.size44 (by rw [Sha.HC_len]; show 0 + 8 ≤ _; omega) (st_one y) ?_
          intro w5 g5 ch5
          refine wpAny_done (by kernel_rfl) ?_ _
          have g6 : Hid (w5.heap[g]? = some (.cells (Sha.HC (Sha.tk s (fun i => RR.getD i 0)) RR (L.length + b.length)).toArray 49 (0, 0))) := by
            have := g5.out
            rw [show y.l.toArray.toList = y.l from rfl, Sha.HC_state, HY.out] at this
            exact this
          have HO5 : Hid (Only g w w5) := HO3.out.trans ch5.only
          clear g5 ch5 HB4 HO3 HY
          go_wp2
          obtain ⟨r1, r2, r3⟩ := add_full (N := L.length + b.length) hkr Hhd.out Hby.out HR2.out (by omega) (by rw [← Hc.out, ← HRR.out, HS.out]; exact g6.out)
          have hlen := Hl.out
          refine ⟨⟨k + m, 0, rl - CS.length, cl - CS.length, q2, RR, ?_, by omega, r2, rfl, by omega, by omega, rfl, ?_, by rw [HRR.out, Hc.out]; exact r1, by rw [HRR.out, Hc.out]; exact r3, HO5.out⟩, by simp [sliceLen]; omega⟩
          · show _ = _
            have := Hrl.out
            omega
          · intro h1
            rw [Hq2.out, if_neg (by omega), hlen]
            simp [Nat.add_assoc]
        · refine op_load 8 46 (.tmp 47) rfl g 8 rl8 _ rfl LR8.out Tryd.underlying46 rfl HL8.out ?_
          simp only [Act.put, List.setIfInBounds_toArray, List.set_cons_zero, List.set_cons_succ]
          refine any_one 4 (by kernel_rfl) ?_
          refine op_load 4 45 (.tmp 43) rfl g 0 s.l _ rfl LR0.out Tryd.underlying45 rfl Tryd.size44 ?_
          simp only [Act.put, List.setIfInBounds_toArray, List.set_cons_zero, List.set_cons_succ]
          refine any_one 9 (by kernel_rfl) ?_
          refine wpOp_step rfl (fun K hK => ?_)
          go_simp
          refine (take_of HT.out s RR rl8 Hrl8 HR3.out.1 HR3.out.2 _ HT3.out).mono ?_
          rintro e w3 ⟨y, rfl, HY, hb3⟩
          have HB4 := Lib.hid ((hb3.block g hgl.out).trans HB3.out)
          have HO3 : Hid (Only g w w3) := HO2.out.drew.trans (only_of_below hb3)
          clear hb3 hgl LR0 LR8 HB3 HG8 HL8 HT3 HT2 HO2
          dsimp only
          refine hK _ _ ?_
          clear hK K
          try simp only [Act.put, List.setIfInBounds_toArray, List.set_cons_zero, List.set_cons_succ]
          refine any_take 10 50 (.pointer (some ⟨g, 0, none⟩)) rfl (by kernel_rfl) (by kernel_rfl) (by kernel_rfl) (fun _ _ _ h => h) (by intro w; go_simp) ?_
          simp only [Act.put, List.setIfInBounds_toArray, List.set_cons_zero, List.set_cons_succ]
          refine any_take 11 51 (.pointer (some ⟨g, 0, none⟩)) rfl (by kernel_rfl) (by kernel_rfl) (by kernel_rfl) (fun _ _ _ h => h) (by intro w; go_simp) ?_
          simp only [Act.put, List.setIfInBounds_toArray, List.set_cons_zero, List.set_cons_succ]
          refine any_one 12 (by kernel_rfl) ?_
          refine op_store 12 45 (.tmp 51) (.tmp 49) rfl g 0 _ _ y.l.toArray rfl rfl HB4.out Tryd.size44 (by rw [Sha.HC_len]; show 0 + 8 ≤ _; omega) (st_one y) ?_
          intro w5 g5 ch5
          refine wpAny_done (by kernel_rfl) ?_ _
          have g6 : Hid (w5.heap[g]? = some (.cells (Sha.HC (Sha.tk s (fun i => RR.getD i 0)) RR (L.length + b.length)).toArray 49 (0, 0))) := by
            have := g5.out
            rw [show y.l.toArray.toList = y.l from rfl, Sha.HC_state, HY.out] at this
            exact this
          have HO5 : Hid (Only g w w5) := HO3.out.trans ch5.only
          clear g5 ch5 HB4 HO3 HY
          go_wp2
          obtain ⟨r1, r2, r3⟩ := add_full (N := L.length + b.length) hkr Hhd.out Hby.out HR2.out (by omega) (by rw [← Hc.out, ← HRR.out, HS.out]; exact g6.out)
          have hlen := Hl.out
          refine ⟨⟨k + m, 0, rl - CS.length, cl - CS.length, q2, RR, ?_, by omega, r2, rfl, by omega, by omega, rfl, ?_, by rw [HRR.out, Hc.out]; exact r1, by rw [HRR.out, Hc.out]; exact r3, HO5.out⟩, by simp [sliceLen]; omega⟩
          · show _ = _
            have := Hrl.out
            omega
          · intro h1
            rw [Hq2.out, if_neg (by omega), hlen]
            simp [Nat.add_assoc]
      · have hkr : rl + k ≤ b.length := by rw [Hrl.out]; omega
        obtain ⟨CS, HCS, Hl⟩ : ∃ CS : List Value, Hid (CS = ((b.drop k).take rl).map (Value.int .u8)) ∧ Hid (CS.length = rl) := ⟨_, rfl, by show _ = _; rw [List.length_map, len_piece hkr]⟩
        have hl1 : CS.length ≤ rl := by rw [Hl.out]; omega
        have hl2 : rl ≤ CS.length := by rw [Hl.out]; omega
        have hl3 : hd + CS.length < 64 := by omega
        have ht1 : ((hd : Int) + (CS.length : Int) == 64) = false := by simp; omega
        have hcs : Hid (∀ j v, CS[j]? = some v → wr.cell? ((⟨ab, ao + k, none⟩ : Addr).add j) = some v) := by
          rw [HCS.out]; exact cells_at HO.out (Hs.out (by omega)).2.1 hkr (Hs.out (by omega)).2.2
        have hone : Hid (∀ v ∈ CS, v.oneCell' = true) := by rw [HCS.out]; exact bytes_one _
        have hfit : Hid (8 + hd + CS.length ≤ (Sha.HC (Sha.stN (L ++ b.take k) ((L ++ b.take k).length / 64)) R2 (L.length + b.length)).length) := by
          show _ ≤ _; rw [Sha.HC_len, HR2.out.1]; omega
        have hn : Hid (CS.length = Nat.min rl (64 - hd)) := by
          show _ = _; rw [Hl.out]; exact (Nat.min_eq_left (by omega)).symm
        go_wp2_with ((with_reducible refine row_copy _ _ _ _ 5 g (8 + hd) (64 - hd) (64 - hd) ⟨ab, ao + k, none⟩ rl cl _ _ CS ?_ ?_ HB2.out ?_ ?_ hn.out hcs.out hfit.out hone.out ?_); (exact rfl); (exact rfl); (exact Tryd.underlying25); (exact Tryd.size5); intro w2 g2 ch)
        have g3 := g2.out
        rw [HCS.out] at g3
        obtain ⟨r1, r2, r3⟩ := add_some hkr Hhd.out Hby.out HR2.out (by omega) g3
        refine ⟨⟨k + rl, hd + CS.length, 0, cl - CS.length, _, _, by show _ = _; have := Hrl.out; omega, hl3, by rw [Hl.out]; exact r2, rfl, by omega, by omega, by simp, fun h => absurd h (by omega), r1, r3, HO.out.trans ch.only⟩, by simp [sliceLen]; omega⟩
    · have hz : rl ≤ 0 := by omega
      have fin : Hid (Holds wr g (L ++ b)) := by
        have hk : k = b.length := by have := Hrl.out; omega
        have q1 := HR2.out
        have q2 := HB2.out
        rw [hk, List.take_length] at q1 q2
        refine ⟨R2, q1, ?_⟩
        unfold HBlk
        rw [q2]
        simp
      clear Hrl Hhd Hq HR2 HB2 h0
      go_wp2
      go_end0
      exact ⟨rfl, fin.out, HO.out⟩

end Go.Proofs.YtjidkkehhglahaaDoor
