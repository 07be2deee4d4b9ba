/-
  PaQ, PaR, PaS, PaT, PaE2, PaRo (merged)
-/
import Derived.Test.YtpfghjnhoafcmaaPa3
import Derived.Test.YtpfghjnhoafcmaaNa2
import Derived.Test.YtpfghjnhoafcmaaNa1
import Derived.Test.YtpfghjnhoafcmaaRows
import Derived.ChangeSame
import Derived.ChangeVars
import Derived.ChangeSlices
import Derived.JoinedOf
import Derived.JoinedAt
import Derived.RowKit
import Derived.RowKitTokens
import Derived.ProofKit
import Derived.SizedLaws
import Derived.Carry
import Derived.OpenShut
import Derived.Deep.Slices
import Derived.ChangeArms
namespace Go.Proofs.Ytpfghjnhoafcmaa

/-! PaQ: Contracts of the reference's reader: Byte, Int. -/
section
open Go.RowKit

def RfSay (v : Value) (L : List Int) (b : Bool) (g : Nat) (D : Option Nat) (w : World) (e : Ending) (w' : World) : Prop :=
  e = .returned v ∧ Hid (RfRd w' g D L b) ∧ Hid (Only g w w')
theorem RfRd.ok {w : World} {g : Nat} {D : Option Nat} {L : List Int} {b : Bool} (h : RfRd w g D L b) (h0 : 0 < L.length) : b = false := by
  cases b with
  | false => rfl
  | true =>
    obtain ⟨p, c, a, B, h1, h2, h3, h6, h7, h8, h9⟩ := h.row
    rw [h8 rfl] at h0
    simp at h0
def Pk.up (L : List Int) (k : Nat) : Int := Pk.be (L.take k)
theorem Pk.up_zero (L : List Int) : Pk.up L 0 = 0 := by unfold Pk.up; rw [List.take_zero, Pk.be_nil]
theorem Pk.up_succ (L : List Int) (k : Nat) (hk : k < L.length) : Pk.up L k * 256 + L.getD k 0 = Pk.up L (k + 1) := by unfold Pk.up; rw [← take_snoc L k hk, Pk.be_snoc]
theorem Pk.up_lt (L : List Int) (hb : Sha.Byt L) (h8 : L.length = 8) : ∀ k, k ≤ 7 → 0 ≤ Pk.up L k ∧ Pk.up L k < 72057594037927936 := fun k hk => by
  have h := Pk.be_bound hb k (by omega)
  have h2 : (256 : Int) ^ k ≤ 256 ^ 7 := by
    have h3 : (256 : Nat) ^ k ≤ 256 ^ 7 := Nat.pow_le_pow_right (by omega) hk
    have h4 : ((256 ^ k : Nat) : Int) ≤ ((256 ^ 7 : Nat) : Int) := Int.ofNat_le.2 h3
    rw [Int.natCast_pow, Int.natCast_pow] at h4
    exact h4
  unfold Pk.up
  have e : (256 : Int) ^ 7 = 72057594037927936 := rfl
  omega
theorem Pk.up_all (L : List Int) (h8 : L.length = 8) : wrap64 (Pk.up L 8) = Pk.in8 L := by
  unfold Pk.up Pk.in8 wrap64
  rw [List.take_of_length_le (by omega)]
attribute [irreducible] Pk.up
set_option maxHeartbeats 1000000 in
set_option maxRecDepth 100000 in
theorem fint_any (L : List Int) (b : Bool) (g : Nat) (D : Option Nat) (n : Nat) (hn : L.length = n) (w : World) (hr : RfRd w g D L b) :
    Calls Try.prog 51 #[.pointer (some ⟨g, 0, none⟩)] w (RfSay (.int .i64 (Pk.vi L)) (Pk.nx 8 L) (Pk.nb 8 L b) g D w) := by
  have HN := Lib.hid hn
  by_cases hlt : n < 8
  · have HV : Hid (Value.int .i64 (Pk.vi L) = .int .i64 0) := by show _ = _; unfold Pk.vi; rw [HN.out, if_pos hlt]
    have HX : Hid (Pk.nx 8 L = []) := by show _ = _; unfold Pk.nx; rw [HN.out, if_pos hlt]
    have HB : Hid (Pk.nb 8 L b = true) := by show _ = _; unfold Pk.nb; rw [HN.out, if_pos hlt]
    rw [HV.out, HX.out, HB.out]
    clear HV HX HB
    have HC := Lib.hid (next_short L b g D n 8 hn hlt w hr)
    clear hr hn HN
    go_enter Try.func51, Try.ntmps51
    go_wp2_with (go_at_call 74; refine HC.out.mono ?_; rintro e1 w1 ⟨rfl, HR1, HO1⟩)
    go_ret
    exact ⟨rfl, HR1, HO1⟩
  · have hbf := hr.ok (by omega)
    subst hbf
    have HX : Hid (Pk.nx 8 L = L.drop 8) := by show _ = _; unfold Pk.nx; rw [HN.out, if_neg hlt]
    have HB : Hid (Pk.nb 8 L false = false) := by show _ = _; unfold Pk.nb; rw [HN.out, if_neg hlt]
    have HV : Hid (Pk.in8 (L.take 8) = Pk.vi L) := by
      show _ = _
      unfold Pk.vi
      rw [HN.out, if_neg hlt]
    rw [HX.out, HB.out]
    clear HX HB
    have HTL : Hid ((L.take 8).length = 8) := by show _ = _; rw [List.length_take]; omega
    have HC := Lib.hid (next_good L false g D n 8 hn (by omega) (by omega) w hr)
    obtain ⟨X, HXe⟩ : ∃ X, Hid (L.drop 8 = X) := ⟨_, rfl⟩
    obtain ⟨Y, HYe⟩ : ∃ Y, Hid (L.take 8 = Y) := ⟨_, rfl⟩
    unfold NxGood at HC
    rw [HXe.out, HYe.out] at HC
    rw [HXe.out]
    rw [HYe.out] at HV HTL
    rw [← HV.out]
    clear hr hn HN HXe HYe HV
    go_enter Try.func51, Try.ntmps51
    go_wp2_with (go_at_call 74; refine HC.out.mono ?_; rintro e1 w1 ⟨ab, o, c, rfl, HT1, HR1, HO1, HD1⟩)
    go_loopw [5, 6] (fun u5 u6 wr => ∃ k : Nat, k ≤ 8 ∧ u6 = .int .i64 k ∧ u5 = .int .u64 (Pk.up Y k) ∧ wr = w1) (fun _ u6 _ => 8 - (intOf u6).toNat)
    case atStart => exact ⟨0, by omega, rfl, by rw [Pk.up_zero], rfl⟩
    case round =>
      obtain ⟨k, hk, rfl, rfl, rfl⟩ := hrel
      by_cases hl8 : k < 8
      · obtain ⟨ab', o', hpp, hcs⟩ := HT1.out.bat.2 (by rw [HTL.out]; omega)
        cases hpp
        have c0 := hcs k (by rw [HTL.out]; exact hl8)
        clear hcs
        have HS := Lib.hid (Pk.up_succ Y k (by rw [HTL.out]; exact hl8))
        have hy := Pk.up_lt Y HT1.out.bat.1 HTL.out k (by omega)
        have hx := Sha.byt_getD HT1.out.bat.1 k
        generalize Y.getD k 0 = x at *
        obtain ⟨y, hye⟩ : ∃ y, Pk.up Y k = y := ⟨_, rfl⟩
        rw [hye] at HS hy ⊢
        have hu : ∀ z : Int, 0 ≤ z ∧ z < 18446744073709551616 → IntKind.u64.wrap z = z := fun z hz => by unfold IntKind.wrap; simp [IntKind.signed, IntKind.bits]; omega
        have hw1 := hu (y * 256) ⟨by omega, by omega⟩
        have hw2 := hu x ⟨by omega, by omega⟩
        have hw3 := hu (y * 256 + x) ⟨by omega, by omega⟩
        clear hu
        have hx7 : (k : Int) < 8 := by omega
        have hx0 : (0 : Int) ≤ (k : Int) := by omega
        go_wp2
        exact ⟨⟨k + 1, by omega, by go_num, congrArg (Value.int .u64) HS.out, trivial⟩, by simp [intOf]; omega⟩
      · obtain rfl : k = 8 := by omega
        have HE : Hid (wrap64 (Pk.up Y 8) = Pk.in8 Y) := Pk.up_all Y HTL.out
        clear hl8
        go_wp2
        go_ret
        exact ⟨by rw [← HE.out]; rfl, HR1, HO1⟩
end

/-! PaR: Contract of the reference's reader: Sum. -/
section
open Go.RowKit

namespace Pk
def ts (L : List Int) (k : Nat) : List Int := L.take k ++ List.replicate (32 - k) 0
theorem ts_zero (L : List Int) : (ts L 0).map (Value.int .u8) = List.replicate 32 (Value.int .u8 0) := by simp [ts]
theorem ts_len (L : List Int) (h : L.length = 32) (k : Nat) (hk : k ≤ 32) : (ts L k).length = 32 := by simp [ts]; omega
theorem ts_all (L : List Int) (h : L.length = 32) : ts L 32 = L := by unfold ts; rw [List.take_of_length_le (by omega)]; simp
theorem ts_step (L : List Int) (h : L.length = 32) (k : Nat) (hk : k < 32) : (ts L k).set k (L.getD k 0) = ts L (k + 1) := by
  unfold ts
  have hl : (L.take k).length = k := by simp; omega
  rw [List.set_append_right _ _ (by omega), hl, Nat.sub_self, show 32 - k = (32 - (k + 1)) + 1 by omega, List.replicate_succ, List.set_cons_zero, ← take_snoc L k (by omega), List.append_assoc]
  rfl
attribute [irreducible] ts
end Pk
end

/-! PaS: Contract of the reference's reader: Ref. -/
section
open Go.RowKit

theorem RfRd.mark {w : World} {g : Nat} {D : Option Nat} {L : List Int} {b : Bool} (h : RfRd w g D L b) :
    (∃ v, w.cell? ⟨g, 2, none⟩ = some v) ∧ w.frozen? ⟨g, 2, none⟩ = false ∧ RfRd (w.setCell ⟨g, 2, none⟩ (.bool true)) g D [] true := by
  obtain ⟨⟨p, c, a, B, h1, h2, h3, h6, h7, h8, h9⟩, h4, h5⟩ := h
  refine ⟨⟨.bool b, by rw [cell_of_row w g 2 _ _ _ h1]; rfl⟩, frozen_of_row w g 2 _ _ h1, ⟨p, c, a, B, ?_, h2.only (Chg.setCell w ⟨g, 2, none⟩ _).only (fun ad h e => h4 (by rw [h9 ad h, e])), h3, h6, fun h => (by cases h), fun _ => rfl, h9⟩, h4, fun d hd => by simpa using h5 d hd⟩
  rw [heap_setCell_same w g 2 _ _ _ h1]
  rfl
end

/-! PaT: Contracts: known, Pick. -/
section
open Go.RowKit

namespace Pk
def K9 : List Int := [7, 0, 0, 0, 0, 0, 0, 1, 2]
theorem k9_eq : [7] ++ e8 258 8 = K9 := by rw [e8_eight]; rfl
theorem k9_len : K9.length = 9 := rfl
theorem k9_vb : vb K9 = 7 := by unfold vb; rfl
theorem k9_nx : nx 1 K9 = K9.drop 1 := by unfold nx; rfl
theorem k9_nb : nb 1 K9 false = false := by unfold nb; rfl
theorem k9_vi : vi (K9.drop 1) = 258 := by unfold vi in8 be; rfl
theorem k9_nx2 : nx 8 (K9.drop 1) = [] := by unfold nx; rfl
theorem k9_nb2 : nb 8 (K9.drop 1) false = false := by unfold nb; rfl
theorem k9_en : en [] false = 0 := by unfold en; rfl
theorem k9_len2 : (K9.drop 1).length = 8 := rfl
attribute [irreducible] K9
end Pk
/-- Which number Pick answers. -/
def pk (k n : Int) : Nat := (if k.tmod n < 0 then k.tmod n + n else k.tmod n).toNat
theorem pk_lt (k n : Int) (h1 : 1 ≤ n) : (pk k n : Int) < n := by
  have hlt : k.tmod n < n := Int.tmod_lt_of_pos k (by omega)
  have hge : -n < k.tmod n := by
    have h := Int.tmod_lt_of_pos (-k) (show 0 < n by omega)
    rw [Int.neg_tmod] at h
    omega
  unfold pk
  split <;> omega
attribute [irreducible] pk
set_option maxHeartbeats 1000000 in
theorem pick_at (k n : Int) (h1 : 1 ≤ n) (hn : n ≤ 1000000) (w : World) : Calls Try.prog 12 #[.int .i64 k, .int .i64 n] w fun r w' => w' = w ∧ r = .returned (.int .i64 (pk k n : Nat)) := by
  have hlt : k.tmod n < n := Int.tmod_lt_of_pos k (by omega)
  have hge : -n < k.tmod n := by
    have h := Int.tmod_lt_of_pos (-k) (show 0 < n by omega)
    rw [Int.neg_tmod] at h
    omega
  have hw : IntKind.i64.wrap (k.tmod n) = k.tmod n := IntWalk.i64_in _ ⟨by omega, by omega⟩
  have hnz : n ≠ 0 := by omega
  have hw2 : IntKind.i64.wrap (k.tmod n + n) = k.tmod n + n := IntWalk.i64_in _ ⟨by omega, by omega⟩
  by_cases h0 : k.tmod n < 0
  · have hp : ((pk k n : Nat) : Int) = k.tmod n + n := by unfold pk; rw [if_pos h0]; omega
    go_enter Try.func12, Try.ntmps12
    go_wp2
    go_ret
    exact ⟨rfl, by first | rfl | (rw [hp]; rfl)⟩
  · have h0' : 0 ≤ k.tmod n := by omega
    have hp : ((pk k n : Nat) : Int) = k.tmod n := by unfold pk; rw [if_neg h0]; omega
    go_enter Try.func12, Try.ntmps12
    go_wp2
    go_ret
    exact ⟨rfl, by first | rfl | (rw [hp]; rfl)⟩
end

/-! PaE2: Digests and refs held against one another. -/
section
open Go.RowKit

theorem sums_at (d : Nat) (a b : List Int) (ha : a.length = 32) (hb : b.length = 32) (w : World) :
    (Op.equalIn (d + 2) 34 (.agg (a.map (Value.int .u8)).toArray) (.agg (b.map (Value.int .u8)).toArray)).run Try.prog w = .ok (decide (a = b)) w := by
  cases hq : Try.prog.info? 5 with
  | none => have := Try.info_u8; rw [hq] at this; cases this
  | some i =>
    rw [run_equalIn_array w _ _ _ Try.underlying34 hq, ← all_eq a b ha hb]
    exact items_eq d _ (by kernel_rfl) a b w _ (fun j hj => by rw [ha]; exact List.mem_range.1 hj) (fun j hj => by rw [hb]; exact List.mem_range.1 hj)
theorem a32_eq (a b : List Int) (ha : a.length = 32) (hb : b.length = 32) (w : World) : (Op.equalIn 10000 34 (A32 a) (A32 b)).run Try.prog w = .ok (decide (a = b)) w := sums_at 9998 a b ha hb w
theorem Try.fieldsRef : (Try.prog.fieldsOf 36).toList.map (fun f => (f.name, f.type, f.offset)) = [("At", 3, 0), ("Sum", 34, 1)] := by kernel_rfl
theorem Try.cellsSum : Try.prog.cellsOf 34 = 32 := by kernel_rfl
theorem agg_sum (w : World) : (isAgg 34).run Try.prog w = .ok true w := by
  unfold isAgg
  rw [Sem.run_bind, run_underlying Try.underlying34 w]
  rfl
theorem agg_int (w : World) : (isAgg 3).run Try.prog w = .ok false w := by
  unfold isAgg
  rw [Sem.run_bind, run_underlying Try.underlying3 w]
  rfl
set_option maxRecDepth 100000 in
theorem part_sum (r : Int × List Int) (h : r.2.length = 32) (w : World) : (part 34 (Value.int .i64 r.1 :: r.2.map (Value.int .u8)).toArray 1).run Try.prog w = .ok (A32 r.2) w := by
  obtain ⟨i, hi⟩ := info_of_underlying Try.underlying34
  unfold part
  rw [Sem.run_bind, agg_sum]
  simp only [Result.andThen_ok, if_true, Sem.run_bind, run_sizeOf w hi, Try.cellsSum, Sem.run_pure]
  unfold A32
  congr 2
  apply Array.ext'
  simp only [Array.toList_extract, List.extract_eq_take_drop, Nat.add_sub_cancel_left, List.drop_succ_cons, List.drop_zero]
  exact List.take_of_length_le (by simp [h])
set_option maxRecDepth 100000 in
theorem part_at (r : Int × List Int) (w : World) : (part 3 (Value.int .i64 r.1 :: r.2.map (Value.int .u8)).toArray 0).run Try.prog w = .ok (.int .i64 r.1) w := by
  unfold part
  rw [Sem.run_bind, agg_int]
  rfl
set_option maxRecDepth 100000 in
theorem ref_fields (fs : List Field) (hf : fs.map (fun f => (f.name, f.type, f.offset)) = [("At", 3, 0), ("Sum", 34, 1)]) (r s : Int × List Int) (hr : r.2.length = 32) (hs : s.2.length = 32) (w : World) :
    (Op.eqFields 9999 (Value.int .i64 r.1 :: r.2.map (Value.int .u8)).toArray (Value.int .i64 s.1 :: s.2.map (Value.int .u8)).toArray fs).run Try.prog w = .ok (decide (r = s)) w := by
  rcases fs with _ | ⟨f1, _ | ⟨f2, _ | ⟨f3, q⟩⟩⟩
  · simp at hf
  · simp at hf
  · simp only [List.map_cons, List.map_nil, List.cons.injEq, Prod.mk.injEq, and_true] at hf
    obtain ⟨⟨n1, t1, o1⟩, n2, t2, o2⟩ := hf
    have he := run_equalIn_int (P := Try.prog) w 9998 3 .i64 .i64 r.1 s.1 Try.underlying3
    have he2 := sums_at 9997 r.2 s.2 hr hs w
    have p1 := part_at r w
    have p2 := part_at s w
    have p3 := part_sum r hr w
    have p4 := part_sum s hs w
    unfold A32 at p3 p4
    have hA : ("At" : String) ≠ "_" := by decide
    have hS : ("Sum" : String) ≠ "_" := by decide
    rw [Op.eqFields, n1, t1, o1, if_pos hA, Sem.run_bind, p1, Result.andThen_ok, Sem.run_bind, p2, Result.andThen_ok, Sem.run_bind, he, Result.andThen_ok]
    by_cases h1 : r.1 = s.1
    · rw [if_neg (by simp [h1]), Op.eqFields, n2, t2, o2, if_pos hS, Sem.run_bind, p3, Result.andThen_ok, Sem.run_bind, p4, Result.andThen_ok, Sem.run_bind, he2, Result.andThen_ok]
      by_cases h2 : r.2 = s.2
      · rw [if_neg (by simp [h2]), Op.eqFields, decide_eq_true (Prod.ext h1 h2)]
        rfl
      · rw [if_pos (by simp [h2]), decide_eq_false (fun e => h2 (by rw [e]))]
        rfl
    · rw [if_pos (by simp [h1]), decide_eq_false (fun e => h1 (by rw [e]))]
      rfl
  · simp at hf
set_option maxRecDepth 100000 in
theorem r33_eqs (r s : Int × List Int) (hr : r.2.length = 32) (hs : s.2.length = 32) (w : World) : (Op.equalIn 10000 36 (R33 r) (R33 s)).run Try.prog w = .ok (decide (r = s)) w := by
  unfold R33
  rw [show (10000 : Nat) = 9999 + 1 from rfl, run_equalIn_struct w _ _ _ _ Try.underlying36 Try.stoodInHeld36]
  exact ref_fields _ Try.fieldsRef r s hr hs w
end

/-! PaRo: What the rows of the laws share. -/
section
open Go.ChangeShapes Go.WideShapes Go.RowKit

theorem Try.own : ownKnob Try.prog.godebug = none := by kernel_rfl
theorem trod_below_args {H : Type} {enc : TypeId × Value → H} {t : TypeId} {W W' : World} {v : Value} {d : DataW H} {ps : List MemPlace}
    (h : DataW.Trod enc Try.prog W 0 (fun _ => true) true t v d ps) (hb : Below W.heap.size W W') (hlt : ∀ x ∈ ps, x.block < W.heap.size) (hr : Try.prog.readableRec t = true) (hrow : t < Try.prog.types.size) :
    DataW.Trod enc Try.prog W' 0 (fun b => decide (b < W.heap.size)) true t v d ps :=
  Below.trod laid_out hr hrow h hb hlt
theorem in64_wf {n : Int} (h : (Lit.int .i64 n).wf = true) : Pk.In64 n := by
  simp [Lit.wf, IntKind.min, IntKind.max, IntKind.signed, IntKind.bits] at h
  unfold Pk.In64
  omega
theorem Try.cells_int : Try.prog.cellsOf 3 = 1 := by kernel_rfl
theorem cells_sum : Try.prog.cellsOf 34 = 32 := by kernel_rfl
theorem cells_ref : Try.prog.cellsOf 36 = 33 := by kernel_rfl
/-- A digest's cells. -/
theorem open_sum_cells {H : Type} {enc : TypeId × Value → H} {W : World} {fuel : Nat} {cs : List Value} {x : DataW H × List MemPlace} (hlen : cs.length = 32) (hf : DataW.trod enc Try.prog W 0 (fun _ => true) true fuel 34 cs = some x) :
    ∃ l : List Int, cs = l.map (Value.int .u8) ∧ l.length = 32 ∧ Sha.Byt l := by
  obtain ⟨xs, m, _, _, _, hlx, hel⟩ := DataW.trod_array Try.underlying34 hf
  have each : ∀ i, i < 32 → ∃ n : Int, cs[i]? = some (.int .u8 n) ∧ 0 ≤ n ∧ n ≤ 255 := fun i hi => by
    have h1 := hel i hi
    rw [Try.cells5, Nat.mul_one, List.getElem?_eq_getElem (by omega)] at h1
    obtain ⟨n, e, _, hw⟩ := DataW.trod_int Try.underlying5 h1
    refine ⟨n, ?_, ?_⟩
    · have h2 := congrArg (fun z : List Value => z[0]?) e
      simpa [List.getElem?_take, List.getElem?_drop, Value.cells] using h2
    · simp [Lit.wf, IntKind.min, IntKind.max, IntKind.signed, IntKind.bits] at hw
      omega
  refine ⟨cs.map intOf, ?_, by simpa using hlen, fun x hx => ?_⟩
  · rw [List.map_map]
    apply List.ext_getElem?
    intro i
    by_cases hi : i < 32
    · obtain ⟨n, h1, _⟩ := each i hi
      rw [List.getElem?_map, h1]
      rfl
    · rw [List.getElem?_eq_none (by omega), List.getElem?_eq_none (by rw [List.length_map]; omega)]
  · rw [List.mem_map] at hx
    obtain ⟨y, hy, rfl⟩ := hx
    obtain ⟨i, hi, rfl⟩ := List.mem_iff_getElem.1 hy
    obtain ⟨n, h1, h2⟩ := each i (by omega)
    rw [List.getElem?_eq_getElem hi] at h1
    have h3 := Option.some.inj h1
    rw [h3]
    exact h2
def RefC (r : Int × List Int) : List Value := Value.int .i64 r.1 :: r.2.map (Value.int .u8)
def RefOk (r : Int × List Int) : Prop := r.2.length = 32 ∧ Sha.Byt r.2 ∧ Pk.In64 r.1
/-- A ref's cells. -/
theorem open_ref_cells {H : Type} {enc : TypeId × Value → H} {W : World} {fuel : Nat} {cs : List Value} {x : DataW H × List MemPlace} (hlen : cs.length = 33) (hf : DataW.trod enc Try.prog W 0 (fun _ => true) true fuel 36 cs = some x) :
    ∃ r : Int × List Int, cs = RefC r ∧ RefOk r := by
  obtain ⟨xs, m, _, _, _, hlx, hel⟩ := DataW.trod_struct Try.underlying36 hf
  have hl2 : xs.length = 2 := by simpa using hlx
  have h0 := hel 0 _ rfl
  have h1 := hel 1 _ rfl
  rw [List.getElem?_eq_getElem (by omega)] at h0 h1
  obtain ⟨k, e0, _, w0⟩ := DataW.trod_int Try.underlying3 h0
  have h1' : DataW.trod enc Try.prog W 0 (fun _ => true) true m 34 ((cs.drop 1).take 32) = some xs[1] := by
    rw [← cells_sum]; exact h1
  obtain ⟨l, e1, hl, hb⟩ := open_sum_cells (by simp; omega) h1'
  have hd : (cs.drop 1).take 32 = cs.drop 1 := List.take_of_length_le (by simp; omega)
  rw [hd] at e1
  refine ⟨(k, l), ?_, hl, hb, in64_wf w0⟩
  unfold RefC
  rw [← e1]
  cases cs with
  | nil => simp at hlen
  | cons c r =>
    have e2 : c = .int .i64 k := by simpa [Try.cells_int, Value.cells] using e0
    rw [e2]
    rfl
set_option maxRecDepth 100000 in
theorem open_ref {H : Type} {enc : TypeId × Value → H} {W : World} {base : Nat} {v : Value} {d : DataW H} {ps : List MemPlace} (hok : Value.okWide Try.prog W .any base 36 v)
    (h : DataW.Trod enc Try.prog W 0 (fun _ => true) true 36 v d ps) : ∃ r : Int × List Int, v = R33 r ∧ RefOk r := by
  obtain ⟨cs, rfl, hsz, _⟩ : ∃ cs, v = .agg cs ∧ cs.size = Try.prog.cellsOf 36 ∧ Row.okWide Try.prog W .any base 36 cs := by
    simpa [Value.okWide, Try.underlying36] using hok
  rw [cells_ref] at hsz
  obtain ⟨fuel, hf⟩ := h
  obtain ⟨r, e, hr⟩ := open_ref_cells (cs := cs.toList) (by simpa using hsz) hf
  refine ⟨r, ?_, hr⟩
  unfold R33
  congr 1
  apply Array.ext'
  rw [e]
  rfl
end
end Go.Proofs.Ytpfghjnhoafcmaa
