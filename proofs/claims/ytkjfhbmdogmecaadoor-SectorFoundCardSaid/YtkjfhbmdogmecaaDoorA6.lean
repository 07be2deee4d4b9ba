/-
  MacG, MacH, MacI, MacJ, MacK, RowA (merged)
-/
import Derived.Test.YtkjfhbmdogmecaaDoorA5
import Derived.Test.YtkjfhbmdogmecaaDoorA2
import Derived.Laws.IdiomStrings
import Derived.Test.YtkjfhbmdogmecaaDoorRows
import Derived.Stop.LaidErr
import Derived.ChangeSame
import Derived.ChangeVars
import Derived.ChangeSlices
import Derived.JoinedOf
import Derived.JoinedAt
import Derived.RowKit
import Derived.RowKitTokens
import Derived.LaidLaws
import Derived.LaidHandle
import Derived.Stop.Joined
import Derived.ProofKit
import Derived.Lib.LaidTab
import Derived.SevenTiedAt
import Derived.SizedLaws
import Derived.Carry
namespace Go.Proofs.YtkjfhbmdogmecaaDoor

/-! MacG: Contract: rillref02.Block. -/
section
open Go.RowKit

theorem own_block {w : World} {B n g c : Nat} {xs : List Value} (h : w.ownsRow B 5 1 (.slice (some ⟨g, 0, none⟩) n c) n xs) : B ≤ g ∧ ∃ cur : Array Value, w.heap[g]? = some (.cells cur 5 (0, 0)) ∧ n ≤ c ∧ c ≤ maxLen ∧ cur.size = c * 1 ∧ cur.toList.take (n * 1) = xs := by
  rcases h.2 with ⟨h1, _⟩ | ⟨g', cap, cur, h1, h2, h3, h4, h5, h6, h7⟩
  · cases h1
  · cases h1; exact ⟨h2, cur, h3, h4, h5, h6, h7⟩
theorem own_set {w : World} {B n g c k : Nat} {l : List Int} {x : Int} (h : w.ownsRow B 5 1 (.slice (some ⟨g, 0, none⟩) n c) n (U8s l)) (_hk : k < n) :
    (w.setCell ⟨g, k, none⟩ (.int .u8 x)).ownsRow B 5 1 (.slice (some ⟨g, 0, none⟩) n c) n (U8s (l.set k x)) := by
  obtain ⟨h2, cur, h3, h4, h5, h6, h7⟩ := own_block h
  have hl : l.length = n := by
    have := h.1
    unfold U8s at this
    simpa using this
  refine ⟨by unfold U8s; simp [hl], Or.inr ⟨g, c, cur.setIfInBounds k (.int .u8 x), rfl, h2, heap_setCell_same w g k _ _ _ h3, h4, h5, by simpa using h6, ?_⟩⟩
  unfold U8s at h7 ⊢
  rw [Array.toList_setIfInBounds, List.take_set, h7, List.map_set]
theorem own_frozen {w : World} {B n g c : Nat} {xs : List Value} (h : w.ownsRow B 5 1 (.slice (some ⟨g, 0, none⟩) n c) n xs) (k : Nat) : w.frozen? ⟨g, k, none⟩ = false := by
  obtain ⟨_, cur, h3, _⟩ := own_block h
  exact frozen_of_row w g k _ _ h3
theorem own_mono {w : World} {B B' n : Nat} {e : TypeId} {v : Value} {xs : List Value} (h : w.ownsRow B e 1 v n xs) (hb : B' ≤ B) : w.ownsRow B' e 1 v n xs := by
  refine ⟨h.1, ?_⟩
  rcases h.2 with h1 | ⟨g, cap, cur, h1, h2, h3⟩
  · exact Or.inl h1
  · exact Or.inr ⟨g, cap, cur, h1, Nat.le_trans hb h2, h3⟩
theorem xl_kb_len (x : Int) (K : List Int) : (xl x (kb K)).length = 64 := by rw [xl_len, kb_len]
theorem k64_rep (K : List Int) (z : Nat) (h : K.length + z = 64) : K ++ List.replicate z 0 = k64 K := by
  unfold k64
  congr 2
  omega

def BlockSay (x : Int) (K : List Int) (w : World) (e : Ending) (w' : World) : Prop := ∃ v, e = .returned v ∧ w'.ownsRow w.heap.size 5 1 v 64 (U8s (xl x (kb K))) ∧ Below w.heap.size w w'
end

/-! MacH: Contract: rillref02.Of. -/
section
open Go.RowKit
end

/-! MacI: The law MacSums walked. -/
section
open Go.RowKit

theorem splice_all (A : Array Value) (h : A.size = 32) (z : Value) : splice (List.replicate 32 z) 0 A.toList = A.toList := by
  unfold splice
  rw [List.take_zero, List.nil_append, Array.length_toList, h, List.drop_of_length_le (by simp), List.append_nil]
end

/-! MacJ: Keys out of keys: mac.Derive, rillref02.Derive, the law MacDerives walked. -/
section
open Go.RowKit

/-- A text's bytes. -/
def bl (S : ByteArray) : List Int := S.data.toList.map fun b => (b.toNat : Int)
theorem bl_len (S : ByteArray) : (bl S).length = S.size := by
  unfold bl
  rw [List.length_map, Array.length_toList]
  rfl
theorem bl_byt (S : ByteArray) : Sha.Byt (bl S) := fun x hx => by
  unfold bl at hx
  rw [List.mem_map] at hx
  obtain ⟨b, _, rfl⟩ := hx
  have := b.toNat_lt
  omega
theorem conv_bat (w : World) (S : ByteArray) (c : Nat) (t : TypeId) (fr : Nat × Nat) : BAt (w.alloc (.cells (bytesRow S c) t fr)) (some ⟨w.heap.size, 0, none⟩) (bl S) :=
  ⟨bl_byt S, fun _ => ⟨w.heap.size, 0, rfl, fun j hj => by
    have hj' : j < S.data.size := by rw [bl_len] at hj; exact hj
    rw [cell_of_row _ _ (0 + j) _ _ _ (heap_alloc_new w _), Nat.zero_add, bytesRow_at S c j hj']
    congr 2
    unfold bl
    rw [List.getD_eq_getElem?_getD, List.getElem?_map, List.getElem?_eq_getElem (by simpa using hj')]
    simp⟩⟩
attribute [irreducible] bl
theorem cap_ok (w : World) (S : ByteArray) (hS : S.size ≤ 100000) : grownCap w S.size 0 5 ≤ 9223372036854775807 := by
  have h := grownCap_le_maxLen w S.size 0 5 (by unfold maxLen; omega)
  unfold maxLen at h
  omega

set_option maxHeartbeats 1000000 in
set_option maxRecDepth 100000 in
theorem derive_any (hT : TakeSaid) (K : List Int) (S : ByteArray) (p : Option Addr) (n c : Nat) (hn : K.length = n) (hnl : n ≤ 100000) (hS : S.size ≤ 100000) (w : World) (hp : BAt w p K) (hc : n ≤ c) (hcm : c ≤ 9223372036854775807) (ht : Tab w 0) :
    Calls Tryd.prog 18 #[.slice p n c, .string S] w (HmSay K (bl S) w) := by
  subst hn
  have Ht := Lib.hid ht; clear ht
  have Hp := Lib.hid hp; clear hp
  have Hc := Lib.hid (And.intro hc hcm); clear hc hcm
  have kc := fun w => run_bytes_of_string (P := Tryd.prog) w 9 22 5 S Tryd.underlying9 Tryd.underlying22 Tryd.underlying5
  obtain ⟨A, HA1, HA2, HA3⟩ : ∃ A : Array Value, Hid (A = ((hm K (bl S)).map (Value.int .u8)).toArray) ∧ Hid (A.size = 32) ∧ Hid (A.all (·.oneCell') = true) :=
    ⟨_, rfl, by show _ = _; simp [hm_len], all_oneCell_toArray (bytes_one _)⟩
  have HBW : Hid (∀ C, Below w.heap.size w (((w.alloc (.cells (List.replicate 32 (Value.int .u8 0)).toArray 51)).drew).alloc C)) := fun C => (((Below.refl _ w).alloc (Nat.le_refl _) _).drew).alloc (by show _ ≤ (w.alloc _).heap.size; simp) C
  have HSZ : Hid (∀ C, (((w.alloc (.cells (List.replicate 32 (Value.int .u8 0)).toArray 51)).drew).alloc C).heap.size = w.heap.size + 2) := fun C => by show (Array.push _ _).size = _; rw [Array.size_push]; show (w.alloc _).heap.size + 1 = _; simp
  have HRS : Hid (∀ C, (((w.alloc (.cells (List.replicate 32 (Value.int .u8 0)).toArray 51)).drew).alloc C).heap[w.heap.size]? = some (.cells (List.replicate 32 (Value.int .u8 0)).toArray 51 (0, 0))) := fun C => by
    rw [heap_alloc_old _ _ (by show _ < (w.alloc _).heap.size; simp)]
    exact heap_alloc_new w _
  go_enter Tryd.func18, Tryd.ntmps18
  go_wp2_with (first
    | (go_at_call 26; refine (mac_of_any hT K (bl S) p (some ⟨w.heap.size + 1, 0, none⟩) _ _ c _ rfl (bl_len S) _ (Hp.out.old (HBW.out _)) (by have h := conv_bat ((w.alloc (.cells (List.replicate 32 (Value.int .u8 0)).toArray 51)).drew) S; have e : ((w.alloc (.cells (List.replicate 32 (Value.int .u8 0)).toArray 51)).drew).heap.size = w.heap.size + 1 := (by show (w.alloc _).heap.size = _; simp); rw [e] at h; exact h _ _ _) Hc.out.1 Hc.out.2 (grownCap_ge _ _ _ _) (cap_ok _ S hS) (by omega) (by rw [bl_len]; omega) (Ht.out.below (HBW.out _) Ht.out.lt)).mono ?_; rintro e w1 ⟨rfl, hb1⟩; rw [← HA1.out]; have HB1 : Hid (Below w.heap.size w w1) := (HBW.out _).trans (hb1.mono (by rw [HSZ.out]; omega)); have HR1 : Hid (w1.heap[w.heap.size]? = some (.cells (List.replicate 32 (Value.int .u8 0)).toArray 51 (0, 0))) := (hb1.block _ (by rw [HSZ.out]; omega)).trans (HRS.out _); clear hb1)
    | ((with_reducible refine row_store _ _ _ _ _ _ _ ?_ ?_ HR1.out (row_size Tryd.sizeSum HA2) ?_ HA3.out ?_); (exact rfl); (exact rfl); (rw [HA2.out]; rfl); intro w6 G6 ch6))
  refine bodyPost_ret (results_cell_row rfl _ _ w.heap.size 51 A (0, 0) _ rfl G6.out Tryd.underlying51 rfl (row_size Tryd.sizeSum HA2)) rfl ⟨?_, ch6.below HB1.out (Nat.le_refl _)⟩
  rw [HA1.out]
end

/-! MacK: The law MacDerives walked. -/
section
open Go.RowKit

section
variable {P : Program} {md : Region.Mode} {ops : Array Oper} {Q : Exit → Act → World → Prop} {fuel : Nat} {listed : Array Bool} {a : Act} {w : World}
/-- op_load, of an operation that is guarded, and wanted. -/
theorem op_load_g {K : Act → World → Prop} (i : Nat) (ty : TypeId) (x : Operand) {D : Option Tmp} {T : TypeId} {ps : String} {af : Array Edge} {gd : Option (Nat × Bool)} (ho : ops[i]? = some { dst := D, op := .load ty x, type := T, pos := ps, after := af, guard := gd })
    (hw : Region.wanted { dst := D, op := .load ty x, type := T, pos := ps, after := af, guard := gd } (yielded ops a.tmps) = true)
    (b o : Nat) (cs : List Value) (d : TypeDesc) (hx : a.eval x = .pointer (some ⟨b, o, none⟩)) (hc : w.rangeAt b o cs)
    (hu : P.underlying ty = some d) (hd : d.isRow = true) (hi : (P.info? ty).map (·.size) = some cs.length) (h : K (a.put D (.agg cs.toArray)) w) : wpOp P ops Q i K a w := by
  unfold wpOp
  rw [ho]
  simp only [hw, if_true]
  exact Or.inl (wp_load_mid ty x rfl b o hx cs d hc hu hd hi h)
end
end

/-! RowA: What the rows of the laws share: two tables of constants as their own initialisers lay them; a slice of bytes that came in. -/
section
open Go.ChangeShapes Go.WideShapes Go.RowKit

theorem Tryd.own : ownKnob Tryd.prog.godebug = none := by kernel_rfl
theorem Tryd.laidOut : laidOutB Tryd.prog = true := by kernel_rfl
theorem Tryd.cells5 : Tryd.prog.cellsOf 5 = 1 := by kernel_rfl
theorem laid_kk : (Rows.laid_rill_sha_constants : DataW Unit) = Lib.tabData .u32 Sha.kk := by
  unfold Sha.kk
  rfl
def rowLaid1 : List (String × DataW Unit) := [("rill/sha.constants", Rows.laid_rill_sha_constants)]
theorem tab_of_laid1 {W : World} (h : laidMet Tryd.prog rowLaid1 W) : Tab W 0 := by
  unfold rowLaid1 at h
  rw [laid_kk] at h
  have hT := Lib.tabIs_of_head (g := 0) (t := 115) (by kernel_rfl) (by kernel_rfl) Tryd.underlying115 Tryd.underlying78 (by kernel_rfl) (by kernel_rfl) h
  intro t ht
  have := hT.cell (g := 0) (by kernel_rfl) t (by unfold Sha.kk; exact ht)
  unfold Sha.ki
  exact this
theorem trod_below_args {H : Type} {enc : TypeId × Value → H} {t : TypeId} {W W' : World} {v : Value} {d : DataW H} {ps : List MemPlace}
    (h : DataW.Trod enc Tryd.prog W 0 (fun _ => true) true t v d ps) (hb : Below W.heap.size W W') (hlt : ∀ x ∈ ps, x.block < W.heap.size) (hr : Tryd.prog.readableRec t = true) (hrow : t < Tryd.prog.types.size) :
    DataW.Trod enc Tryd.prog W' 0 (fun b => decide (b < W.heap.size)) true t v d ps :=
  Below.trod Tryd.laidOut hr hrow h hb hlt
def kkCells : Obj → Obj
  | .cells _ t frozen => .cells (Sha.kk.map fun z => Value.int .u32 z).toArray t frozen
  | o => o
set_option maxRecDepth 100000 in
/-- A slice of bytes that came in. -/
theorem open_bytes {H : Type} {enc : TypeId × Value → H} {W : World} {base : Nat} {v : Value} {d : DataW H} {ps : List MemPlace} (hok : Value.okWide Tryd.prog W .any base 22 v)
    (h : DataW.Trod enc Tryd.prog W 0 (fun _ => true) true 22 v d ps) : ∃ (L : List Int) (p : Option Addr) (cap : Nat), v = .slice p L.length cap ∧ BAt W p L ∧ L.length ≤ cap ∧
      (cap = 0 ∨ ∃ D S, d = .slice D S ∧ D.length + S.length = cap) := by
  obtain ⟨a0, len, cap, rfl⟩ := okWide_slice Tryd.underlying22 hok
  obtain ⟨fuel, hf⟩ := h
  rcases open_ints Tryd.underlying22 Tryd.underlying5 Tryd.cells5 hf with ⟨hcs, hx⟩ | ⟨a, len', cap', zs, hcs, _, hl, hm, hz, hx, hcell, hwz⟩
  · simp [Value.cells] at hcs
    obtain ⟨rfl, rfl, rfl⟩ := hcs
    exact ⟨[], none, 0, rfl, ⟨fun x hx => by simp at hx, fun h0 => by simp at h0⟩, Nat.le_refl _, Or.inl rfl⟩
  · simp [Value.cells] at hcs
    obtain ⟨rfl, rfl, rfl⟩ := hcs
    simp only [Prod.mk.injEq] at hx
    obtain ⟨rfl, rfl⟩ := hx
    simp only [if_true] at hz
    have hll : (zs.take len).length = len := by simp; omega
    refine ⟨zs.take len, some a, cap, by rw [hll], ⟨fun x hx => ?_, fun h0 => ?_⟩, by omega, Or.inr ⟨_, _, rfl, by simp [lits]; omega⟩⟩
    · have h := hwz x (List.mem_of_mem_take hx)
      simp [Lit.wf, IntKind.min, IntKind.max, IntKind.signed, IntKind.bits] at h
      omega
    · rw [hll] at h0 ⊢
      obtain ⟨ab, ao, spot⟩ := a
      have hspot : spot = none := by simpa [Addr.add] using World.cell?_spot (hcell 0 (by omega))
      subst hspot
      refine ⟨ab, ao, rfl, fun j hj => ?_⟩
      have h := hcell j (by omega)
      rw [Addr.add_mid] at h
      rw [h]
      congr 2
      simp [List.getD_eq_getElem?_getD, hj]
/-- No machine holds more. -/
theorem bytes_cap {H : Type} {ts : List TypeId} {ds : List (DataW H)} {j : Nat} {d : DataW H} {cap : Nat} (hsz : (DataW.weightsEach Tryd.prog ts ds).all (· ≤ reachBytes) = true) (ht : ts[j]? = some 22) (hd : ds[j]? = some d)
    (h : cap = 0 ∨ ∃ D S, d = .slice D S ∧ D.length + S.length = cap) : cap ≤ 140737488355328 := by
  rcases h with rfl | ⟨D, S, rfl, rfl⟩
  · omega
  · have hs := sized_slice hsz ht hd Tryd.underlying22
    have hbe : Tryd.prog.bytesOf 5 = 1 := by kernel_rfl
    rw [hbe] at hs
    have : reachBytes < 2 ^ 47 := reachBytes_lt
    omega
end

end Go.Proofs.YtkjfhbmdogmecaaDoor
