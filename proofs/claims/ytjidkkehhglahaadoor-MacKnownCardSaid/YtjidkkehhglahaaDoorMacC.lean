/-
  Contracts: mac.digest, mac.Of.
-/
import Derived.Test.YtjidkkehhglahaaDoorMacB
namespace Go.Proofs.YtjidkkehhglahaaDoor
open Go.RowKit

/-- Bytes that are elsewhere than the block. -/
theorem bytes_of {w w' : World} {g : Nat} {p : Option Addr} {l : List Int} (h : BAt w p l) (hb : Below w.heap.size w w') (hg : w.heap.size ≤ g) : BytesAt w' g p l :=
  ⟨h.1, fun h0 => by
    obtain ⟨ab, ao, h1, h2⟩ := h.2 h0
    have hlt : ab < w.heap.size := World.block_lt_of_cell? w _ (h2 0 h0)
    exact ⟨ab, ao, h1, by omega, fun j hj => (hb.cell hlt).trans (h2 j hj)⟩⟩

set_option maxHeartbeats 2000000 in
set_option maxRecDepth 100000 in
theorem digest_any (hT : TakeSaid) (l b : List Int) (hl : l.length = 64) (hlb : Sha.Byt l) (p : Option Addr) (n cap : Nat) (hn : b.length = n) (w : World) (hb : BAt w p b) (hc : n ≤ cap) (hcm : cap ≤ 9223372036854775807) (hbl : b.length ≤ 1000000000) (ht : Tab w 0) :
    Calls Tryd.prog 34 #[.agg (l.map (Value.int .u8)).toArray, .slice p n cap] w (SumSay (l ++ b) w) := by
  subst hn
  have HT := Lib.hid hT; clear hT
  have Ht := Lib.hid ht; clear ht
  have Hb := Lib.hid hb; clear hb
  have Hl := Lib.hid hl; clear hl
  have Hc := Lib.hid (And.intro hc (And.intro hcm hbl)); clear hc hcm hbl
  obtain ⟨o1, ho1⟩ : ∃ o, o = Obj.cells (l.map (Value.int .u8)).toArray 46 (0, 0) := ⟨_, rfl⟩
  obtain ⟨A, HA1, HA2, HA3⟩ : ∃ A : Array Value, Hid (A = ((Sha.dg (l ++ b)).map (Value.int .u8)).toArray) ∧ Hid (A.size = 32) ∧ Hid (A.all (·.oneCell') = true) :=
    ⟨_, rfl, by show _ = _; simp [dg_len], all_oneCell_toArray (bytes_one _)⟩
  go_enter Tryd.func34, Tryd.ntmps34
  go_upto_region 1 with (fail)
  have L0 := heap_alloc2_old w (.cells (l.map (Value.int .u8)).toArray 46) (.cells (List.replicate 32 (Value.int .u8 0)).toArray 30)
  have R0 := heap_alloc2_new w (.cells (l.map (Value.int .u8)).toArray 46) (.cells (List.replicate 32 (Value.int .u8 0)).toArray 30)
  have B0 : Below w.heap.size w ((w.alloc (.cells (l.map (Value.int .u8)).toArray 46)).alloc (.cells (List.replicate 32 (Value.int .u8 0)).toArray 30)) := ((Below.refl _ w).alloc (Nat.le_refl _) _).alloc (by simp) _
  have S0 : ((w.alloc (.cells (l.map (Value.int .u8)).toArray 46)).alloc (.cells (List.replicate 32 (Value.int .u8 0)).toArray 30)).heap.size = w.heap.size + 2 := by simp
  change Code.wp _ _ _ _ ((w.alloc (.cells (l.map (Value.int .u8)).toArray 46)).alloc (.cells (List.replicate 32 (Value.int .u8 0)).toArray 30))
  generalize (w.alloc (.cells (l.map (Value.int .u8)).toArray 46)).alloc (.cells (List.replicate 32 (Value.int .u8 0)).toArray 30) = wB at *
  have HL0 : Hid (BAt wB (some ⟨w.heap.size, 0, none⟩) l) := bat_row L0 hlb
  have HR0 := Lib.hid R0
  have HB0 := Lib.hid B0
  have HTB : Hid (Tab wB 0) := Ht.out.below B0 Ht.out.lt
  clear L0 R0 B0 ho1 Ht
  have hG : Hid (wB.heap.size ≤ w.heap.size + 2) := by show _ ≤ _; omega
  go_wp2_with (first
    | (go_at_call 5; refine (new_any _).mono ?_; rintro e w1 ⟨rfl, hh1, hb1, hs1⟩; have ST1 : Hid (St wB w1 (w.heap.size + 2) []) := (by have h := St.new HTB.out hh1 hb1; rw [S0] at h; exact h); clear hh1 hb1 hs1)
    | (go_at_call 6; refine (add_st HT.out b _ _ _ rfl ST2.out (bytes_of Hb.out (HB0.out.trans (ST2.out.2.1.mono (by omega))) (by omega)) Hc.out.1 (by have := Hc.out; omega) (by have := Hc.out; have := Hl.out; simp; omega)).mono ?_; rintro e w3 ⟨rfl, st3, _⟩; have ST3 := Lib.hid st3; clear st3)
    | (go_at_call 6; refine (add_st HT.out l _ 64 64 Hl.out ST1.out (bytes_of HL0.out ST1.out.2.1 hG.out) (by omega) (by omega) (by simp)).mono ?_; rintro e w2 ⟨rfl, st2, _⟩; have ST2 := Lib.hid st2; clear st2)
    | (go_at_call 11; refine (sum_st HT.out ST3.out (by have := Hc.out; have := Hl.out; simp; omega)).mono ?_; rintro e w4 ⟨rfl, st4, _⟩; simp only [List.nil_append] at st4 ⊢; rw [← HA1.out]; have ST4 := Lib.hid st4; clear st4; have HR4 : Hid (w4.heap[w.heap.size + 1]? = some (.cells (List.replicate 32 (Value.int .u8 0)).toArray 30 (0, 0))) := (ST4.out.2.1.block _ (by omega)).trans HR0.out)
    | ((with_reducible refine row_store _ _ _ _ _ _ _ ?_ ?_ HR4.out (row_size Tryd.sizeSum HA2) ?_ HA3.out ?_); (exact rfl); (exact rfl); (rw [HA2.out]; rfl); intro w6 G6 ch6))
  refine bodyPost_ret (results_cell_row rfl _ _ (w.heap.size + 1) 30 A (0, 0) _ rfl G6.out Tryd.underlying30 rfl (row_size Tryd.sizeSum HA2)) rfl ⟨?_, ch6.below (HB0.out.trans (ST4.out.2.1.mono (by omega))) (by omega)⟩
  rw [HA1.out]

end Go.Proofs.YtjidkkehhglahaaDoor
