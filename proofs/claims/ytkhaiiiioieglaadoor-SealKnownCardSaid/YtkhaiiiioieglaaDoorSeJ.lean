/-
  Contracts: Open, whatever is opened; rilllaw05.known.
-/
import Derived.Test.YtkhaiiiioieglaaDoorSeI
import Derived.Test.YtkhaiiiioieglaaDoorSeJ0
namespace Go.Proofs.YtkhaiiiioieglaaDoor
open Go.RowKit

theorem open_any (hT : TakeSaid) (K h S : List Int) (g : Nat) (e n : Int) (ph pS : Option Addr) (nh nS ch cS : Nat) (hnh : h.length = nh) (hnS : S.length = nS)
    (w : World) (hg : BoxAt w g K) (hh : Bs w ph ch h) (hS : Bs w pS cS S) (hs : nh + nS ≤ 200000) (ht : Tab w 1) :
    Calls Tryd.prog 15 #[.pointer (some ⟨g, 0, none⟩), .int .i64 e, .int .i64 n, .slice ph nh ch, .slice pS nS cS] w (OpenSay (Seal.op K e n h S) w) := by
  by_cases hl : nS < 32
  · exact open_bad K h S g e n _ pS nS cS hnS (by omega) (Or.inr hl) w
  · cases h0 : (inR e && inR n) with
    | false => exact open_bad K h S g e n _ pS nS cS hnS (by omega) (Or.inl h0) w
    | true =>
      simp only [Bool.and_eq_true] at h0
      obtain ⟨ab, ao, rfl, _⟩ := hS.bat.2 (by omega)
      exact open_good hT K h S g e n ph ab ao nh nS ch cS (nS - 32) hnh hnS (by omega) h0.1 h0.2 w hg hh hS hs ht

namespace Seal
def keyL : List Int := [107, 101, 121]
def headL : List Int := [104, 101, 97, 100]
def plainL : List Int := [112, 108, 97, 105, 110]
theorem keyB : Sha.Byt keyL := fun x hx => by simp [keyL] at hx; omega
theorem headB : Sha.Byt headL := fun x hx => by simp [headL] at hx; omega
theorem plainB : Sha.Byt plainL := fun x hx => by simp [plainL] at hx; omega
end Seal
/-- Rows of literals, as they are read. -/
theorem lit_one (x : World) (l : List Int) (n : Nat) (fr : Nat × Nat) (hl : l.length = n) (hn : n ≤ 1000) (hb : Sha.Byt l) : Bs (x.alloc (.cells (l.map (Value.int .u8)).toArray 5 fr)) (some ⟨x.heap.size, 0, none⟩) n l :=
  bs_row (bat_row (heap_alloc_new x _) hb) ⟨by omega, by omega⟩
theorem lit_two (x : World) (l : List Int) (n : Nat) (fr : Nat × Nat) (hl : l.length = n) (hn : n ≤ 1000) (hb : Sha.Byt l) (O : Obj) : Bs ((x.alloc O).alloc (.cells (l.map (Value.int .u8)).toArray 5 fr)) (some ⟨x.heap.size + 1, 0, none⟩) n l := by
  have h := lit_one (x.alloc O) l n fr hl hn hb
  rw [show (x.alloc O).heap.size = x.heap.size + 1 by simp] at h
  exact h
theorem below_two (x : World) (O O' : Obj) : Below x.heap.size x ((x.alloc O).alloc O') := ((Below.refl _ x).alloc (Nat.le_refl _) _).alloc (by simp) _
def lit3 : Obj := .cells #[.int .u8 107, .int .u8 101, .int .u8 121] 5 (3, 4)
def lit4 : Obj := .cells #[.int .u8 104, .int .u8 101, .int .u8 97, .int .u8 100] 5 (4, 5)
def lit5 : Obj := .cells #[.int .u8 112, .int .u8 108, .int .u8 97, .int .u8 105, .int .u8 110] 5 (5, 6)

set_option maxHeartbeats 4000000 in
set_option maxRecDepth 100000 in
theorem known_any (hT : TakeSaid) (w : World) (ht : Tab w 1) : Calls Tryd.prog 8 #[] w (YesSay w) := by
  have HT := Lib.hid hT; clear hT
  have Ht := Lib.hid ht; clear ht
  have kc := fun (w : World) (C : Array Value) (n c : Nat) => Lib.run_convert_bytes_const (P := Tryd.prog) w 22 5 C n c Tryd.underlying22 Tryd.underlying5
  have kc2 : ∀ (x : World) (O : Obj) (C : Array Value) (n c : Nat), (convert 22 22 (.slice (some ⟨x.heap.size + 1, 0, none⟩) n c)).run Tryd.prog ((x.alloc O).alloc (.cells C 5)) = .ok (.slice (some ⟨x.heap.size + 1, 0, none⟩) n c) ((x.alloc O).alloc (.cells C 5 (C.size, C.size + 1))) := fun x O C n c => by
    have h := kc (x.alloc O) C n c
    rw [show (x.alloc O).heap.size = x.heap.size + 1 by simp] at h
    exact h
  have HN : Hid (Calls Tryd.prog 10 #[.slice (some ⟨w.heap.size, 0, none⟩) 3 3] (w.alloc lit3) (NewBox Seal.keyL (w.alloc lit3))) := by
    have hb : Below w.heap.size w (w.alloc lit3) := (Below.refl _ w).alloc (Nat.le_refl _) _
    exact newbox_any HT.out Seal.keyL _ 3 3 rfl (by omega) _ (lit_one w Seal.keyL 3 (3, 4) rfl (by omega) Seal.keyB) (Ht.out.below hb Ht.out.lt)
  have HSE : Hid (∀ g x, Below w.heap.size w x → BoxAt x g Seal.keyL → Calls Tryd.prog 14 #[.pointer (some ⟨g, 0, none⟩), .int .i64 1, .int .i64 2, .slice (some ⟨x.heap.size, 0, none⟩) 4 4, .slice (some ⟨x.heap.size + 1, 0, none⟩) 5 5] ((x.alloc lit4).alloc lit5) fun r x' => ∃ p c, r = .returned (.slice p 37 c) ∧ Hid (Bs x' p c (Seal.sl Seal.keyL 1 2 Seal.headL Seal.plainL)) ∧ Below x.heap.size x x') := fun g x hx hg => by
    have hb := below_two x lit4 lit5
    refine (seal_any HT.out Seal.keyL Seal.headL Seal.plainL g 1 2 _ _ 4 5 4 5 rfl rfl _ (hg.old hb) ?_ (lit_two x Seal.plainL 5 (5, 6) rfl (by omega) Seal.plainB lit4) (by omega) (Ht.out.below (hx.trans (hb.mono hx.size)) Ht.out.lt)).mono ?_
    · exact (lit_one x Seal.headL 4 (4, 5) rfl (by omega) Seal.headB).old ((Below.refl _ _).alloc (Nat.le_refl _) _)
    · rintro r x' ⟨p, c, m, rfl, hm, _, hbs, hb2⟩
      rw [Seal.sl_len rfl rfl] at hm
      obtain rfl : m = 37 := hm.symm
      exact ⟨p, c, rfl, hbs, hb.trans (hb2.mono hb.size)⟩
  have HOP : Hid (∀ g x p c, Below w.heap.size w x → BoxAt x g Seal.keyL → Bs x p c (Seal.sl Seal.keyL 1 2 Seal.headL Seal.plainL) → Calls Tryd.prog 15 #[.pointer (some ⟨g, 0, none⟩), .int .i64 1, .int .i64 2, .slice (some ⟨x.heap.size, 0, none⟩) 4 4, .slice p 37 c] (x.alloc lit4) fun r x' => ∃ q d, r = .returned (.tuple #[.slice q 5 d, .bool true]) ∧ Hid (Bs x' q d Seal.plainL) ∧ Below x.heap.size x x') := fun g x p c hx hg hbs => by
    have hb : Below x.heap.size x (x.alloc lit4) := (Below.refl _ x).alloc (Nat.le_refl _) _
    refine (open_any HT.out Seal.keyL Seal.headL (Seal.sl Seal.keyL 1 2 Seal.headL Seal.plainL) g 1 2 _ _ 4 37 4 c rfl (Seal.sl_len rfl rfl _ _ _) _ (hg.old hb) (lit_one x Seal.headL 4 (4, 5) rfl (by omega) Seal.headB) (hbs.old hb) (by omega) (Ht.out.below (hx.trans (hb.mono hx.size)) Ht.out.lt)).mono ?_
    rw [Seal.op_sl rfl rfl _ _ _ Seal.plainB]
    rintro r x' ⟨q, d, m, rfl, hm, _, hq, hb2⟩
    obtain rfl : m = 5 := hm.symm
    exact ⟨q, d, rfl, hq, hb.trans (hb2.mono hb.size)⟩
  have HSB : Hid (∀ x q d, Bs x q d Seal.plainL → Calls Tryd.prog 17 #[.slice q 5 d, .slice (some ⟨x.heap.size, 0, none⟩) 5 5] (x.alloc lit5) (YesSay (x.alloc lit5))) := fun x q d hq => by
    have hb : Below x.heap.size x (x.alloc lit5) := (Below.refl _ x).alloc (Nat.le_refl _) _
    exact same_any Seal.plainL q _ 5 5 d 5 rfl rfl _ (hq.old hb).bat (lit_one x Seal.plainL 5 (5, 6) rfl (by omega) Seal.plainB).bat (by decide)
  have HSN : Hid (∀ g x, Calls Tryd.prog 14 #[.pointer (some ⟨g, 0, none⟩), .int .i64 1, .int .i64 1099511627777, .slice none 0 0, .slice none 0 0] x fun r x' => r = .returned (.slice none 0 0) ∧ Below x.heap.size x x') := fun g x => by
    refine (seal_none g 1 1099511627777 _ _ (by decide) x).mono ?_
    rintro r x' ⟨rfl, rfl⟩
    exact ⟨rfl, Below.refl _ _⟩
  have ms := meth_seal
  have mo := meth_open
  go_enter Tryd.func8, Tryd.ntmps8
  go_wp2_with (first
    | (go_at_call 10; refine HN.out.mono ?_; rintro e1 w1 ⟨g, rfl, HG1, hb1⟩; have B1 : Hid (Below w.heap.size w w1) := ((Below.refl _ w).alloc (Nat.le_refl _) _).trans (hb1.mono (by simp)); clear hb1 HN)
    | (go_at_call 14; refine (HSE.out _ _ B1.out HG1.out).mono ?_; rintro e2 w2 ⟨p2, c2, rfl, HS2, hb2⟩; have B2 : Hid (Below w.heap.size w w2) := B1.out.trans (hb2.mono B1.out.size); have HG2 : Hid (BoxAt w2 g Seal.keyL) := HG1.out.old hb2; clear hb2 HSE)
    | (go_at_call 15; refine (HOP.out _ _ _ _ B2.out HG2.out HS2.out).mono ?_; rintro e3 w3 ⟨q3, d3, rfl, HQ3, hb3⟩; have B3 : Hid (Below w.heap.size w w3) := B2.out.trans (hb3.mono B2.out.size); clear hb3 HOP)
    | (go_at_call 17; refine (HSB.out _ _ _ HQ3.out).mono ?_; rintro e4 w4 ⟨rfl, hb4⟩; have B4 : Hid (Below w.heap.size w w4) := (B3.out.alloc B3.out.size _).trans (hb4.mono (by have := B3.out.size; simp; omega)); clear hb4 HSB)
    | (go_at_call 14; refine (HSN.out _ _).mono ?_; rintro e5 w5 ⟨rfl, hb5⟩; have B5 : Hid (Below w.heap.size w w5) := B4.out.trans (hb5.mono B4.out.size); clear hb5 HSN))
  go_ret
  exact ⟨rfl, B5.out⟩
end Go.Proofs.YtkhaiiiioieglaaDoor
