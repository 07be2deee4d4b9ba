/-
  The law ShaPieces: what it comes to.
-/
import Derived.Test.YtjidkkehhglahaaDoorShaI
import Derived.Deep.Cut
namespace Go.Proofs.YtjidkkehhglahaaDoor
open Go.RowKit

def PickSay (n : Int) (w : World) (e : Ending) (w' : World) : Prop := ∃ r : Nat, e = .returned (.int .i64 (r : Int)) ∧ (r : Int) < n ∧ w = w'
set_option maxHeartbeats 1000000 in
theorem pick_any (k n : Int) (h1 : 1 ≤ n) (h2 : n ≤ 1152921504606846976) (w : World) : Calls Tryd.prog 27 #[.int .i64 k, .int .i64 n] w (PickSay n w) := by
  have t1 : k.tmod n < n := Int.tmod_lt_of_pos _ (by omega)
  have t2 : -n < k.tmod n := by
    have := Int.tmod_lt_of_pos (-k) (b := n) (by omega)
    rw [Int.neg_tmod] at this
    omega
  have hf : decide (n < 1) = false := by simp; omega
  by_cases hneg : k.tmod n < 0
  · go_enter Tryd.func27, Tryd.ntmps27
    go_wp2
    go_ret
    refine ⟨(k.tmod n + n).toNat, ?_, by omega, rfl⟩
    rw [Int.toNat_of_nonneg (by omega)]
    rfl
  · have hneg' : 0 ≤ k.tmod n := by omega
    clear hneg
    go_enter Tryd.func27, Tryd.ntmps27
    go_wp2
    go_ret
    refine ⟨(k.tmod n).toNat, ?_, by omega, rfl⟩
    rw [Int.toNat_of_nonneg (by omega)]
    rfl

/-- What holds of the world while a hash of the law's own is under way. -/
def St (w wi : World) (G : Nat) (L : List Int) : Prop := Holds wi G L ∧ Below w.heap.size w wi ∧ Tab wi 0 ∧ w.heap.size ≤ G ∧ G ≠ 0 ∧ w.heap.size ≤ wi.heap.size
theorem St.new {w w' : World} (ht : Tab w 0) (h1 : Holds w' w.heap.size []) (h2 : Below w.heap.size w w') : St w w' w.heap.size [] :=
  ⟨h1, h2, ht.below h2 ht.lt, Nat.le_refl _, by have := ht.lt; omega, h2.size⟩
theorem St.add {w wi w' : World} {G : Nat} {L c : List Int} (h : St w wi G L) (h1 : Holds w' G (L ++ c)) (h2 : Only G wi w') : St w w' G (L ++ c) := by
  obtain ⟨a1, a2, a3, a4, a5, a6⟩ := h
  refine ⟨h1, h2.below a2 a4 a6, fun t ht => h2.cell (Ne.symm a5) (a3 t ht), a4, a5, Nat.le_trans a6 h2.size⟩
theorem St.below {w wi w' : World} {G : Nat} {L : List Int} (h : St w wi G L) (hb : Below wi.heap.size wi w') : St w w' G L := by
  obtain ⟨a1, a2, a3, a4, a5, a6⟩ := h
  exact ⟨a1.below hb (Nat.le_refl _), a2.trans (hb.mono a6), a3.below hb a3.lt, a4, a5, Nat.le_trans a6 hb.size⟩
theorem BytesAt.part {w : World} {g ab ao cap i n : Nat} {b : List Int} (h : BytesAt w g (some ⟨ab, ao, none⟩) b) (hn : i + n ≤ b.length) (hc : b.length ≤ cap) :
    BytesAt w g (if cap = i then some ⟨ab, ao, none⟩ else some ⟨ab, ao + i, none⟩) ((b.drop i).take n) := by
  refine ⟨Sha.byt_take (Sha.byt_drop h.1 _) _, fun h0 => ?_⟩
  have hl : ((b.drop i).take n).length = n := by simp; omega
  rw [hl] at h0 ⊢
  obtain ⟨ab', ao', e, h2, h3⟩ := h.2 (by omega)
  cases e
  rw [if_neg (by omega)]
  refine ⟨ab, ao + i, rfl, h2, fun j hj => ?_⟩
  have := h3 (i + j) (by omega)
  rw [show ao + i + j = ao + (i + j) by omega, this]
  congr 2
  rw [List.getD_eq_getElem?_getD, List.getD_eq_getElem?_getD, List.getElem?_take, if_pos hj, List.getElem?_drop]
theorem BytesAt.take {w : World} {g n : Nat} {p : Option Addr} {b : List Int} (h : BytesAt w g p b) (hn : n ≤ b.length) : BytesAt w g p (b.take n) := by
  refine ⟨Sha.byt_take h.1 _, fun h0 => ?_⟩
  have hl : (b.take n).length = n := by simp; omega
  rw [hl] at h0 ⊢
  obtain ⟨ab', ao', e, h2, h3⟩ := h.2 (by omega)
  refine ⟨ab', ao', e, h2, fun j hj => ?_⟩
  rw [h3 j (by omega)]
  congr 2
  rw [List.getD_eq_getElem?_getD, List.getD_eq_getElem?_getD, List.getElem?_take, if_pos hj]

def AddSay (w wi : World) (G : Nat) (L c : List Int) (e : Ending) (w' : World) : Prop := e = .returned (.tuple #[]) ∧ St w w' G (L ++ c) ∧ Only G wi w'
/-- Add, as the laws meet it. -/
theorem add_st (hT : TakeSaid) {w wi : World} {G : Nat} {L : List Int} (c : List Int) (p : Option Addr) (n cap : Nat) (hn : c.length = n) (hs : St w wi G L) (hb : BytesAt wi G p c) (hc : n ≤ cap) (hcm : cap ≤ 9223372036854775807) (hL : L.length + n ≤ 1152921504606846000) :
    Calls Tryd.prog 6 #[.pointer (some ⟨G, 0, none⟩), .slice p n cap] wi (AddSay w wi G L c) := by
  subst hn
  exact (add_any hT G L c p cap wi hs.1 hb hc (by omega) (by omega) hs.2.2.1 hs.2.2.2.2.1).mono fun _ _ h => ⟨h.1, hs.add h.2.1 h.2.2, h.2.2⟩
def SumSt (w wi : World) (G : Nat) (L : List Int) (e : Ending) (w' : World) : Prop := e = .returned (.agg ((Sha.dg L).map (Value.int .u8)).toArray) ∧ St w w' G L ∧ Below wi.heap.size wi w'
theorem sum_st (hT : TakeSaid) {w wi : World} {G : Nat} {L : List Int} (hs : St w wi G L) (hL : L.length ≤ 1152921504606846000) :
    Calls Tryd.prog 11 #[.pointer (some ⟨G, 0, none⟩)] wi (SumSt w wi G L) :=
  (sum_any hT G L wi hs.1 hL hs.2.2.1).mono fun _ _ h => ⟨h.1, hs.below h.2, h.2⟩

def OfSt (w wi : World) (G : Nat) (L c : List Int) (e : Ending) (w' : World) : Prop := e = .returned (.agg ((Sha.dg c).map (Value.int .u8)).toArray) ∧ St w w' G L ∧ Below wi.heap.size wi w'
theorem of_st (hT : TakeSaid) {w wi : World} {G : Nat} {L : List Int} (c : List Int) (p : Option Addr) (n cap : Nat) (hn : c.length = n) (hs : St w wi G L) (hb : ∀ g, w.heap.size ≤ g → BytesAt w g p c) (hc : n ≤ cap) (hcm : cap ≤ 1152921504606846000) :
    Calls Tryd.prog 9 #[.slice p n cap] wi (OfSt w wi G L c) := by
  subst hn
  exact (of_any hT c p cap wi (fun g hg => (hb g (Nat.le_trans hs.2.2.2.2.2 hg)).below hs.2.1 (Nat.le_refl _)) hc hcm hs.2.2.1).mono fun _ _ h => ⟨h.1, hs.below h.2, h.2⟩
def KnownSt (w wi : World) (G : Nat) (L : List Int) (e : Ending) (w' : World) : Prop := e = .returned (.bool true) ∧ St w w' G L ∧ Below wi.heap.size wi w'
theorem known_st (hT : TakeSaid) {w wi : World} {G : Nat} {L : List Int} (hs : St w wi G L) : Calls Tryd.prog 12 #[] wi (KnownSt w wi G L) :=
  (known_any hT wi hs.2.2.1).mono fun _ _ h => ⟨h.1, hs.below h.2, h.2⟩

section
variable {P : Program} {md : Region.Mode} {ops : Array Oper} {Q : Exit → Act → World → Prop} {fuel : Nat} {listed : Array Bool} {a : Act} {w : World}
theorem any_take_g (i D : Nat) (v : Value) {op : Op} {T : TypeId} {ps : String} {af : Array Edge} {gd : Option (Nat × Bool)} (ho : ops[i]? = some { dst := some D, op := op, type := T, pos := ps, after := af, guard := gd })
    (hs : Region.noSelect ops = true) (hf : Region.free md ops listed i = true) (hr : (Region.ready md ops listed).contains i = true)
    (hQ : ∀ c a w, Q (.panic c) (a.put (some D) v) w → Q (.panic c) a w) (hw : Region.wanted { dst := some D, op := op, type := T, pos := ps, after := af, guard := gd } (yielded ops a.tmps) = true)
    (hy : ∀ w, (execOp a.eval { dst := some D, op := op, type := T, pos := ps, after := af, guard := gd }).run P w = .ok (.value v) w)
    (h : wpAny P md ops Q fuel (listed.setIfInBounds i true) (a.put (some D) v) w) : wpAny P md ops Q (fuel + 1) listed a w :=
  wpAny_take (oi := { dst := some D, op := op, type := T, pos := ps, after := af, guard := gd }) ho hs hf hr hQ (Or.inl ⟨hw, hy⟩) h
end

end Go.Proofs.YtjidkkehhglahaaDoor
