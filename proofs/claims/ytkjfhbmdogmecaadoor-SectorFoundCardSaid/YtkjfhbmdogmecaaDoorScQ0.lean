/-
  A list of sectors put one after another, in plain lists: what Get then answers of any bytes; a list of sectors that came in.
-/
import Derived.Test.YtkjfhbmdogmecaaDoorScRo
import Derived.Test.YtkjfhbmdogmecaaDoorScP0
namespace Go.Proofs.YtkjfhbmdogmecaaDoor
open Go.ChangeShapes Go.WideShapes Go.RowKit

namespace Sc
/-- What is remembered behind the first k of a list. -/
def tr (l : Nat → S) : Nat → Nm.St
  | 0 => Nm.St.none
  | k + 1 => nd (tr l k) (l k)
theorem tr_zero (l : Nat → S) : tr l 0 = Nm.St.none := rfl
theorem tr_succ (l : Nat → S) (k : Nat) : tr l (k + 1) = nd (tr l k) (l k) := rfl
/-- One of the first k, that was put. -/
def In (l : Nat → S) (k : Nat) (s : S) : Prop := ers s = 0 ∧ ∃ i, i < k ∧ l i = s
theorem In.up {l : Nat → S} {k : Nat} {s : S} (h : In l k s) : In l (k + 1) s := by
  obtain ⟨h1, i, h2, h3⟩ := h
  exact ⟨h1, i, by omega, h3⟩
theorem In.down {l : Nat → S} {k : Nat} {s : S} (h : In l (k + 1) s) : In l k s ∨ (s = l k ∧ ers (l k) = 0) := by
  obtain ⟨h1, i, h2, h3⟩ := h
  by_cases hi : i = k
  · subst hi; subst h3; exact Or.inr ⟨rfl, h1⟩
  · exact Or.inl ⟨h1, i, by omega, h3⟩
theorem tr_len (l : Nat → S) : ∀ k, (tr l k).ss.length ≤ k
  | 0 => Nat.le_refl 0
  | k + 1 => by have h1 := nd_le (tr l k) (l k); have h2 := tr_len l k; rw [tr_succ]; omega
theorem tr_place {l : Nat → S} {s : S} : ∀ {k}, In l k s → Nm.place (four s) (tr l k).ss ≠ 0
  | 0, h => by obtain ⟨_, i, h2, _⟩ := h; omega
  | k + 1, h => by
    rw [tr_succ]
    rcases h.down with q | ⟨rfl, q⟩
    · rw [place_nd _ _ (tr_place q)]; exact tr_place q
    · exact place_self _ q
theorem tr_mem {l : Nat → S} {x : Nm.Four} : ∀ {k}, x ∈ (tr l k).ss → ∃ s, In l k s ∧ four s = x
  | 0, h => by rw [tr_zero] at h; exact absurd h (by show x ∉ ([] : List Nm.Four); simp)
  | k + 1, h => by
    rw [tr_succ] at h
    by_cases h0 : ers (l k) = 0
    · rw [nd_ss h0] at h
      rcases Nm.mem_put h with q | q
      · obtain ⟨s, h1, h2⟩ := tr_mem q
        exact ⟨s, h1.up, h2⟩
      · exact ⟨l k, ⟨h0, k, by omega, rfl⟩, q.symm⟩
    · rw [nd_no h0] at h
      obtain ⟨s, h1, h2⟩ := tr_mem h
      exact ⟨s, h1.up, h2⟩
theorem bys_up {l : Nat → S} {s : S} {k : Nat} (h : In l k s) : bys (tr l (k + 1)) s = bys (tr l k) s := by rw [tr_succ]; exact bys_nd _ _ (tr_place h)
/-- The bytes are those of one of that kind and place. -/
def Fnd (l : Nat → S) (k : Nat) (K A : Int) (b : List Int) : Prop := ∃ s, In l k s ∧ s.k = K ∧ s.a = A ∧ bys (tr l k) s = b
theorem fnd_zero {l : Nat → S} {K A : Int} {b : List Int} : ¬ Fnd l 0 K A b := by
  rintro ⟨s, ⟨_, i, h, _⟩, _⟩
  omega
theorem fnd_succ {l : Nat → S} {k : Nat} {K A : Int} {b : List Int} : Fnd l (k + 1) K A b ↔ (Fnd l k K A b ∨ (ers (l k) = 0 ∧ (l k).k = K ∧ (l k).a = A ∧ (pt (nsl (tr l k)) (l k)).2 = b)) := by
  constructor
  · rintro ⟨s, h, h1, h2, h3⟩
    rcases h.down with q | ⟨rfl, q⟩
    · exact Or.inl ⟨s, q, h1, h2, by rw [← bys_up q]; exact h3⟩
    · exact Or.inr ⟨q, h1, h2, by rw [put_bys _ q]; exact h3⟩
  · rintro (⟨s, h, h1, h2, h3⟩ | ⟨q, h1, h2, h3⟩)
    · exact ⟨s, h.up, h1, h2, by rw [bys_up h]; exact h3⟩
    · exact ⟨l k, ⟨q, k, by omega, rfl⟩, h1, h2, by rw [put_bys _ q] at h3; exact h3⟩
theorem fnd_no {l : Nat → S} {k : Nat} {K A : Int} {b : List Int} (h : ers (l k) ≠ 0) : Fnd l (k + 1) K A b ↔ Fnd l k K A b := by
  rw [fnd_succ]
  exact ⟨fun q => q.elim id fun r => absurd r.1 h, Or.inl⟩
/-- Get answers well just if the bytes were put. -/
theorem gt_fnd {l : Nat → S} {m : Nat} {K A : Int} {b : List Int} (hb : Sha.Byt b) (_hm : m ≤ 100000) : (gt (Nm.opn (tr l m)) K A b).1 = 0 ↔ Fnd l m K A b := by
  constructor
  · intro h
    obtain ⟨h0, R, h1, _⟩ := gt_good h
    obtain ⟨h2, h3⟩ := opn_some h1
    obtain ⟨g1, g2, g3⟩ := ger_zero.1 h0
    have hx : Nm.place (Sc.ep (b.take 17), Sc.nu (b.take 17), mk K A, R) (tr l m).ss ≠ 0 := h2
    obtain ⟨s, hs, hf⟩ := tr_mem (k := m) (l := l) (x := (Sc.ep (b.take 17), Sc.nu (b.take 17), mk K A, R)) (Classical.byContradiction fun q => hx (Nm.place_zero.2 q))
    have hl : b.length = 17 + (R.length + 32) := by
      have := congrArg List.length h3
      rw [List.length_drop, List.length_append, Nm.tg_len] at this
      omega
    have ht : ers ⟨K, Sc.ep (b.take 17), Sc.nu (b.take 17), A, R⟩ = 0 := er_zero.2 ⟨g2.1, g3, by show R.length ≤ 975; omega⟩
    obtain rfl := four_inj hs.1 ht hf
    refine ⟨_, hs, rfl, rfl, ?_⟩
    have hfr := fr_of hb g1.1 K g2.2 g2.1
    unfold bys
    show fr K (Sc.ep (b.take 17)) (Sc.nu (b.take 17)) ++ (R ++ Nm.tg 0 (Nm.place (Sc.ep (b.take 17), Sc.nu (b.take 17), mk K A, R) (tr l m).ss)) = b
    rw [← h3, hfr, List.take_append_drop]
  · rintro ⟨s, h, rfl, rfl, rfl⟩
    unfold bys
    have hX : (s.L ++ Nm.tg 0 (Nm.place (four s) (tr l m).ss)).length = s.L.length + 32 := by rw [List.length_append, Nm.tg_len]
    have hO : Nm.opn (tr l m) s.e s.n (mk s.k s.a) (s.L ++ Nm.tg 0 (Nm.place (four s) (tr l m).ss)) = some s.L := opn_of (tr_place h)
    rw [gt_pt h.1 (Nm.opn (tr l m)) _ hX hO]
/-- Put again, nothing changes. -/
theorem nd_again {l : Nat → S} {m i : Nat} (hi : i < m) : nd (tr l m) (l i) = tr l m := by
  by_cases h : ers (l i) = 0
  · rw [nd_ok h]
    unfold Nm.sld
    rw [if_pos (may_of h)]
    have hp : Nm.place (four (l i)) (tr l m).ss ≠ 0 := tr_place ⟨h, i, hi, rfl⟩
    have e : Nm.put (four (l i)) (tr l m).ss = (tr l m).ss := Nm.put_same hp
    unfold four at e
    rw [e]
  · exact nd_no h
theorem pt_again {l : Nat → S} {m i : Nat} (hi : i < m) (h : ers (l i) = 0) : pt (nsl (tr l m)) (l i) = (0, bys (tr l m) (l i)) := by rw [put_bys _ h, nd_again hi]
/-- The bytes are those of one of the first i. -/
def Pt (l : Nat → S) (m i : Nat) (y : List Int) : Prop := ∃ j, j < i ∧ ers (l j) = 0 ∧ (pt (nsl (tr l m)) (l j)).2 = y
theorem pt_zero {l : Nat → S} {m : Nat} {y : List Int} : ¬ Pt l m 0 y := by
  rintro ⟨j, h, _⟩
  omega
theorem pt_succ {l : Nat → S} {m i : Nat} {y : List Int} (h : ¬ Pt l m i y) : Pt l m (i + 1) y ↔ (ers (l i) = 0 ∧ (pt (nsl (tr l m)) (l i)).2 = y) := by
  constructor
  · rintro ⟨j, h1, h2, h3⟩
    by_cases hj : j = i
    · subst hj; exact ⟨h2, h3⟩
    · exact absurd ⟨j, by omega, h2, h3⟩ h
  · rintro ⟨h2, h3⟩
    exact ⟨i, by omega, h2, h3⟩
theorem pt_mono {l : Nat → S} {m i : Nat} {y : List Int} (h : Pt l m i y) (hi : i ≤ m) : Pt l m m y := by
  obtain ⟨j, h1, h2, h3⟩ := h
  exact ⟨j, by omega, h2, h3⟩
theorem gt_Pt {l : Nat → S} {m : Nat} {K A : Int} {y : List Int} (hb : Sha.Byt y) (hm : m ≤ 100000) (h : (gt (Nm.opn (tr l m)) K A y).1 = 0) : Pt l m m y := by
  obtain ⟨s, ⟨h1, i, h2, rfl⟩, _, _, h3⟩ := (gt_fnd hb hm).1 h
  exact ⟨i, h2, h1, by rw [pt_again h2 h1]; exact h3⟩
end Sc
/-- A list of sectors in memory. -/
def SRows (w : World) (tp : Option Addr) (M : Nat) (l : Nat → Sc.S) : Prop := 0 < M → ∃ tb tf, tp = some ⟨tb, tf, none⟩ ∧ tb < w.heap.size ∧ ∀ i, i < M → ∃ p c, SecAt w tb (tf + i * 5) (l i) p c
theorem SRows.old {w x : World} {tp : Option Addr} {M : Nat} {l : Nat → Sc.S} (h : SRows w tp M l) (hb : Below w.heap.size w x) : SRows x tp M l := fun hM => by
  obtain ⟨tb, tf, h1, h2, h3⟩ := h hM
  refine ⟨tb, tf, h1, Nat.lt_of_lt_of_le h2 hb.size, fun i hi => ?_⟩
  obtain ⟨p, c, h⟩ := h3 i hi
  exact ⟨p, c, h.old hb⟩
theorem cells_sec : Tryd.prog.cellsOf 24 = 5 := by kernel_rfl
set_option maxRecDepth 100000 in
/-- A list of sectors that came in. -/
theorem open_secs {H : Type} {enc : TypeId × Value → H} {W : World} {base : Nat} {v : Value} {d : DataW H} {ps : List MemPlace} (hok : Value.okWide Tryd.prog W .any base 46 v)
    (h : DataW.Trod enc Tryd.prog W 0 (fun _ => true) true 46 v d ps) : ∃ (l : Nat → Sc.S) (M : Nat) (tp : Option Addr) (cap : Nat), v = .slice tp M cap ∧ SRows W tp M l ∧ (M ≤ cap ∧ cap ≤ 9223372036854775807) := by
  obtain ⟨a0, len, cap, rfl⟩ := okWide_slice Tryd.underlying46 hok
  obtain ⟨fuel, hf⟩ := h
  rcases Go.Deep.open_slice Tryd.underlying46 hf with ⟨hcs, _⟩ | ⟨a, len', cap', m, n, D, Pl, hcs, _, hl, hm, hmm, _, hi⟩
  · simp [Value.cells] at hcs
    obtain ⟨rfl, rfl, rfl⟩ := hcs
    exact ⟨fun _ => Sc.S.zero, 0, none, 0, rfl, fun h0 => by omega, Nat.le_refl _, by omega⟩
  · simp [Value.cells] at hcs
    obtain ⟨rfl, rfl, rfl⟩ := hcs
    simp only [if_true] at hmm
    have key : ∀ i, i < len → ∃ x : Sc.S, ∃ ab ao, a = ⟨ab, ao, none⟩ ∧ ∃ p c, SecAt W ab (ao + i * 5) x p c := fun i hil => by
      obtain ⟨cs0, hc0, _⟩ := hi 0 (by omega)
      rw [cells_sec, Nat.zero_mul] at hc0
      obtain ⟨_, hcl0, hat0⟩ := World.cells?_some hc0
      have z0 := hat0 0 (by omega)
      rw [List.getElem?_eq_getElem (by omega)] at z0
      obtain ⟨cs', hc, ht⟩ := hi i (by omega)
      rw [cells_sec] at hc
      obtain ⟨_, hcl, hat⟩ := World.cells?_some hc
      obtain ⟨s, p, c, e, hb⟩ := open_sec_cells hcl ht
      obtain ⟨ab, ao, spot⟩ := a
      have hspot : spot = none := by simpa [Addr.add] using World.cell?_spot z0
      subst hspot
      subst e
      have hx := fun j (hj : j < 5) => hat j hj
      refine ⟨s, ab, ao, rfl, p, c, ⟨?_, ?_, ?_, ?_, ?_⟩, hb⟩
      · have q := hx 0 (by omega); rw [Go.Deep.add_add, Addr.add_mid] at q; simpa using q
      · have q := hx 1 (by omega); rw [Go.Deep.add_add, Addr.add_mid] at q; rw [show ao + i * 5 + 1 = ao + (i * 5 + 1) by omega]; simpa using q
      · have q := hx 2 (by omega); rw [Go.Deep.add_add, Addr.add_mid] at q; rw [show ao + i * 5 + 2 = ao + (i * 5 + 2) by omega]; simpa using q
      · have q := hx 3 (by omega); rw [Go.Deep.add_add, Addr.add_mid] at q; rw [show ao + i * 5 + 3 = ao + (i * 5 + 3) by omega]; simpa using q
      · have q := hx 4 (by omega); rw [Go.Deep.add_add, Addr.add_mid] at q; rw [show ao + i * 5 + 4 = ao + (i * 5 + 4) by omega]; simpa using q
    refine ⟨fun i => if h : i < len then (key i h).choose else Sc.S.zero, len, some a, cap, rfl, fun h0 => ?_, hl, by unfold maxLen at hm; exact hm⟩
    obtain ⟨ab, ao, e, p, c, hr⟩ := (key 0 h0).choose_spec
    subst e
    refine ⟨ab, ao, rfl, World.block_lt_of_cell? W _ hr.1.1, fun i hil => ?_⟩
    dsimp only
    rw [dif_pos hil]
    obtain ⟨ab', ao', e', p', c', hr'⟩ := (key i hil).choose_spec
    cases e'
    exact ⟨p', c', hr'⟩
end Go.Proofs.YtkjfhbmdogmecaaDoor
