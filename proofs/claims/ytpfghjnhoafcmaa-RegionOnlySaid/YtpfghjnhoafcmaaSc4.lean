/-
  ScI, ScJ, ScL, ScM (merged)
-/
import Derived.Test.YtpfghjnhoafcmaaSc3
namespace Go.Proofs.Ytpfghjnhoafcmaa

/-! ScI: What is put is got back, in plain lists: with a box, with names; what names open was sealed. -/
section
open Go.RowKit

namespace Sc
theorem e8_inj {n m : Int} (hn : Pk.In64 n) (hm : Pk.In64 m) (h : Pk.e8 n 8 = Pk.e8 m 8) : n = m := by
  rw [← Pk.in8_e8 hn, h, Pk.in8_e8 hm]
theorem mk_inj {k k' n m : Int} (hn : Pk.In64 n) (hm : Pk.In64 m) (h : mk k n = mk k' m) : k = k' ∧ n = m := by
  unfold mk at h
  injection h with h1 h2
  exact ⟨h1, e8_inj hn hm h2⟩
theorem fr_inj {k k' e e' n n' : Int} (he : 0 ≤ e ∧ e ≤ 1099511627776) (he' : 0 ≤ e' ∧ e' ≤ 1099511627776) (hn : 0 ≤ n ∧ n ≤ 1099511627776) (hn' : 0 ≤ n' ∧ n' ≤ 1099511627776) (h : fr k e n = fr k' e' n') : k = k' ∧ e = e' ∧ n = n' := by
  refine ⟨?_, ?_, ?_⟩
  · rw [fr_split, fr_split] at h
    injection h
  · rw [← ep_fr k e n he, h, ep_fr _ _ _ he']
  · rw [← nu_fr k e n hn, h, nu_fr _ _ _ hn']
theorem a64 {s : S} (h : ers s = 0) : Pk.In64 s.a := by
  have := inP_iff.1 (ers_parts h).2.1
  unfold Pk.In64
  omega
/-! names -/
theorem nam_put_len (T : Nm.St) {s : S} (h : ers s = 0) : (pt (nsl T) s).2.length = 49 + s.L.length := by
  rw [pt_ok h, List.length_append, fr_len, nsl_len h]
  omega
/-- What is remembered of a sector. -/
def four (s : S) : Nm.Four := (s.e, s.n, mk s.k s.a, s.L)
theorem nsl_eq {T : Nm.St} {s : S} (h : ers s = 0) : nsl T s.e s.n (mk s.k s.a) s.L = s.L ++ Nm.tg 0 (Nm.num (four s) T.ss) := by
  unfold nsl Nm.sl
  rw [if_pos (may_of h)]
  rfl
theorem nd_ss {T : Nm.St} {s : S} (h : ers s = 0) : (nd T s).ss = Nm.put (four s) T.ss := by
  rw [nd_ok h]
  unfold Nm.sld
  rw [if_pos (may_of h)]
  rfl
theorem opn_some {T : Nm.St} {e n : Int} {h x R : List Int} (ho : Nm.opn T e n h x = some R) : Nm.place (e, n, h, R) T.ss ≠ 0 ∧ x = R ++ Nm.tg 0 (Nm.place (e, n, h, R) T.ss) := by
  unfold Nm.opn at ho
  by_cases h0 : x.length < 32
  · rw [if_pos h0] at ho; cases ho
  · rw [if_neg h0] at ho
    by_cases h1 : Nm.place (e, n, h, x.take (x.length - 32)) T.ss ≠ 0 ∧ x.drop (x.length - 32) = Nm.tg 0 (Nm.place (e, n, h, x.take (x.length - 32)) T.ss)
    · rw [if_pos h1] at ho
      cases ho
      refine ⟨h1.1, ?_⟩
      rw [← h1.2, List.take_append_drop]
    · rw [if_neg h1] at ho; cases ho
theorem opn_of {T : Nm.St} {e n : Int} {h R : List Int} (hp : Nm.place (e, n, h, R) T.ss ≠ 0) : Nm.opn T e n h (R ++ Nm.tg 0 (Nm.place (e, n, h, R) T.ss)) = some R := by
  unfold Nm.opn
  have hl : (R ++ Nm.tg 0 (Nm.place (e, n, h, R) T.ss)).length = R.length + 32 := by rw [List.length_append, Nm.tg_len]
  rw [if_neg (by omega), hl, Nat.add_sub_cancel]
  have h1 : (R ++ Nm.tg 0 (Nm.place (e, n, h, R) T.ss)).take R.length = R := by simp
  have h2 : (R ++ Nm.tg 0 (Nm.place (e, n, h, R) T.ss)).drop R.length = Nm.tg 0 (Nm.place (e, n, h, R) T.ss) := by simp
  rw [h1, h2, if_pos ⟨hp, rfl⟩]
theorem nam_back_in (T T' : Nm.St) {s : S} (h : ers s = 0) (hp : Nm.place (four s) T'.ss = Nm.num (four s) T.ss) : gt (Nm.opn T') s.k s.a (pt (nsl T) s).2 = (0, s) := by
  rw [pt_ok h]
  refine gt_pt h _ _ (nsl_len h) ?_
  rw [nsl_eq h, ← hp]
  exact opn_of (by show Nm.place (four s) T'.ss ≠ 0; rw [hp]; have := Nm.num_pos (x := four s) (l := T.ss); omega)
theorem nam_back (T : Nm.St) {s : S} (h : ers s = 0) : gt (Nm.opn (nd T s)) s.k s.a (pt (nsl T) s).2 = (0, s) := nam_back_in T _ h (by rw [nd_ss h, Nm.num_place])
end Sc
end

/-! ScJ: Contract: known. -/
section
open Go.RowKit

/-- Behind a Put that is done. -/
def PutOk (X : List Int) (m : Nat) (w : World) (F : World → Prop) (r : Ending) (w' : World) : Prop :=
  ∃ u d, r = .returned (.tuple #[.slice u m d, .int .i64 0]) ∧ Hid (w'.ownsRow w.heap.size 5 1 (.slice u m d) m (U8s X)) ∧ Hid (Bs w' u d X) ∧ Hid (F w')
theorem putok_of {x : Int × List Int} {X : List Int} {m : Nat} {w : World} {F : World → Prop} (hx : x = (0, X)) (hm : X.length = m) {r : Ending} {w' : World} (h : LPut x w F r w') : PutOk X m w F r w' := by
  subst hx
  subst hm
  obtain ⟨u, m, d, rfl, h1, h2, h3, h4⟩ := h
  simp only at h1 h2 h3
  subst h1
  exact ⟨u, d, rfl, h2, h3, h4⟩
/-- Behind a Get that is done; that isn't. -/
def GetOk (s : Sc.S) (m : Nat) (w : World) (r : Ending) (w' : World) : Prop :=
  ∃ u d, r = .returned (.tuple #[Sv s u m d, .int .i64 0]) ∧ Hid (w'.ownsRow w.heap.size 5 1 (.slice u m d) m (U8s s.L)) ∧ Hid (Bs w' u d s.L) ∧ Hid (Below w.heap.size w w')
theorem getok_of {x : Int × Sc.S} {s : Sc.S} {m : Nat} {w : World} (hx : x = (0, s)) (hm : s.L.length = m) {r : Ending} {w' : World} (h : LGet x w r w') : GetOk s m w r w' := by
  subst hx
  subst hm
  obtain ⟨u, m, d, rfl, h1, h2, h3, h4⟩ := h
  simp only at h1 h2 h3
  subst h1
  exact ⟨u, d, rfl, h2, h3, h4⟩
def GetBad (n : Int) (w : World) (r : Ending) (w' : World) : Prop :=
  ∃ u d, r = .returned (.tuple #[SV 0 0 0 0 u 0 d, .int .i64 n]) ∧ Hid (Bs w' u d []) ∧ Hid (Below w.heap.size w w')
theorem getbad_of {x : Int × Sc.S} {n : Int} {w : World} (hx : x = (n, Sc.S.zero)) {r : Ending} {w' : World} (h : LGet x w r w') : GetBad n w r w' := by
  subst hx
  obtain ⟨u, m, d, rfl, h1, h2, h3, h4⟩ := h
  have h5 : m = 0 := h1.symm
  subst h5
  exact ⟨u, d, rfl, h3, h4⟩
/-- New names, far from all that was there. -/
def NewNam (w : World) (r : Ending) (w' : World) : Prop :=
  ∃ g b c, r = .returned (.pointer (some ⟨g, 0, none⟩)) ∧ Hid (w.heap.size ≤ g ∧ w.heap.size ≤ b ∧ w.heap.size ≤ c) ∧ Hid (StAt w' g b c Nm.St.none) ∧ Hid (Below w.heap.size w w')
theorem newnam_any (w : World) : Calls Try.prog 10 #[] w (NewNam w) := (new_any w).mono (by rintro r w' ⟨g, b, c, h1, h2, h3, h4⟩; exact ⟨g, b, c, h1, h2, h3, h4⟩)
/-- What stays, of bytes of its own, where names remember. -/
theorem bs_own_only {y y' : World} {b base n d : Nat} {q : Option Addr} {R : List Int} (hb : Bs y q d R) (ho : y.ownsRow base 5 1 (.slice q n d) n (U8s R)) (hk : Only b y y') (hbb : b < base) : Bs y' q d R := by
  refine bs_only hb hk (fun a ha => ?_)
  left
  subst ha
  have := (ho.lt a.block rfl).1
  omega
def rowP : Obj := .cells #[.int .u8 112, .int .u8 108, .int .u8 97, .int .u8 105, .int .u8 110] 5 (5, 6)
def rowK : Obj := .cells #[.int .u8 107, .int .u8 101, .int .u8 121] 5 (3, 4)
end

/-! ScL: The law SectorOnly walked. -/
section
open Go.RowKit

section
variable {w x : World} {g : Nat} {k a : Int}
end
end

/-! ScM: What names make of sectors, in plain lists; the law SectorUnlike walked. -/
section
open Go.RowKit

namespace Sc
/-- A sector's bytes, where T is remembered. -/
def bys (T : Nm.St) (s : S) : List Int := fr s.k s.e s.n ++ (s.L ++ Nm.tg 0 (Nm.place (four s) T.ss))
theorem bys_len (T : Nm.St) (s : S) : (bys T s).length = 49 + s.L.length := by
  unfold bys
  rw [List.length_append, fr_len, List.length_append, Nm.tg_len]
  omega
theorem put_bys (T : Nm.St) {s : S} (h : ers s = 0) : pt (nsl T) s = (0, bys (nd T s) s) := by
  rw [pt_ok h, nsl_eq h]
  unfold bys
  rw [nd_ss h, Nm.num_place]
theorem place_nd (T : Nm.St) (t : S) {s : S} (h : Nm.place (four s) T.ss ≠ 0) : Nm.place (four s) (nd T t).ss = Nm.place (four s) T.ss := by
  by_cases h0 : ers t = 0
  · rw [nd_ss h0]; exact Nm.place_put h
  · rw [nd_no h0]
theorem bys_nd (T : Nm.St) (t : S) {s : S} (h : Nm.place (four s) T.ss ≠ 0) : bys (nd T t) s = bys T s := by unfold bys; rw [place_nd T t h]
theorem place_self (T : Nm.St) {s : S} (h : ers s = 0) : Nm.place (four s) (nd T s).ss ≠ 0 := by rw [nd_ss h]; exact Nm.put_self
theorem nd_le (T : Nm.St) (s : S) : (nd T s).ss.length ≤ T.ss.length + 1 := by
  by_cases h0 : ers s = 0
  · rw [nd_ss h0]; exact Nm.put_len
  · rw [nd_no h0]; omega
theorem four_inj {s t : S} (hs : ers s = 0) (ht : ers t = 0) (h : four s = four t) : s = t := by
  obtain ⟨k, e, n, a, L⟩ := s
  obtain ⟨k', e', n', a', L'⟩ := t
  unfold four at h
  simp only [Prod.mk.injEq] at h
  obtain ⟨rfl, rfl, h3, rfl⟩ := h
  obtain ⟨rfl, rfl⟩ := mk_inj (a64 hs) (a64 ht) h3
  rfl
theorem bys_inj {T : Nm.St} {s t : S} (hs : ers s = 0) (ht : ers t = 0) (hp : Nm.place (four s) T.ss ≠ 0) (hl : T.ss.length ≤ 100000) (h : bys T s = bys T t) : s = t := by
  have h4 := inP_iff.1 (ers_parts hs).2.1
  have h5 := inP_iff.1 (ers_parts ht).2.1
  have hlen : s.L.length = t.L.length := by have := congrArg List.length h; rw [bys_len, bys_len] at this; omega
  unfold bys at h
  obtain ⟨h1, h2⟩ := List.append_inj h (by rw [fr_len, fr_len])
  obtain ⟨h6, h7⟩ := List.append_inj h2 hlen
  have hpl := Nm.tg_inj 0 _ _ (by have := Nm.place_le (x := four s) (l := T.ss); omega) (by have := Nm.place_le (x := four t) (l := T.ss); omega) h7
  exact four_inj hs ht (Nm.place_inj (by omega) hp)
theorem unlike (s t : S) (hs : ers s = 0) (ht : ers t = 0) : (pt (nsl Nm.St.none) s).2 = (pt (nsl (nd Nm.St.none s)) t).2 ↔ s = t := by
  have p1 := place_self Nm.St.none hs
  rw [put_bys _ hs, put_bys _ ht, ← bys_nd _ t p1]
  have hl : (nd (nd Nm.St.none s) t).ss.length ≤ 100000 := by have h1 := nd_le (nd Nm.St.none s) t; have h2 := nd_le Nm.St.none s; have h3 : Nm.St.none.ss.length = 0 := rfl; omega
  constructor
  · intro h
    exact bys_inj hs ht (by rw [place_nd _ _ p1]; exact p1) hl h
  · rintro rfl
    rfl
end Sc
end
end Go.Proofs.Ytpfghjnhoafcmaa
