/-
  What is put is got back, in plain lists: with a box, with names; what names open was sealed.
-/
import Derived.Test.YtkjfhbmdogmecaaDoorScH
namespace Go.Proofs.YtkjfhbmdogmecaaDoor
open Go.RowKit

namespace Sc
theorem e8_inj {n m : Int} (hn : Pk.In64 n) (hm : Pk.In64 m) (h : Pk.e8 n 8 = Pk.e8 m 8) : n = m := by
  rw [← Pk.in8_e8 hn, h, Pk.in8_e8 hm]
theorem mk_inj {k k' n m : Int} (hn : Pk.In64 n) (hm : Pk.In64 m) (h : mk k n = mk k' m) : k = k' ∧ n = m := by
  unfold mk at h
  injection h with h1 h2
  exact ⟨h1, e8_inj hn hm h2⟩
theorem fr_inj {k k' e e' n n' : Int} (he : 0 ≤ e ∧ e ≤ 1099511627776) (he' : 0 ≤ e' ∧ e' ≤ 1099511627776) (hn : 0 ≤ n ∧ n ≤ 1099511627776) (hn' : 0 ≤ n' ∧ n' ≤ 1099511627776) (h : fr k e n = fr k' e' n') : k = k' ∧ e = e' ∧ n = n' := by
  refine ⟨?_, ?_, ?_⟩
  · rw [fr_split, fr_split] at h
    injection h
  · rw [← ep_fr k e n he, h, ep_fr _ _ _ he']
  · rw [← nu_fr k e n hn, h, nu_fr _ _ _ hn']
theorem a64 {s : S} (h : ers s = 0) : Pk.In64 s.a := by
  have := inP_iff.1 (ers_parts h).2.1
  unfold Pk.In64
  omega
/-! a box -/
theorem box_len {K : List Int} {s : S} (h : ers s = 0) : (Seal.sl K s.e s.n (mk s.k s.a) s.L).length = s.L.length + 32 := by
  have h4 := inP_iff.1 (ers_parts h).2.1
  exact Seal.sl_len (inR_of _ h4.1) (inR_of _ h4.2.1) _ _ _
theorem box_back (K : List Int) {s : S} (h : ers s = 0) (hb : Sha.Byt s.L) : gt (Seal.op K) s.k s.a (pt (Seal.sl K) s).2 = (0, s) := by
  have h4 := inP_iff.1 (ers_parts h).2.1
  rw [pt_ok h]
  exact gt_pt h _ _ (box_len h) (Seal.op_sl (inR_of _ h4.1) (inR_of _ h4.2.1) _ _ _ hb)
theorem box_put_len (K : List Int) {s : S} (h : ers s = 0) : (pt (Seal.sl K) s).2.length = 49 + s.L.length := by
  rw [pt_ok h, List.length_append, fr_len, box_len h]
  omega
/-- What is got with a box, put again, is just these bytes. -/
theorem box_only (K : List Int) {k a : Int} {b : List Int} (hb : Sha.Byt b) (h : (gt (Seal.op K) k a b).1 = 0) :
    pt (Seal.sl K) (gt (Seal.op K) k a b).2 = (0, b) ∧ (gt (Seal.op K) k a b).2.k = k ∧ (gt (Seal.op K) k a b).2.a = a := by
  obtain ⟨h0, R, hR, he⟩ := gt_good h
  have hz := ger_zero.1 h0
  rw [he]
  have ho := Seal.sl_op (fun x hx => hb x (List.mem_of_mem_drop hx)) hR
  have hlen := ho.2
  rw [List.length_drop] at hlen
  refine ⟨?_, rfl, rfl⟩
  have hs : ers ⟨k, ep (b.take 17), nu (b.take 17), a, R⟩ = 0 := er_zero.2 ⟨hz.2.1.1, hz.2.2, by show R.length ≤ 975; omega⟩
  rw [pt_ok hs]
  show (0, fr k (ep (b.take 17)) (nu (b.take 17)) ++ Seal.sl K (ep (b.take 17)) (nu (b.take 17)) (mk k a) R) = (0, b)
  rw [ho.1, fr_of hb hz.1.1 k hz.2.1.2 hz.2.1.1, List.take_append_drop]
/-! names -/
theorem nam_put_len (T : Nm.St) {s : S} (h : ers s = 0) : (pt (nsl T) s).2.length = 49 + s.L.length := by
  rw [pt_ok h, List.length_append, fr_len, nsl_len h]
  omega
/-- What is remembered of a sector. -/
def four (s : S) : Nm.Four := (s.e, s.n, mk s.k s.a, s.L)
theorem nsl_eq {T : Nm.St} {s : S} (h : ers s = 0) : nsl T s.e s.n (mk s.k s.a) s.L = s.L ++ Nm.tg 0 (Nm.num (four s) T.ss) := by
  unfold nsl Nm.sl
  rw [if_pos (may_of h)]
  rfl
theorem nd_ss {T : Nm.St} {s : S} (h : ers s = 0) : (nd T s).ss = Nm.put (four s) T.ss := by
  rw [nd_ok h]
  unfold Nm.sld
  rw [if_pos (may_of h)]
  rfl
theorem opn_some {T : Nm.St} {e n : Int} {h x R : List Int} (ho : Nm.opn T e n h x = some R) : Nm.place (e, n, h, R) T.ss ≠ 0 ∧ x = R ++ Nm.tg 0 (Nm.place (e, n, h, R) T.ss) := by
  unfold Nm.opn at ho
  by_cases h0 : x.length < 32
  · rw [if_pos h0] at ho; cases ho
  · rw [if_neg h0] at ho
    by_cases h1 : Nm.place (e, n, h, x.take (x.length - 32)) T.ss ≠ 0 ∧ x.drop (x.length - 32) = Nm.tg 0 (Nm.place (e, n, h, x.take (x.length - 32)) T.ss)
    · rw [if_pos h1] at ho
      cases ho
      refine ⟨h1.1, ?_⟩
      rw [← h1.2, List.take_append_drop]
    · rw [if_neg h1] at ho; cases ho
theorem opn_of {T : Nm.St} {e n : Int} {h R : List Int} (hp : Nm.place (e, n, h, R) T.ss ≠ 0) : Nm.opn T e n h (R ++ Nm.tg 0 (Nm.place (e, n, h, R) T.ss)) = some R := by
  unfold Nm.opn
  have hl : (R ++ Nm.tg 0 (Nm.place (e, n, h, R) T.ss)).length = R.length + 32 := by rw [List.length_append, Nm.tg_len]
  rw [if_neg (by omega), hl, Nat.add_sub_cancel]
  have h1 : (R ++ Nm.tg 0 (Nm.place (e, n, h, R) T.ss)).take R.length = R := by simp
  have h2 : (R ++ Nm.tg 0 (Nm.place (e, n, h, R) T.ss)).drop R.length = Nm.tg 0 (Nm.place (e, n, h, R) T.ss) := by simp
  rw [h1, h2, if_pos ⟨hp, rfl⟩]
theorem nam_back_in (T T' : Nm.St) {s : S} (h : ers s = 0) (hp : Nm.place (four s) T'.ss = Nm.num (four s) T.ss) : gt (Nm.opn T') s.k s.a (pt (nsl T) s).2 = (0, s) := by
  rw [pt_ok h]
  refine gt_pt h _ _ (nsl_len h) ?_
  rw [nsl_eq h, ← hp]
  exact opn_of (by show Nm.place (four s) T'.ss ≠ 0; rw [hp]; have := Nm.num_pos (x := four s) (l := T.ss); omega)
theorem nam_back (T : Nm.St) {s : S} (h : ers s = 0) : gt (Nm.opn (nd T s)) s.k s.a (pt (nsl T) s).2 = (0, s) := nam_back_in T _ h (by rw [nd_ss h, Nm.num_place])
/-! the chapter's example -/
def s0 : S := ⟨4, 1, 2, 3, Seal.plainL⟩
theorem ers0 : ers s0 = 0 := er_zero.2 ⟨isK_iff.2 (by decide), inP_iff.2 (by decide), by decide⟩
/-- At another place it isn't opened. -/
theorem nam_else (T : Nm.St) (hT : T.ss = []) : (gt (Nm.opn (nd T s0)) 4 4 (pt (nsl T) s0).2) = (19, S.zero) := by
  have hss : (nd T s0).ss = [four s0] := by rw [nd_ss ers0, hT]; rfl
  have h4 := inP_iff.1 (ers_parts ers0).2.1
  have hg : ger 4 4 (pt (nsl T) s0).2 = 0 := by
    refine ger_zero.2 ⟨?_, ⟨isK_iff.2 (by decide), ?_⟩, ?_⟩
    · rw [nam_put_len T ers0]; exact ⟨by decide, by decide⟩
    · rw [pt_ok ers0]; exact kd_fr _ _ _ (isK_iff.2 (by decide)) _
    · rw [pt_ok ers0, take_fr, ep_fr _ _ _ h4.1, nu_fr _ _ _ h4.2.1]
      exact inP_iff.2 (by decide)
  refine gt_none hg ?_
  cases q : Nm.opn (nd T s0) (ep ((pt (nsl T) s0).2.take 17)) (nu ((pt (nsl T) s0).2.take 17)) (mk 4 4) ((pt (nsl T) s0).2.drop 17) with
  | none => rfl
  | some R =>
    exfalso
    have h1 := (opn_some q).1
    apply h1
    rw [Nm.place_zero, hss]
    intro hm
    have h2 : mk 4 4 = mk 4 3 := congrArg (fun z : Nm.Four => z.2.2.1) (List.mem_singleton.1 hm)
    have h3 := (mk_inj (in64_of 4 (by omega)) (in64_of 3 (by omega)) h2).2
    omega
end Sc
end Go.Proofs.YtkjfhbmdogmecaaDoor
