/-
  A key's words, byte by byte, as the reference makes them: they are the program's.
-/
import Derived.Test.YtkajigfdfbgphaaTurE
import Derived.Test.YtkajigfdfbgphaaAesD
namespace Go.Proofs.Ytkajigfdfbgphaa
namespace Aes
structure Q4 where
  a : Nat
  b : Nat
  c : Nat
  d : Nat
structure Q4.Ok (q : Q4) : Prop where
  a : q.a < 256
  b : q.b < 256
  c : q.c < 256
  d : q.d < 256
def qi (q : Q4) : List Int := [(q.a : Int), (q.b : Int), (q.c : Int), (q.d : Int)]
def qw (q : Q4) : Int := ((w4 q.a q.b q.c q.d : Nat) : Int)
def qx (p q : Q4) : Q4 := ⟨p.a ^^^ q.a, p.b ^^^ q.b, p.c ^^^ q.c, p.d ^^^ q.d⟩
def qs (t : Q4) : Q4 := ⟨tn t.a, tn t.b, tn t.c, tn t.d⟩
def qr (t : Q4) (r : Nat) : Q4 := ⟨tn t.b ^^^ r, tn t.c, tn t.d, tn t.a⟩
def qt (n i : Nat) (t : Q4) (r : Nat) : Q4 := if i % n = 0 then qr t r else if n = 8 ∧ i % 8 = 4 then qs t else t
def q0 : Q4 := ⟨0, 0, 0, 0⟩
def fq (K : List Int) (k : Nat) : List Q4 := (List.range k).map fun i => ⟨(K.getD (4 * i) 0).toNat, (K.getD (4 * i + 1) 0).toNat, (K.getD (4 * i + 2) 0).toNat, (K.getD (4 * i + 3) 0).toNat⟩
structure Ky where
  l : List Q4
  r : Nat
def ky (K : List Int) (n : Nat) : Nat → Ky
  | 0 => ⟨fq K n, 1⟩
  | j + 1 => ⟨(ky K n j).l ++ [qx ((ky K n j).l.getD j q0) (qt n (n + j) ((ky K n j).l.getD (n + j - 1) q0) (ky K n j).r)], if (n + j) % n = 0 then tb (ky K n j).r else (ky K n j).r⟩
theorem fq_len (K : List Int) (k : Nat) : (fq K k).length = k := by simp [fq]
theorem fq_zero (K : List Int) : fq K 0 = [] := rfl
theorem fq_succ (K : List Int) (k : Nat) : fq K (k + 1) = fq K k ++ [⟨(K.getD (4 * k) 0).toNat, (K.getD (4 * k + 1) 0).toNat, (K.getD (4 * k + 2) 0).toNat, (K.getD (4 * k + 3) 0).toNat⟩] := by simp [fq, List.range_succ]
theorem ky_len (K : List Int) (n j : Nat) : (ky K n j).l.length = n + j := by
  induction j with
  | zero => simp [ky, fq_len]
  | succ j ih => simp [ky, ih]; omega
theorem ky_zero (K : List Int) (n : Nat) : ky K n 0 = ⟨fq K n, 1⟩ := rfl
theorem ky_succ_l (K : List Int) (n j : Nat) : (ky K n (j + 1)).l = (ky K n j).l ++ [qx ((ky K n j).l.getD j q0) (qt n (n + j) ((ky K n j).l.getD (n + j - 1) q0) (ky K n j).r)] := rfl
theorem ky_succ_r (K : List Int) (n j : Nat) : (ky K n (j + 1)).r = if (n + j) % n = 0 then tb (ky K n j).r else (ky K n j).r := rfl
theorem q0_ok : q0.Ok := ⟨by decide, by decide, by decide, by decide⟩
theorem qx_ok {p q : Q4} (hp : p.Ok) (hq : q.Ok) : (qx p q).Ok := ⟨x8 hp.a hq.a, x8 hp.b hq.b, x8 hp.c hq.c, x8 hp.d hq.d⟩
theorem qs_ok (t : Q4) : (qs t).Ok := ⟨tn_lt _, tn_lt _, tn_lt _, tn_lt _⟩
theorem qr_ok (t : Q4) {r : Nat} (hr : r < 256) : (qr t r).Ok := ⟨x8 (tn_lt _) hr, tn_lt _, tn_lt _, tn_lt _⟩
theorem qt_ok (n i : Nat) {t : Q4} {r : Nat} (ht : t.Ok) (hr : r < 256) : (qt n i t r).Ok := by
  unfold qt
  split
  · exact qr_ok t hr
  · split
    · exact qs_ok t
    · exact ht
theorem ok_getD {l : List Q4} (h : ∀ q ∈ l, q.Ok) (i : Nat) : (l.getD i q0).Ok := by
  by_cases hi : i < l.length
  · rw [List.getD_eq_getElem?_getD, List.getElem?_eq_getElem hi]; exact h _ (List.getElem_mem hi)
  · rw [List.getD_eq_getElem?_getD, List.getElem?_eq_none (by omega)]; exact q0_ok
theorem fq_ok (K : List Int) (hK : Sha.Byt K) (k : Nat) : ∀ q ∈ fq K k, q.Ok := fun q hq => by
  unfold fq at hq
  rw [List.mem_map] at hq
  obtain ⟨i, _, rfl⟩ := hq
  have h := fun j => Sha.byt_getD hK j
  exact ⟨by have := h (4 * i); show (K.getD _ 0).toNat < 256; omega, by have := h (4 * i + 1); show (K.getD _ 0).toNat < 256; omega, by have := h (4 * i + 2); show (K.getD _ 0).toNat < 256; omega, by have := h (4 * i + 3); show (K.getD _ 0).toNat < 256; omega⟩
theorem ky_ok (K : List Int) (hK : Sha.Byt K) (n j : Nat) : (∀ q ∈ (ky K n j).l, q.Ok) ∧ (ky K n j).r < 256 := by
  induction j with
  | zero => exact ⟨fq_ok K hK n, by show (1 : Nat) < 256; omega⟩
  | succ j ih =>
    rw [ky_succ_l, ky_succ_r]
    refine ⟨fun q hq => ?_, ?_⟩
    · rw [List.mem_append] at hq
      rcases hq with h | h
      · exact ih.1 q h
      · simp only [List.mem_singleton] at h
        rw [h]
        exact qx_ok (ok_getD ih.1 _) (qt_ok _ _ (ok_getD ih.1 _) ih.2)
    · split
      · exact tb_lt _ ih.2
      · exact ih.2
theorem pr_tb : ∀ x, x < 256 → pr (x : Nat) 2 = ((tb x : Nat) : Int) := by decide +kernel
theorem qw_xor (p q : Q4) (hp : p.Ok) (hq : q.Ok) : bits .xor .u32 (qw p) (qw q) = qw (qx p q) := by
  unfold qw qx
  rw [xor_u32 _ _ (w4_lt _ _ _ _ hp.a hp.b hp.c hp.d) (w4_lt _ _ _ _ hq.a hq.b hq.c hq.d), w4_xor _ _ _ _ _ _ _ _ hp.a hp.b hp.c hp.d hq.a hq.b hq.c hq.d]
theorem qw_col (t : Q4) (ht : t.Ok) : col TB (qw t) (qw t) (qw t) (qw t) = qw (qs t) := by
  unfold qw qs
  exact col_w4 t.a t.b t.c t.d t.b t.c t.d t.a t.c t.d t.a t.b t.d t.a t.b t.c ht.a ht.b ht.c ht.d ht.b ht.c ht.d ht.a ht.c ht.d ht.a ht.b ht.d ht.a ht.b ht.c
theorem qw_nt (n i : Nat) (t : Q4) (r : Nat) (ht : t.Ok) (hr : r < 256) : nt TB n i (qw t) (r : Int) = qw (qt n i t r) := by
  unfold nt qt
  split
  · have e : rl 8 (qw t) = qw ⟨t.b, t.c, t.d, t.a⟩ := by unfold qw; exact rl8_w4 t.a t.b t.c t.d ht.a ht.b ht.c ht.d
    have h2 : (⟨t.b, t.c, t.d, t.a⟩ : Q4).Ok := ⟨ht.b, ht.c, ht.d, ht.a⟩
    rw [e, qw_col _ h2]
    have e2 : ((r : Int) * 16777216) = qw ⟨r, 0, 0, 0⟩ := by unfold qw w4; dsimp only; omega
    rw [e2, qw_xor _ _ (qs_ok _) ⟨hr, (show (0 : Nat) < 256 by decide), (show (0 : Nat) < 256 by decide), (show (0 : Nat) < 256 by decide)⟩]
    unfold qx qs qr
    simp only [Nat.xor_zero]
  · split
    · exact qw_col t ht
    · rfl
theorem getD_map_qw (l : List Q4) (i : Nat) (h : i < l.length) : (l.map qw).getD i 0 = qw (l.getD i q0) := by
  rw [List.getD_eq_getElem?_getD, List.getElem?_map, List.getElem?_eq_getElem h, List.getD_eq_getElem?_getD, List.getElem?_eq_getElem h]
  rfl
theorem be4_qw (a b c d : Int) (ha : 0 ≤ a ∧ a ≤ 255) (hb : 0 ≤ b ∧ b ≤ 255) (hc : 0 ≤ c ∧ c ≤ 255) (hd : 0 ≤ d ∧ d ≤ 255) : be4 a b c d = qw ⟨a.toNat, b.toNat, c.toNat, d.toNat⟩ := by
  rw [be4_sum a b c d ha hb hc hd]
  unfold qw w4
  dsimp only
  omega
theorem fw_fq (K : List Int) (hK : Sha.Byt K) (k : Nat) : fw K k = (fq K k).map qw := by
  induction k with
  | zero => rw [fw_nil, fq_zero]; rfl
  | succ k ih =>
    rw [fq_succ, List.map_append, ← ih, fw_succ, be4_qw _ _ _ _ (Sha.byt_getD hK _) (Sha.byt_getD hK _) (Sha.byt_getD hK _) (Sha.byt_getD hK _)]
    rfl
theorem kx_ky (K : List Int) (hK : Sha.Byt K) (n : Nat) (hn : 0 < n) (j : Nat) : (kx TB K n j).l = (ky K n j).l.map qw ∧ (kx TB K n j).r = ((ky K n j).r : Int) := by
  induction j with
  | zero => rw [kx_zero, ky_zero]; exact ⟨fw_fq K hK n, rfl⟩
  | succ j ih =>
    have hl := ky_len K n j
    obtain ⟨ok, hr⟩ := ky_ok K hK n j
    rw [kx_succ_l, kx_succ_r, ky_succ_l, ky_succ_r, ih.1, ih.2, List.map_append]
    rw [getD_map_qw _ j (by omega), getD_map_qw _ (n + j - 1) (by omega), qw_nt _ _ _ _ (ok_getD ok _) hr, qw_xor _ _ (ok_getD ok _) (qt_ok _ _ (ok_getD ok _) hr)]
    refine ⟨rfl, ?_⟩
    split
    · exact pr_tb _ hr
    · rfl
/-- One byte of a word; all bytes of a row of words. -/
def qb (q : Q4) (k : Nat) : Nat := if k = 0 then q.a else if k = 1 then q.b else if k = 2 then q.c else q.d
def rb (l : List Q4) (j : Nat) : Nat := qb (l.getD (j / 4) q0) (j % 4)
theorem qb_lt {q : Q4} (h : q.Ok) (k : Nat) : qb q k < 256 := by
  unfold qb
  split
  · exact h.a
  · split
    · exact h.b
    · split
      · exact h.c
      · exact h.d
theorem qi_get (q : Q4) (j : Nat) (hj : j < 4) : (qi q).getD j 0 = ((qb q j : Nat) : Int) := by
  rcases (by omega : j = 0 ∨ j = 1 ∨ j = 2 ∨ j = 3) with rfl | rfl | rfl | rfl <;> rfl
theorem qi_len (q : Q4) : (qi q).length = 4 := rfl
theorem rb_at (l : List Q4) (i j : Nat) (hj : j < 4) : rb l (4 * i + j) = qb (l.getD i q0) j := by
  unfold rb
  rw [show (4 * i + j) / 4 = i by omega, show (4 * i + j) % 4 = j by omega]
theorem rb_sw (l : List Q4) (i : Nat) : sw (rb l) i = qw (l.getD i q0) := by
  unfold sw qw
  have h0 := rb_at l i 0 (by omega)
  rw [Nat.add_zero] at h0
  rw [h0, rb_at l i 1 (by omega), rb_at l i 2 (by omega), rb_at l i 3 (by omega)]
  rfl
/-- All of a key's words, as the reference has them. -/
def kyl (K : List Int) (m : Nat) : List Q4 := (ky K m (3 * m + 28)).l
theorem kyl_len (K : List Int) (m : Nat) : (kyl K m).length = 4 * (m + 7) := by
  unfold kyl
  rw [ky_len]
  omega
theorem kyl_ok (K : List Int) (hK : Sha.Byt K) (m : Nat) : ∀ q ∈ kyl K m, q.Ok := (ky_ok K hK m _).1
theorem kws_kyl (K : List Int) (hK : Sha.Byt K) (m : Nat) (hm : 0 < m) (hl : K.length = 4 * m) : kws TB K = (kyl K m).map qw := by
  unfold kws kyl
  rw [show K.length / 4 = m by omega]
  exact (kx_ky K hK m hm _).1
theorem kws_sw (K : List Int) (hK : Sha.Byt K) (m : Nat) (hm : 0 < m) (hl : K.length = 4 * m) (k : Nat) (hk : k < 4 * (m + 7)) : (kws TB K).getD k 0 = sw (rb (kyl K m)) k := by
  rw [kws_kyl K hK m hm hl, getD_map_qw _ k (by rw [kyl_len]; exact hk), rb_sw]
theorem rb_lt (K : List Int) (hK : Sha.Byt K) (m j : Nat) : rb (kyl K m) j < 256 := qb_lt (ok_getD (kyl_ok K hK m) _) _
/-- A block as sixteen small numbers; its words; back. -/
def nb (l : List Int) (j : Nat) : Nat := (l.getD j 0).toNat
theorem nb_b (l : List Int) (h : Sha.Byt l) : B16 (nb l) := fun j _ => by
  have := Sha.byt_getD h j
  unfold nb
  omega
theorem toW_st (l : List Int) (h : Sha.Byt l) : toW l = st (nb l) := by
  have e : ∀ o, wk l o = ((w4 (nb l o) (nb l (o + 1)) (nb l (o + 2)) (nb l (o + 3)) : Nat) : Int) := fun o => by
    unfold wk
    rw [be4_sum _ _ _ _ (Sha.byt_getD h _) (Sha.byt_getD h _) (Sha.byt_getD h _) (Sha.byt_getD h _)]
    have a := Sha.byt_getD h o
    have b := Sha.byt_getD h (o + 1)
    have c := Sha.byt_getD h (o + 2)
    have d := Sha.byt_getD h (o + 3)
    unfold w4 nb
    omega
  unfold toW st sw
  rw [e, e, e, e]
theorem ob_w4 (a b c d : Nat) (ha : a < 256) (hb : b < 256) (hc : c < 256) (hd : d < 256) : ob ((w4 a b c d : Nat) : Int) = [(a : Int), (b : Int), (c : Int), (d : Int)] := by
  unfold ob w4
  congr 1
  · omega
  · congr 1
    · omega
    · congr 1
      · omega
      · congr 1
        omega
end Aes
end Go.Proofs.Ytkajigfdfbgphaa
