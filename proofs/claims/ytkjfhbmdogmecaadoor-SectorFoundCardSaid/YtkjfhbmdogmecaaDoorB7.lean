/-
  AesP, TurE, TurF (merged)
-/
import Derived.Test.YtkjfhbmdogmecaaDoorB3
import Derived.Test.YtkjfhbmdogmecaaDoorB6
import Derived.Laws.Closers25b
namespace Go.Proofs.YtkjfhbmdogmecaaDoor

/-! AesP: Unlike blocks become unlike: each step of the cipher can be undone. -/
section
open Go.RowKit
namespace Aes
def itb : List Nat := [82, 9, 106, 213, 48, 54, 165, 56, 191, 64, 163, 158, 129, 243, 215, 251, 124, 227, 57, 130, 155, 47, 255, 135, 52, 142, 67, 68, 196, 222, 233, 203, 84, 123, 148, 50, 166, 194, 35, 61, 238, 76, 149, 11, 66, 250, 195, 78, 8, 46, 161, 102, 40, 217, 36, 178, 118, 91, 162, 73, 109, 139, 209, 37, 114, 248, 246, 100, 134, 104, 152, 22, 212, 164, 92, 204, 93, 101, 182, 146, 108, 112, 72, 80, 253, 237, 185, 218, 94, 21, 70, 87, 167, 141, 157, 132, 144, 216, 171, 0, 140, 188, 211, 10, 247, 228, 88, 5, 184, 179, 69, 6, 208, 44, 30, 143, 202, 63, 15, 2, 193, 175, 189, 3, 1, 19, 138, 107, 58, 145, 17, 65, 79, 103, 220, 234, 151, 242, 207, 206, 240, 180, 230, 115, 150, 172, 116, 34, 231, 173, 53, 133, 226, 249, 55, 232, 28, 117, 223, 110, 71, 241, 26, 113, 29, 41, 197, 137, 111, 183, 98, 14, 170, 24, 190, 27, 252, 86, 62, 75, 198, 210, 121, 32, 154, 219, 192, 254, 120, 205, 90, 244, 31, 221, 168, 51, 136, 7, 199, 49, 177, 18, 16, 89, 39, 128, 236, 95, 96, 81, 127, 169, 25, 181, 74, 13, 45, 229, 122, 159, 147, 201, 156, 239, 160, 224, 59, 77, 174, 42, 245, 176, 200, 235, 187, 60, 131, 83, 153, 97, 23, 43, 4, 126, 186, 119, 214, 38, 225, 105, 20, 99, 85, 33, 12, 125]
set_option maxRecDepth 100000 in
theorem itb_all : ((List.range 256).all fun i => itb.getD (TB.getD i 0).toNat 0 == i) = true := by decide +kernel
theorem TB_inj {i j : Nat} (hi : i < 256) (hj : j < 256) (h : TB.getD i 0 = TB.getD j 0) : i = j := by
  have a := List.all_eq_true.1 itb_all i (List.mem_range.2 hi)
  have b := List.all_eq_true.1 itb_all j (List.mem_range.2 hj)
  simp only [beq_iff_eq] at a b
  rw [← a, ← b, h]
theorem TB_at (i : Nat) : 0 ≤ TB.getD i 0 ∧ TB.getD i 0 ≤ 255 := by
  by_cases hi : i < TB.length
  · rw [List.getD_eq_getElem?_getD, List.getElem?_eq_getElem hi]; exact TB_byt _ (List.getElem_mem hi)
  · rw [List.getD_eq_getElem?_getD, List.getElem?_eq_none (by omega)]; simp

def R32 (x : Int) : Prop := 0 ≤ x ∧ x < 4294967296
theorem r32_bits (op : BinOp) (a b : Int) : R32 (bits op .u32 a b) := by
  have h1 := bits_lo_u32 op a b
  have h2 := bits_hi_u32 op a b
  exact ⟨h1, by omega⟩
theorem xor_can {a b k : Int} (ha : R32 a) (hb : R32 b) (h : bits .xor .u32 a k = bits .xor .u32 b k) : a = b := by
  have e : ∀ x : Int, bits .xor .u32 x k = (((BitVec.ofInt 32 x ^^^ BitVec.ofInt 32 k).toNat : Nat) : Int) := fun x => by
    show IntKind.u32.wrap (((BitVec.ofInt 32 x ^^^ BitVec.ofInt 32 k).toNat : Nat) : Int) = _
    have := (BitVec.ofInt 32 x ^^^ BitVec.ofInt 32 k).isLt
    exact wr32 _ (by omega) (by omega)
  rw [e a, e b] at h
  have h1 : BitVec.ofInt 32 a ^^^ BitVec.ofInt 32 k = BitVec.ofInt 32 b ^^^ BitVec.ofInt 32 k := BitVec.eq_of_toNat_eq (by omega)
  have h2 : BitVec.ofInt 32 a = BitVec.ofInt 32 b := by
    have h3 := congrArg (· ^^^ BitVec.ofInt 32 k) h1
    simpa only [BitVec.xor_assoc, BitVec.xor_self, BitVec.xor_zero] using h3
  have h4 := congrArg BitVec.toNat h2
  rw [BitVec.toNat_ofInt, BitVec.toNat_ofInt] at h4
  have p1 := ha.1
  have p2 := ha.2
  have p3 := hb.1
  have p4 := hb.2
  omega
/-- Four bytes joined are their sum. -/
theorem be4_sum (a b c d : Int) (ha : 0 ≤ a ∧ a ≤ 255) (hb : 0 ≤ b ∧ b ≤ 255) (hc : 0 ≤ c ∧ c ≤ 255) (hd : 0 ≤ d ∧ d ≤ 255) : be4 a b c d = a * 16777216 + b * 65536 + c * 256 + d := by
  unfold be4
  rw [bits_join .u32 32 (by decide) wr32 24 (a * 16777216) (b * 65536) (by omega) (by omega) (by omega) (by omega) (by omega) (by omega),
    bits_join .u32 32 (by decide) wr32 16 (a * 16777216 + b * 65536) (c * 256) (by omega) (by omega) (by omega) (by omega) (by omega) (by omega),
    bits_join .u32 32 (by decide) wr32 8 (a * 16777216 + b * 65536 + c * 256) d (by omega) (by omega) (by omega) (by omega) (by omega) (by omega)]
theorem be4_inj {a b c d a' b' c' d' : Int} (ha : 0 ≤ a ∧ a ≤ 255) (hb : 0 ≤ b ∧ b ≤ 255) (hc : 0 ≤ c ∧ c ≤ 255) (hd : 0 ≤ d ∧ d ≤ 255) (ha' : 0 ≤ a' ∧ a' ≤ 255) (hb' : 0 ≤ b' ∧ b' ≤ 255) (hc' : 0 ≤ c' ∧ c' ≤ 255) (hd' : 0 ≤ d' ∧ d' ≤ 255)
    (h : be4 a b c d = be4 a' b' c' d') : a = a' ∧ b = b' ∧ c = c' ∧ d = d' := by
  rw [be4_sum a b c d ha hb hc hd, be4_sum a' b' c' d' ha' hb' hc' hd'] at h
  omega
theorem col_be4 (T : List Int) (a b c d : Int) : col T a b c d = be4 (T.getD (a / 16777216 % 256).toNat 0) (T.getD (b / 65536 % 256).toNat 0) (T.getD (c / 256 % 256).toNat 0) (T.getD (d % 256).toNat 0) := by
  unfold col be4
  rfl
theorem col_inj {a b c d a' b' c' d' : Int} (h : col TB a b c d = col TB a' b' c' d') : a / 16777216 % 256 = a' / 16777216 % 256 ∧ b / 65536 % 256 = b' / 65536 % 256 ∧ c / 256 % 256 = c' / 256 % 256 ∧ d % 256 = d' % 256 := by
  rw [col_be4, col_be4] at h
  obtain ⟨h0, h1, h2, h3⟩ := be4_inj (TB_at _) (TB_at _) (TB_at _) (TB_at _) (TB_at _) (TB_at _) (TB_at _) (TB_at _) h
  have q0 := TB_inj (by omega) (by omega) h0
  have q1 := TB_inj (by omega) (by omega) h1
  have q2 := TB_inj (by omega) (by omega) h2
  have q3 := TB_inj (by omega) (by omega) h3
  omega
structure Ok (s : W) : Prop where
  a : R32 s.a
  b : R32 s.b
  c : R32 s.c
  d : R32 s.d
theorem lay_ok (s : W) (ks : List Int) (k : Nat) : Ok (lay s ks k) := by
  unfold lay
  exact ⟨r32_bits .xor _ _, r32_bits .xor _ _, r32_bits .xor _ _, r32_bits .xor _ _⟩
theorem lay_inj {s t : W} {ks : List Int} {k : Nat} (hs : Ok s) (ht : Ok t) (h : lay s ks k = lay t ks k) : s = t := by
  unfold lay at h
  injection h with h0 h1 h2 h3
  obtain ⟨a, b, c, d⟩ := s
  obtain ⟨a', b', c', d'⟩ := t
  have e0 : a = a' := xor_can hs.a ht.a h0
  have e1 : b = b' := xor_can hs.b ht.b h1
  have e2 : c = c' := xor_can hs.c ht.c h2
  have e3 : d = d' := xor_can hs.d ht.d h3
  rw [e0, e1, e2, e3]
theorem col_r32 (T : List Int) (a b c d : Int) : R32 (col T a b c d) := by unfold col; exact r32_bits _ _ _
theorem mvd_ok (T : List Int) (s : W) : Ok (mvd T s) := ⟨col_r32 _ _ _ _ _, col_r32 _ _ _ _ _, col_r32 _ _ _ _ _, col_r32 _ _ _ _ _⟩
theorem word_eq {a b : Int} (ha : R32 a) (hb : R32 b) (h0 : a / 16777216 % 256 = b / 16777216 % 256) (h1 : a / 65536 % 256 = b / 65536 % 256) (h2 : a / 256 % 256 = b / 256 % 256) (h3 : a % 256 = b % 256) : a = b := by
  have p1 := ha.1
  have p2 := ha.2
  have p3 := hb.1
  have p4 := hb.2
  omega
theorem mvd_inj {s t : W} (hs : Ok s) (ht : Ok t) (h : mvd TB s = mvd TB t) : s = t := by
  unfold mvd at h
  injection h with h0 h1 h2 h3
  obtain ⟨a, b, c, d⟩ := s
  obtain ⟨a', b', c', d'⟩ := t
  obtain ⟨p0, p1, p2, p3⟩ := col_inj h0
  obtain ⟨q0, q1, q2, q3⟩ := col_inj h1
  obtain ⟨r0, r1, r2, r3⟩ := col_inj h2
  obtain ⟨t0, t1, t2, t3⟩ := col_inj h3
  have e0 : a = a' := word_eq hs.a ht.a p0 t1 r2 q3
  have e1 : b = b' := word_eq hs.b ht.b q0 p1 t2 r3
  have e2 : c = c' := word_eq hs.c ht.c r0 q1 p2 t3
  have e3 : d = d' := word_eq hs.d ht.d t0 r1 q2 p3
  rw [e0, e1, e2, e3]

/-! ### The mixing of a word, byte by byte -/
theorem tw_nat (n : Nat) (h : n < 4294967296) : tw (n : Int) = ((twN n : Nat) : Int) := by
  have h1 : n &&& 2139062143 < 2147483648 := Nat.lt_of_le_of_lt Nat.and_le_right (by omega)
  have h2 : n / 128 &&& 16843009 < 16843010 := Nat.lt_of_le_of_lt Nat.and_le_right (by omega)
  have e1 : bits .and .u32 (n : Int) 2139062143 = ((n &&& 2139062143 : Nat) : Int) := and_u32 n 2139062143 h (by omega)
  have e2 : bits .and .u32 ((n : Int) / 128) 16843009 = ((n / 128 &&& 16843009 : Nat) : Int) := by
    have := and_u32 (n / 128) 16843009 (by omega) (by omega)
    rw [← this]
    rfl
  unfold tw twN
  rw [e1, e2]
  generalize n &&& 2139062143 = p at *
  generalize n / 128 &&& 16843009 = q at *
  rw [show ((p : Int) * 2 % 4294967296) = ((p * 2 : Nat) : Int) by omega, show ((q : Int) * 27 % 4294967296) = ((q * 27 : Nat) : Int) by omega]
  exact xor_u32 _ _ (by omega) (by omega)
theorem rl_join (n : Nat) (h : n < 4294967296) (i : Nat) (hi : i = 8 ∨ i = 16 ∨ i = 24) : rl (i : Int) (n : Int) = ((n * 2 ^ i % 4294967296 + n / 2 ^ (32 - i) : Nat) : Int) := by
  unfold rl
  rcases hi with rfl | rfl | rfl
  · show bits .or .u32 ((n : Int) * 2 ^ 8 % 4294967296) ((n : Int) / 2 ^ 24) = _
    rw [bits_join .u32 32 (by decide) wr32 8 _ _ (by omega) (by omega) (by omega) (by omega) (by omega) (by omega)]
    omega
  · show bits .or .u32 ((n : Int) * 2 ^ 16 % 4294967296) ((n : Int) / 2 ^ 16) = _
    rw [bits_join .u32 32 (by decide) wr32 16 _ _ (by omega) (by omega) (by omega) (by omega) (by omega) (by omega)]
    omega
  · show bits .or .u32 ((n : Int) * 2 ^ 24 % 4294967296) ((n : Int) / 2 ^ 8) = _
    rw [bits_join .u32 32 (by decide) wr32 24 _ _ (by omega) (by omega) (by omega) (by omega) (by omega) (by omega)]
    omega
theorem rl8_w4 (a b c d : Nat) (ha : a < 256) (hb : b < 256) (hc : c < 256) (hd : d < 256) : rl 8 ((w4 a b c d : Nat) : Int) = ((w4 b c d a : Nat) : Int) := by
  have h := rl_join (w4 a b c d) (w4_lt a b c d ha hb hc hd) 8 (Or.inl rfl)
  rw [show ((8 : Nat) : Int) = 8 from rfl] at h
  rw [h]
  unfold w4
  omega
theorem rl16_w4 (a b c d : Nat) (ha : a < 256) (hb : b < 256) (hc : c < 256) (hd : d < 256) : rl 16 ((w4 a b c d : Nat) : Int) = ((w4 c d a b : Nat) : Int) := by
  have h := rl_join (w4 a b c d) (w4_lt a b c d ha hb hc hd) 16 (Or.inr (Or.inl rfl))
  rw [show ((16 : Nat) : Int) = 16 from rfl] at h
  rw [h]
  unfold w4
  omega
theorem rl24_w4 (a b c d : Nat) (ha : a < 256) (hb : b < 256) (hc : c < 256) (hd : d < 256) : rl 24 ((w4 a b c d : Nat) : Int) = ((w4 d a b c : Nat) : Int) := by
  have h := rl_join (w4 a b c d) (w4_lt a b c d ha hb hc hd) 24 (Or.inr (Or.inr rfl))
  rw [show ((24 : Nat) : Int) = 24 from rfl] at h
  rw [h]
  unfold w4
  omega
theorem mixw_w4 (a b c d : Nat) (ha : a < 256) (hb : b < 256) (hc : c < 256) (hd : d < 256) : mixw ((w4 a b c d : Nat) : Int) = ((w4 (mb a b c d) (mb b c d a) (mb c d a b) (mb d a b c) : Nat) : Int) := by
  have ta := tb_lt a ha
  have tb' := tb_lt b hb
  have tc := tb_lt c hc
  have td := tb_lt d hd
  have l := w4_lt
  unfold mixw
  rw [tw_nat _ (l a b c d ha hb hc hd), twN_w4 a b c d ha hb hc hd]
  rw [xor_u32 _ _ (l _ _ _ _ ta tb' tc td) (l a b c d ha hb hc hd), w4_xor _ _ _ _ _ _ _ _ ta tb' tc td ha hb hc hd]
  rw [rl8_w4 _ _ _ _ (x8 ta ha) (x8 tb' hb) (x8 tc hc) (x8 td hd), rl16_w4 a b c d ha hb hc hd, rl24_w4 a b c d ha hb hc hd]
  rw [xor_u32 _ _ (l _ _ _ _ ta tb' tc td) (l _ _ _ _ (x8 tb' hb) (x8 tc hc) (x8 td hd) (x8 ta ha)), w4_xor _ _ _ _ _ _ _ _ ta tb' tc td (x8 tb' hb) (x8 tc hc) (x8 td hd) (x8 ta ha)]
  rw [xor_u32 _ _ (l _ _ _ _ (x8 ta (x8 tb' hb)) (x8 tb' (x8 tc hc)) (x8 tc (x8 td hd)) (x8 td (x8 ta ha))) (l c d a b hc hd ha hb), w4_xor _ _ _ _ _ _ _ _ (x8 ta (x8 tb' hb)) (x8 tb' (x8 tc hc)) (x8 tc (x8 td hd)) (x8 td (x8 ta ha)) hc hd ha hb]
  rw [xor_u32 _ _ (l _ _ _ _ (x8 (x8 ta (x8 tb' hb)) hc) (x8 (x8 tb' (x8 tc hc)) hd) (x8 (x8 tc (x8 td hd)) ha) (x8 (x8 td (x8 ta ha)) hb)) (l d a b c hd ha hb hc),
    w4_xor _ _ _ _ _ _ _ _ (x8 (x8 ta (x8 tb' hb)) hc) (x8 (x8 tb' (x8 tc hc)) hd) (x8 (x8 tc (x8 td hd)) ha) (x8 (x8 td (x8 ta ha)) hb) hd ha hb hc]
  rfl
theorem mixw_inj {x y : Int} (hx : R32 x) (hy : R32 y) (h : mixw x = mixw y) : x = y := by
  obtain ⟨n, rfl⟩ := Int.eq_ofNat_of_zero_le hx.1
  obtain ⟨m, rfl⟩ := Int.eq_ofNat_of_zero_le hy.1
  have hn : n < 4294967296 := by have := hx.2; omega
  have hm : m < 4294967296 := by have := hy.2; omega
  have en := w4_of n hn
  have em := w4_of m hm
  have a0 : n / 16777216 < 256 := by omega
  have b0 : m / 16777216 < 256 := by omega
  have bl : ∀ z : Nat, z % 256 < 256 := fun z => Nat.mod_lt _ (by omega)
  rw [en, em] at h
  rw [mixw_w4 _ _ _ _ a0 (bl _) (bl _) (bl _), mixw_w4 _ _ _ _ b0 (bl _) (bl _) (bl _)] at h
  have h' := Int.ofNat.inj h
  obtain ⟨q0, q1, q2, q3⟩ := w4_inj (mb_lt a0 (bl _) (bl _) (bl _)) (mb_lt (bl _) (bl _) (bl _) a0) (mb_lt (bl _) (bl _) a0 (bl _)) (mb_lt (bl _) a0 (bl _) (bl _))
    (mb_lt b0 (bl _) (bl _) (bl _)) (mb_lt (bl _) (bl _) (bl _) b0) (mb_lt (bl _) (bl _) b0 (bl _)) (mb_lt (bl _) b0 (bl _) (bl _)) h'
  obtain ⟨r0, r1, r2, r3⟩ := mb_inj a0 (bl _) (bl _) (bl _) b0 (bl _) (bl _) (bl _) q0 q1 q2 q3
  rw [en, em, r0, r1, r2, r3]
theorem mixw_r32 (x : Int) : R32 (mixw x) := by unfold mixw; exact r32_bits _ _ _
theorem mxd_ok (s : W) : Ok (mxd s) := ⟨mixw_r32 _, mixw_r32 _, mixw_r32 _, mixw_r32 _⟩
theorem mxd_inj {s t : W} (hs : Ok s) (ht : Ok t) (h : mxd s = mxd t) : s = t := by
  unfold mxd at h
  injection h with h0 h1 h2 h3
  obtain ⟨a, b, c, d⟩ := s
  obtain ⟨a', b', c', d'⟩ := t
  have e0 : a = a' := mixw_inj hs.a ht.a h0
  have e1 : b = b' := mixw_inj hs.b ht.b h1
  have e2 : c = c' := mixw_inj hs.c ht.c h2
  have e3 : d = d' := mixw_inj hs.d ht.d h3
  rw [e0, e1, e2, e3]
theorem rounds_ok (T ks : List Int) (s : W) (k : Nat) : Ok (rounds T ks s k) := by
  cases k with
  | zero => rw [rounds_zero]; exact lay_ok _ _ _
  | succ k => rw [rounds_succ]; exact lay_ok _ _ _
theorem rounds_inj {ks : List Int} {s t : W} (hs : Ok s) (ht : Ok t) : ∀ k, rounds TB ks s k = rounds TB ks t k → s = t
  | 0, h => by rw [rounds_zero, rounds_zero] at h; exact lay_inj hs ht h
  | k + 1, h => by
    rw [rounds_succ, rounds_succ] at h
    exact rounds_inj hs ht k (mvd_inj (rounds_ok _ _ _ _) (rounds_ok _ _ _ _) (mxd_inj (mvd_ok _ _) (mvd_ok _ _) (lay_inj (mxd_ok _) (mxd_ok _) h)))
theorem be4_r32 (a b c d : Int) : R32 (be4 a b c d) := by unfold be4; exact r32_bits _ _ _
theorem toW_ok (l : List Int) : Ok (toW l) := ⟨be4_r32 _ _ _ _, be4_r32 _ _ _ _, be4_r32 _ _ _ _, be4_r32 _ _ _ _⟩
theorem toW_inj {l m : List Int} (hl : l.length = 16) (hm : m.length = 16) (hlb : Sha.Byt l) (hmb : Sha.Byt m) (h : toW l = toW m) : l = m := by
  have p := fun j => Sha.byt_getD hlb j
  have q := fun j => Sha.byt_getD hmb j
  unfold toW wk at h
  injection h with h0 h1 h2 h3
  obtain ⟨a0, a1, a2, a3⟩ := be4_inj (p _) (p _) (p _) (p _) (q _) (q _) (q _) (q _) h0
  obtain ⟨a4, a5, a6, a7⟩ := be4_inj (p _) (p _) (p _) (p _) (q _) (q _) (q _) (q _) h1
  obtain ⟨a8, a9, a10, a11⟩ := be4_inj (p _) (p _) (p _) (p _) (q _) (q _) (q _) (q _) h2
  obtain ⟨a12, a13, a14, a15⟩ := be4_inj (p _) (p _) (p _) (p _) (q _) (q _) (q _) (q _) h3
  apply List.ext_getElem (by omega)
  intro i h1 h2
  have hi : i < 16 := by omega
  have e : l.getD i 0 = m.getD i 0 := by
    rcases (by omega : i = 0 ∨ i = 1 ∨ i = 2 ∨ i = 3 ∨ i = 4 ∨ i = 5 ∨ i = 6 ∨ i = 7 ∨ i = 8 ∨ i = 9 ∨ i = 10 ∨ i = 11 ∨ i = 12 ∨ i = 13 ∨ i = 14 ∨ i = 15) with rfl | rfl | rfl | rfl | rfl | rfl | rfl | rfl | rfl | rfl | rfl | rfl | rfl | rfl | rfl | rfl <;> assumption
  simpa [List.getD_eq_getElem?_getD, h1, h2] using e
theorem blk4_list (a b c d : Int) : blk4 a b c d = ob a ++ ob b ++ ob c ++ ob d := by
  unfold blk4 bk
  rfl
theorem blk4_inj {s t : W} (hs : Ok s) (ht : Ok t) (h : blk4 s.a s.b s.c s.d = blk4 t.a t.b t.c t.d) : s = t := by
  rw [blk4_list, blk4_list] at h
  unfold ob at h
  simp only [List.cons_append, List.nil_append, List.cons.injEq, and_true] at h
  obtain ⟨a0, a1, a2, a3, b0, b1, b2, b3, c0, c1, c2, c3, d0, d1, d2, d3⟩ := h
  obtain ⟨a, b, c, d⟩ := s
  obtain ⟨a', b', c', d'⟩ := t
  have e0 : a = a' := word_eq hs.a ht.a a0 a1 a2 a3
  have e1 : b = b' := word_eq hs.b ht.b b0 b1 b2 b3
  have e2 : c = c' := word_eq hs.c ht.c c0 c1 c2 c3
  have e3 : d = d' := word_eq hs.d ht.d d0 d1 d2 d3
  rw [e0, e1, e2, e3]
/-- Under the words of any keys two blocks are turned into one just if they are one. -/
theorem blk_inj {ks l m : List Int} {N : Nat} (hl : l.length = 16) (hm : m.length = 16) (hlb : Sha.Byt l) (hmb : Sha.Byt m) (h : blk TB ks N l = blk TB ks N m) : l = m := by
  unfold blk at h
  have h1 := blk4_inj (s := last TB ks N (toW l)) (t := last TB ks N (toW m)) (lay_ok _ _ _) (lay_ok _ _ _) h
  unfold last at h1
  exact toW_inj hl hm hlb hmb (rounds_inj (toW_ok _) (toW_ok _) N (mvd_inj (rounds_ok _ _ _ _) (rounds_ok _ _ _ _) (lay_inj (mvd_ok _ _) (mvd_ok _ _) h1)))
end Aes
end

/-! TurE: The reference's rounds, byte by byte, are the program's, word by word. -/
section
namespace Aes
def sw (r : Nat → Nat) (k : Nat) : Int := ((w4 (r (4 * k)) (r (4 * k + 1)) (r (4 * k + 2)) (r (4 * k + 3)) : Nat) : Int)
/-- Sixteen bytes as a state. -/
def st (r : Nat → Nat) : W := ⟨sw r 0, sw r 1, sw r 2, sw r 3⟩
def layR (R : Nat → Nat) (i : Nat) (r : Nat → Nat) : Nat → Nat := fun j => r j ^^^ R (16 * i + j)
def tn (x : Nat) : Nat := (TB.getD x 0).toNat
def mvR (r : Nat → Nat) : Nat → Nat := fun j => tn (r (4 * ((j / 4 + j % 4) % 4) + j % 4))
def mxR (r : Nat → Nat) : Nat → Nat := fun j => mb (r (4 * (j / 4) + j % 4)) (r (4 * (j / 4) + (j % 4 + 1) % 4)) (r (4 * (j / 4) + (j % 4 + 2) % 4)) (r (4 * (j / 4) + (j % 4 + 3) % 4))
def B16 (r : Nat → Nat) : Prop := ∀ j, j < 16 → r j < 256

theorem sw_xor (r s : Nat → Nat) (k m : Nat) (hr : ∀ j, j < 4 → r (4 * k + j) < 256) (hs : ∀ j, j < 4 → s (4 * m + j) < 256) :
    bits .xor .u32 (sw r k) (sw s m) = ((w4 (r (4 * k) ^^^ s (4 * m)) (r (4 * k + 1) ^^^ s (4 * m + 1)) (r (4 * k + 2) ^^^ s (4 * m + 2)) (r (4 * k + 3) ^^^ s (4 * m + 3)) : Nat) : Int) := by
  have r0 := hr 0 (by omega); have r1 := hr 1 (by omega); have r2 := hr 2 (by omega); have r3 := hr 3 (by omega)
  have s0 := hs 0 (by omega); have s1 := hs 1 (by omega); have s2 := hs 2 (by omega); have s3 := hs 3 (by omega)
  rw [Nat.add_zero] at r0 s0
  unfold sw
  rw [xor_u32 _ _ (w4_lt _ _ _ _ r0 r1 r2 r3) (w4_lt _ _ _ _ s0 s1 s2 s3), w4_xor _ _ _ _ _ _ _ _ r0 r1 r2 r3 s0 s1 s2 s3]
theorem lay_st (R r : Nat → Nat) (ks : List Int) (i : Nat) (hr : B16 r) (hR : ∀ j, j < 16 → R (16 * i + j) < 256) (hk : ∀ k, k < 4 → ks.getD (4 * i + k) 0 = sw R (4 * i + k)) : lay (st r) ks i = st (layR R i r) := by
  have h0 := hk 0 (by omega); have h1 := hk 1 (by omega); have h2 := hk 2 (by omega); have h3 := hk 3 (by omega)
  have key : ∀ k, k < 4 → bits .xor .u32 (sw r k) (sw R (4 * i + k)) = sw (layR R i r) k := fun k hk => by
    rw [sw_xor r R k (4 * i + k) (fun j hj => hr _ (by omega)) (fun j hj => by rw [show 4 * (4 * i + k) + j = 16 * i + (4 * k + j) by omega]; exact hR _ (by omega))]
    unfold sw layR
    rw [show 16 * i + 4 * k = 4 * (4 * i + k) by omega, show 16 * i + (4 * k + 1) = 4 * (4 * i + k) + 1 by omega, show 16 * i + (4 * k + 2) = 4 * (4 * i + k) + 2 by omega, show 16 * i + (4 * k + 3) = 4 * (4 * i + k) + 3 by omega]
  rw [Nat.add_zero] at h0
  have k0 := key 0 (by omega); have k1 := key 1 (by omega); have k2 := key 2 (by omega); have k3 := key 3 (by omega)
  rw [Nat.add_zero] at k0
  unfold lay st
  simp only [h0, h1, h2, h3, k0, k1, k2, k3]
theorem tn_int (x : Nat) : ((tn x : Nat) : Int) = TB.getD x 0 := Int.toNat_of_nonneg (TB_at x).1
theorem tn_lt (x : Nat) : tn x < 256 := by
  have h := (TB_at x).2
  rw [← tn_int x] at h
  generalize tn x = y at *
  omega
attribute [irreducible] tn
theorem to0 (w : Nat) (h : w < 4294967296) : ((w : Int) / 16777216 % 256).toNat = w / 16777216 := by omega
theorem to1 (w : Nat) : ((w : Int) / 65536 % 256).toNat = w / 65536 % 256 := by omega
theorem to2 (w : Nat) : ((w : Int) / 256 % 256).toNat = w / 256 % 256 := by omega
theorem to3 (w : Nat) : ((w : Int) % 256).toNat = w % 256 := by omega
theorem col_w4 (a b c d a1 a2 a3 b0 b2 b3 c0 c1 c3 d0 d1 d2 : Nat) (ha : a < 256) (hb : b < 256) (hc : c < 256) (hd : d < 256) (ha1 : a1 < 256) (ha2 : a2 < 256) (ha3 : a3 < 256) (hb0 : b0 < 256) (hb2 : b2 < 256) (hb3 : b3 < 256) (hc0 : c0 < 256) (hc1 : c1 < 256) (hc3 : c3 < 256) (hd0 : d0 < 256) (hd1 : d1 < 256) (hd2 : d2 < 256) :
    col TB ((w4 a a1 a2 a3 : Nat) : Int) ((w4 b0 b b2 b3 : Nat) : Int) ((w4 c0 c1 c c3 : Nat) : Int) ((w4 d0 d1 d2 d : Nat) : Int) = ((w4 (tn a) (tn b) (tn c) (tn d) : Nat) : Int) := by
  rw [col_be4]
  have e0 := (to0 _ (w4_lt a a1 a2 a3 ha ha1 ha2 ha3)).trans (w4_0 a a1 a2 a3 ha ha1 ha2 ha3)
  have e1 := (to1 (w4 b0 b b2 b3)).trans (w4_1 b0 b b2 b3 hb0 hb hb2 hb3)
  have e2 := (to2 (w4 c0 c1 c c3)).trans (w4_2 c0 c1 c c3 hc0 hc1 hc hc3)
  have e3 := (to3 (w4 d0 d1 d2 d)).trans (w4_3 d0 d1 d2 d hd0 hd1 hd2 hd)
  rw [e0, e1, e2, e3, be4_sum _ _ _ _ (TB_at _) (TB_at _) (TB_at _) (TB_at _), ← tn_int a, ← tn_int b, ← tn_int c, ← tn_int d]
  clear e0 e1 e2 e3
  generalize tn a = ta
  generalize tn b = tb'
  generalize tn c = tc
  generalize tn d = td
  unfold w4
  omega
theorem mvd_st (r : Nat → Nat) (hr : B16 r) : mvd TB (st r) = st (mvR r) := by
  have h : ∀ j, j < 16 → r j < 256 := hr
  unfold mvd st sw
  simp only [Nat.mul_zero, Nat.zero_add, Nat.reduceMul, Nat.reduceAdd]
  rw [col_w4 (r 0) (r 5) (r 10) (r 15) _ _ _ _ _ _ _ _ _ _ _ _ (h _ (by omega)) (h _ (by omega)) (h _ (by omega)) (h _ (by omega)) (h _ (by omega)) (h _ (by omega)) (h _ (by omega)) (h _ (by omega)) (h _ (by omega)) (h _ (by omega)) (h _ (by omega)) (h _ (by omega)) (h _ (by omega)) (h _ (by omega)) (h _ (by omega)) (h _ (by omega)),
    col_w4 (r 4) (r 9) (r 14) (r 3) _ _ _ _ _ _ _ _ _ _ _ _ (h _ (by omega)) (h _ (by omega)) (h _ (by omega)) (h _ (by omega)) (h _ (by omega)) (h _ (by omega)) (h _ (by omega)) (h _ (by omega)) (h _ (by omega)) (h _ (by omega)) (h _ (by omega)) (h _ (by omega)) (h _ (by omega)) (h _ (by omega)) (h _ (by omega)) (h _ (by omega)),
    col_w4 (r 8) (r 13) (r 2) (r 7) _ _ _ _ _ _ _ _ _ _ _ _ (h _ (by omega)) (h _ (by omega)) (h _ (by omega)) (h _ (by omega)) (h _ (by omega)) (h _ (by omega)) (h _ (by omega)) (h _ (by omega)) (h _ (by omega)) (h _ (by omega)) (h _ (by omega)) (h _ (by omega)) (h _ (by omega)) (h _ (by omega)) (h _ (by omega)) (h _ (by omega)),
    col_w4 (r 12) (r 1) (r 6) (r 11) _ _ _ _ _ _ _ _ _ _ _ _ (h _ (by omega)) (h _ (by omega)) (h _ (by omega)) (h _ (by omega)) (h _ (by omega)) (h _ (by omega)) (h _ (by omega)) (h _ (by omega)) (h _ (by omega)) (h _ (by omega)) (h _ (by omega)) (h _ (by omega)) (h _ (by omega)) (h _ (by omega)) (h _ (by omega)) (h _ (by omega))]
  rfl
theorem mxd_st (r : Nat → Nat) (hr : B16 r) : mxd (st r) = st (mxR r) := by
  have h : ∀ j, j < 16 → r j < 256 := hr
  unfold mxd st sw
  simp only [Nat.mul_zero, Nat.zero_add, Nat.reduceMul, Nat.reduceAdd]
  rw [mixw_w4 _ _ _ _ (h _ (by omega)) (h _ (by omega)) (h _ (by omega)) (h _ (by omega)), mixw_w4 _ _ _ _ (h _ (by omega)) (h _ (by omega)) (h _ (by omega)) (h _ (by omega)), mixw_w4 _ _ _ _ (h _ (by omega)) (h _ (by omega)) (h _ (by omega)) (h _ (by omega)), mixw_w4 _ _ _ _ (h _ (by omega)) (h _ (by omega)) (h _ (by omega)) (h _ (by omega))]
  rfl
theorem mvR_b (r : Nat → Nat) : B16 (mvR r) := fun _ _ => tn_lt _
theorem mxR_b (r : Nat → Nat) (hr : B16 r) : B16 (mxR r) := fun _ _ => mb_lt (hr _ (by omega)) (hr _ (by omega)) (hr _ (by omega)) (hr _ (by omega))
theorem layR_b (R r : Nat → Nat) (i : Nat) (hr : B16 r) (hR : ∀ j, j < 16 → R (16 * i + j) < 256) : B16 (layR R i r) := fun j hj => x8 (hr j hj) (hR j hj)
/-- The rounds but the last, in bytes; a block, in bytes. -/
def rdR (R r : Nat → Nat) : Nat → Nat → Nat
  | 0 => layR R 0 r
  | k + 1 => layR R (k + 1) (mxR (mvR (rdR R r k)))
def blR (R : Nat → Nat) (N : Nat) (r : Nat → Nat) : Nat → Nat := layR R (N + 1) (mvR (rdR R r N))
theorem rdR_st (R r : Nat → Nat) (ks : List Int) (N : Nat) (hr : B16 r) (hR : ∀ j, j < 16 * (N + 1) → R j < 256) (hk : ∀ k, k < 4 * (N + 1) → ks.getD k 0 = sw R k) : rounds TB ks (st r) N = st (rdR R r N) ∧ B16 (rdR R r N) := by
  induction N with
  | zero =>
    rw [rounds_zero, rdR]
    exact ⟨lay_st R r ks 0 hr (fun j hj => hR _ (by omega)) (fun k h => hk _ (by omega)), layR_b R r 0 hr (fun j hj => hR _ (by omega))⟩
  | succ N ih =>
    obtain ⟨e, b⟩ := ih (fun j hj => hR j (by omega)) (fun k h => hk k (by omega))
    have b2 := mxR_b _ (mvR_b (rdR R r N))
    rw [rounds_succ, e, mvd_st _ b, mxd_st _ (mvR_b _), rdR]
    exact ⟨lay_st R _ ks (N + 1) b2 (fun j hj => hR _ (by omega)) (fun k h => hk _ (by omega)), layR_b R _ (N + 1) b2 (fun j hj => hR _ (by omega))⟩
theorem last_st (R r : Nat → Nat) (ks : List Int) (N : Nat) (hr : B16 r) (hR : ∀ j, j < 16 * (N + 2) → R j < 256) (hk : ∀ k, k < 4 * (N + 2) → ks.getD k 0 = sw R k) : last TB ks N (st r) = st (blR R N r) ∧ B16 (blR R N r) := by
  obtain ⟨e, b⟩ := rdR_st R r ks N hr (fun j hj => hR j (by omega)) (fun k h => hk k (by omega))
  unfold last blR
  rw [e, mvd_st _ b]
  exact ⟨lay_st R _ ks (N + 1) (mvR_b _) (fun j hj => hR _ (by omega)) (fun k h => hk _ (by omega)), layR_b R _ (N + 1) (mvR_b _) (fun j hj => hR _ (by omega))⟩
end Aes
end

/-! TurF: Contract: the reference's Block. -/
section
open Go.RowKit

namespace Aes
/-- The first k numbers of a row. -/
def up (r : Nat → Nat) (k : Nat) : List Int := (List.range k).map fun j => ((r j : Nat) : Int)
theorem up_len (r : Nat → Nat) (k : Nat) : (up r k).length = k := by simp [up]
theorem up_succ (r : Nat → Nat) (k : Nat) : up r (k + 1) = up r k ++ [((r k : Nat) : Int)] := by simp [up, List.range_succ]
theorem up_get (r : Nat → Nat) (k j : Nat) (h : j < k) : (up r k).getD j 0 = ((r j : Nat) : Int) := by
  rw [List.getD_eq_getElem?_getD, List.getElem?_eq_getElem (by rw [up_len]; exact h)]
  simp [up]
theorem up_byt (r : Nat → Nat) (k : Nat) (h : ∀ j, j < k → r j < 256) : Sha.Byt (up r k) := fun x hx => by
  unfold up at hx
  rw [List.mem_map] at hx
  obtain ⟨j, hj, rfl⟩ := hx
  rw [List.mem_range] at hj
  have := h j hj
  omega
theorem up_zero (r : Nat → Nat) : up r 0 = [] := rfl
theorem mxr_up (r : Nat → Nat) : mxr r 4 = up (mxR r) 16 := rfl
attribute [irreducible] up
/-- The state behind k rounds of N + 1. -/
def stR (R r : Nat → Nat) (N k : Nat) : Nat → Nat := if k ≤ N then rdR R r k else blR R N r
end Aes
theorem ovl_up (RL : List Int) (R r : Nat → Nat) (i : Nat) (hr : Aes.B16 r) (hR : ∀ j, j < 16 → RL.getD (16 * i + j) 0 = ((R (16 * i + j) : Nat) : Int) ∧ R (16 * i + j) < 256) (k : Nat) (hk : k ≤ 16) :
    ovl RL (Aes.up r 16) i k = Aes.up (Aes.layR R i r) k := by
  induction k with
  | zero => rw [ovl, Aes.up_zero]
  | succ k ih =>
    rw [ovl, ih (by omega), Aes.up_succ (Aes.layR R i r) k, Aes.up_get r 16 k (by omega), (hR k (by omega)).1, Aes.xor_u8 _ _ (hr k (by omega)) (hR k (by omega)).2]
    rfl
theorem stR_b (R r : Nat → Nat) (N k : Nat) (hr : Aes.B16 r) (hR : ∀ j, j < 16 * (N + 2) → R j < 256) : Aes.B16 (Aes.stR R r N k) := by
  unfold Aes.stR
  split
  · rename_i h
    cases k with
    | zero => rw [Aes.rdR]; exact Aes.layR_b R r 0 hr (fun j hj => hR _ (by omega))
    | succ k => rw [Aes.rdR]; exact Aes.layR_b R _ (k + 1) (Aes.mxR_b _ (Aes.mvR_b _)) (fun j hj => hR _ (by omega))
  · exact Aes.layR_b R _ (N + 1) (Aes.mvR_b _) (fun j hj => hR _ (by omega))
theorem stR_mid (R r : Nat → Nat) (N k : Nat) (h : k + 1 ≤ N) : Aes.stR R r N (k + 1) = Aes.layR R (k + 1) (Aes.mxR (Aes.mvR (Aes.stR R r N k))) := by
  unfold Aes.stR
  rw [if_pos h, if_pos (by omega), Aes.rdR]
theorem stR_end (R r : Nat → Nat) (N : Nat) : Aes.stR R r N (N + 1) = Aes.layR R (N + 1) (Aes.mvR (Aes.stR R r N N)) := by
  unfold Aes.stR
  rw [if_neg (by omega), if_pos (by omega), Aes.blR]

/-- append of bytes that lie somewhere, onto a row of the call's own. -/
theorem append_bs {ops : Array Oper} {rest : List Oper} {a : Act} {w : World} {Q : Exit → Act → World → Prop} {D : Option Tmp} {T : TypeId} {ps : String} {af : Array Edge} (s x : Operand) (ys : List Int) (base : Nat) (v : Value) (n : Nat) (l : List Int) (b o m c : Nat) (hs : a.eval s = v)
    (hx : a.eval x = .slice (some ⟨b, o, none⟩) m c) (hm : ys.length = m) (hc : ∀ j, j < m → w.cell? ⟨b, o + j, none⟩ = some (.int .u8 (ys.getD j 0))) (hown : w.ownsRow base 5 1 v n (U8s l)) (hn : n + m ≤ 1000000000000) (hb : base ≤ w.heap.size)
    (h : ∀ v' w', w'.ownsRow base 5 1 v' (n + m) (U8s (l ++ ys)) → w.grownBy w' v.ownBlock → wpList Tryd.prog ops Q rest (a.put D v') w') :
    wpList Tryd.prog ops Q ({ dst := D, op := .call { callee := .builtin .append, args := #[s, x], argTypes := #[22, 22] }, type := T, pos := ps, after := af, guard := none } :: rest) a w := by
  obtain ⟨i0, hi, hz0, hz1, hz2⟩ := info_parts Tryd.info_u8
  refine wpList_append_own _ rfl s x 22 rfl base 5 i0 (.int .u8 0) 1 1 Tryd.underlying22 hi hz0 hz1 hz2 rfl (by decide) v n (U8s l) hs hown ⟨b, o, none⟩ m c (ys.map (Value.int .u8)) hx (by simp [hm]) ?_ ?_ (by unfold maxLen; omega) (by omega) hb ?_
  · intro j u hj
    have hjl : j < ys.length := by have := (List.getElem?_eq_some_iff.1 hj).1; simpa using this
    rw [Addr.add_mid, hc j (by omega)]
    rw [List.getElem?_map, List.getElem?_eq_getElem hjl] at hj
    rw [List.getD_eq_getElem?_getD, List.getElem?_eq_getElem hjl]
    simpa using hj
  · intro u hu
    rw [List.mem_map] at hu
    obtain ⟨x, _, rfl⟩ := hu
    rfl
  · intro v' w' h1 h2 _
    refine h v' w' ?_ h2
    have e : U8s l ++ ys.map (Value.int .u8) = U8s (l ++ ys) := by unfold U8s; simp
    rw [← e]
    exact h1
theorem own_empty (w : World) (B : Nat) (h : B ≤ w.heap.size) : (w.alloc (.cells #[] 5)).ownsRow B 5 1 (.slice (some ⟨w.heap.size, 0, none⟩) 0 0) 0 (U8s []) := by
  unfold U8s
  exact ⟨rfl, Or.inr ⟨w.heap.size, 0, #[], rfl, h, heap_alloc_new w _, Nat.le_refl _, by unfold maxLen; omega, rfl, rfl⟩⟩

theorem splice_whole (cur cs : List Value) (h : cs.length = cur.length) : splice cur 0 cs = cs := by
  unfold splice
  rw [List.take_zero, List.drop_of_length_le (by omega)]
  simp
theorem cell_alloc_old {w : World} {b j : Nat} {v : Value} (o : Obj) (h : w.cell? ⟨b, j, none⟩ = some v) : (w.alloc o).cell? ⟨b, j, none⟩ = some v :=
  (((Below.refl _ w).alloc (Nat.le_refl _) o).cell (World.block_lt_of_cell? w _ h)).trans h
end

end Go.Proofs.YtkjfhbmdogmecaaDoor
