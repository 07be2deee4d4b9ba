/-
  Unlike blocks become unlike: each step of the cipher can be undone.
-/
import Derived.Test.YtkajigfdfbgphaaAesS
import Derived.Laws.Closers25b
namespace Go.Proofs.Ytkajigfdfbgphaa
open Go.RowKit
namespace Aes
def itb : List Nat := [82, 9, 106, 213, 48, 54, 165, 56, 191, 64, 163, 158, 129, 243, 215, 251, 124, 227, 57, 130, 155, 47, 255, 135, 52, 142, 67, 68, 196, 222, 233, 203, 84, 123, 148, 50, 166, 194, 35, 61, 238, 76, 149, 11, 66, 250, 195, 78, 8, 46, 161, 102, 40, 217, 36, 178, 118, 91, 162, 73, 109, 139, 209, 37, 114, 248, 246, 100, 134, 104, 152, 22, 212, 164, 92, 204, 93, 101, 182, 146, 108, 112, 72, 80, 253, 237, 185, 218, 94, 21, 70, 87, 167, 141, 157, 132, 144, 216, 171, 0, 140, 188, 211, 10, 247, 228, 88, 5, 184, 179, 69, 6, 208, 44, 30, 143, 202, 63, 15, 2, 193, 175, 189, 3, 1, 19, 138, 107, 58, 145, 17, 65, 79, 103, 220, 234, 151, 242, 207, 206, 240, 180, 230, 115, 150, 172, 116, 34, 231, 173, 53, 133, 226, 249, 55, 232, 28, 117, 223, 110, 71, 241, 26, 113, 29, 41, 197, 137, 111, 183, 98, 14, 170, 24, 190, 27, 252, 86, 62, 75, 198, 210, 121, 32, 154, 219, 192, 254, 120, 205, 90, 244, 31, 221, 168, 51, 136, 7, 199, 49, 177, 18, 16, 89, 39, 128, 236, 95, 96, 81, 127, 169, 25, 181, 74, 13, 45, 229, 122, 159, 147, 201, 156, 239, 160, 224, 59, 77, 174, 42, 245, 176, 200, 235, 187, 60, 131, 83, 153, 97, 23, 43, 4, 126, 186, 119, 214, 38, 225, 105, 20, 99, 85, 33, 12, 125]
set_option maxRecDepth 100000 in
theorem itb_all : ((List.range 256).all fun i => itb.getD (TB.getD i 0).toNat 0 == i) = true := by decide +kernel
theorem TB_inj {i j : Nat} (hi : i < 256) (hj : j < 256) (h : TB.getD i 0 = TB.getD j 0) : i = j := by
  have a := List.all_eq_true.1 itb_all i (List.mem_range.2 hi)
  have b := List.all_eq_true.1 itb_all j (List.mem_range.2 hj)
  simp only [beq_iff_eq] at a b
  rw [← a, ← b, h]
theorem TB_at (i : Nat) : 0 ≤ TB.getD i 0 ∧ TB.getD i 0 ≤ 255 := by
  by_cases hi : i < TB.length
  · rw [List.getD_eq_getElem?_getD, List.getElem?_eq_getElem hi]; exact TB_byt _ (List.getElem_mem hi)
  · rw [List.getD_eq_getElem?_getD, List.getElem?_eq_none (by omega)]; simp

def R32 (x : Int) : Prop := 0 ≤ x ∧ x < 4294967296
theorem r32_bits (op : BinOp) (a b : Int) : R32 (bits op .u32 a b) := by
  have h1 := bits_lo_u32 op a b
  have h2 := bits_hi_u32 op a b
  exact ⟨h1, by omega⟩
theorem xor_can {a b k : Int} (ha : R32 a) (hb : R32 b) (h : bits .xor .u32 a k = bits .xor .u32 b k) : a = b := by
  have e : ∀ x : Int, bits .xor .u32 x k = (((BitVec.ofInt 32 x ^^^ BitVec.ofInt 32 k).toNat : Nat) : Int) := fun x => by
    show IntKind.u32.wrap (((BitVec.ofInt 32 x ^^^ BitVec.ofInt 32 k).toNat : Nat) : Int) = _
    have := (BitVec.ofInt 32 x ^^^ BitVec.ofInt 32 k).isLt
    exact wr32 _ (by omega) (by omega)
  rw [e a, e b] at h
  have h1 : BitVec.ofInt 32 a ^^^ BitVec.ofInt 32 k = BitVec.ofInt 32 b ^^^ BitVec.ofInt 32 k := BitVec.eq_of_toNat_eq (by omega)
  have h2 : BitVec.ofInt 32 a = BitVec.ofInt 32 b := by
    have h3 := congrArg (· ^^^ BitVec.ofInt 32 k) h1
    simpa only [BitVec.xor_assoc, BitVec.xor_self, BitVec.xor_zero] using h3
  have h4 := congrArg BitVec.toNat h2
  rw [BitVec.toNat_ofInt, BitVec.toNat_ofInt] at h4
  have p1 := ha.1
  have p2 := ha.2
  have p3 := hb.1
  have p4 := hb.2
  omega
/-- Four bytes joined are their sum. -/
theorem be4_sum (a b c d : Int) (ha : 0 ≤ a ∧ a ≤ 255) (hb : 0 ≤ b ∧ b ≤ 255) (hc : 0 ≤ c ∧ c ≤ 255) (hd : 0 ≤ d ∧ d ≤ 255) : be4 a b c d = a * 16777216 + b * 65536 + c * 256 + d := by
  unfold be4
  rw [bits_join .u32 32 (by decide) wr32 24 (a * 16777216) (b * 65536) (by omega) (by omega) (by omega) (by omega) (by omega) (by omega),
    bits_join .u32 32 (by decide) wr32 16 (a * 16777216 + b * 65536) (c * 256) (by omega) (by omega) (by omega) (by omega) (by omega) (by omega),
    bits_join .u32 32 (by decide) wr32 8 (a * 16777216 + b * 65536 + c * 256) d (by omega) (by omega) (by omega) (by omega) (by omega) (by omega)]
theorem be4_inj {a b c d a' b' c' d' : Int} (ha : 0 ≤ a ∧ a ≤ 255) (hb : 0 ≤ b ∧ b ≤ 255) (hc : 0 ≤ c ∧ c ≤ 255) (hd : 0 ≤ d ∧ d ≤ 255) (ha' : 0 ≤ a' ∧ a' ≤ 255) (hb' : 0 ≤ b' ∧ b' ≤ 255) (hc' : 0 ≤ c' ∧ c' ≤ 255) (hd' : 0 ≤ d' ∧ d' ≤ 255)
    (h : be4 a b c d = be4 a' b' c' d') : a = a' ∧ b = b' ∧ c = c' ∧ d = d' := by
  rw [be4_sum a b c d ha hb hc hd, be4_sum a' b' c' d' ha' hb' hc' hd'] at h
  omega
theorem col_be4 (T : List Int) (a b c d : Int) : col T a b c d = be4 (T.getD (a / 16777216 % 256).toNat 0) (T.getD (b / 65536 % 256).toNat 0) (T.getD (c / 256 % 256).toNat 0) (T.getD (d % 256).toNat 0) := by
  unfold col be4
  rfl
theorem col_inj {a b c d a' b' c' d' : Int} (h : col TB a b c d = col TB a' b' c' d') : a / 16777216 % 256 = a' / 16777216 % 256 ∧ b / 65536 % 256 = b' / 65536 % 256 ∧ c / 256 % 256 = c' / 256 % 256 ∧ d % 256 = d' % 256 := by
  rw [col_be4, col_be4] at h
  obtain ⟨h0, h1, h2, h3⟩ := be4_inj (TB_at _) (TB_at _) (TB_at _) (TB_at _) (TB_at _) (TB_at _) (TB_at _) (TB_at _) h
  have q0 := TB_inj (by omega) (by omega) h0
  have q1 := TB_inj (by omega) (by omega) h1
  have q2 := TB_inj (by omega) (by omega) h2
  have q3 := TB_inj (by omega) (by omega) h3
  omega
structure Ok (s : W) : Prop where
  a : R32 s.a
  b : R32 s.b
  c : R32 s.c
  d : R32 s.d
theorem lay_ok (s : W) (ks : List Int) (k : Nat) : Ok (lay s ks k) := by
  unfold lay
  exact ⟨r32_bits .xor _ _, r32_bits .xor _ _, r32_bits .xor _ _, r32_bits .xor _ _⟩
theorem lay_inj {s t : W} {ks : List Int} {k : Nat} (hs : Ok s) (ht : Ok t) (h : lay s ks k = lay t ks k) : s = t := by
  unfold lay at h
  injection h with h0 h1 h2 h3
  obtain ⟨a, b, c, d⟩ := s
  obtain ⟨a', b', c', d'⟩ := t
  have e0 : a = a' := xor_can hs.a ht.a h0
  have e1 : b = b' := xor_can hs.b ht.b h1
  have e2 : c = c' := xor_can hs.c ht.c h2
  have e3 : d = d' := xor_can hs.d ht.d h3
  rw [e0, e1, e2, e3]
theorem col_r32 (T : List Int) (a b c d : Int) : R32 (col T a b c d) := by unfold col; exact r32_bits _ _ _
theorem mvd_ok (T : List Int) (s : W) : Ok (mvd T s) := ⟨col_r32 _ _ _ _ _, col_r32 _ _ _ _ _, col_r32 _ _ _ _ _, col_r32 _ _ _ _ _⟩
theorem word_eq {a b : Int} (ha : R32 a) (hb : R32 b) (h0 : a / 16777216 % 256 = b / 16777216 % 256) (h1 : a / 65536 % 256 = b / 65536 % 256) (h2 : a / 256 % 256 = b / 256 % 256) (h3 : a % 256 = b % 256) : a = b := by
  have p1 := ha.1
  have p2 := ha.2
  have p3 := hb.1
  have p4 := hb.2
  omega
theorem mvd_inj {s t : W} (hs : Ok s) (ht : Ok t) (h : mvd TB s = mvd TB t) : s = t := by
  unfold mvd at h
  injection h with h0 h1 h2 h3
  obtain ⟨a, b, c, d⟩ := s
  obtain ⟨a', b', c', d'⟩ := t
  obtain ⟨p0, p1, p2, p3⟩ := col_inj h0
  obtain ⟨q0, q1, q2, q3⟩ := col_inj h1
  obtain ⟨r0, r1, r2, r3⟩ := col_inj h2
  obtain ⟨t0, t1, t2, t3⟩ := col_inj h3
  have e0 : a = a' := word_eq hs.a ht.a p0 t1 r2 q3
  have e1 : b = b' := word_eq hs.b ht.b q0 p1 t2 r3
  have e2 : c = c' := word_eq hs.c ht.c r0 q1 p2 t3
  have e3 : d = d' := word_eq hs.d ht.d t0 r1 q2 p3
  rw [e0, e1, e2, e3]

/-! ### The mixing of a word, byte by byte -/
theorem tw_nat (n : Nat) (h : n < 4294967296) : tw (n : Int) = ((twN n : Nat) : Int) := by
  have h1 : n &&& 2139062143 < 2147483648 := Nat.lt_of_le_of_lt Nat.and_le_right (by omega)
  have h2 : n / 128 &&& 16843009 < 16843010 := Nat.lt_of_le_of_lt Nat.and_le_right (by omega)
  have e1 : bits .and .u32 (n : Int) 2139062143 = ((n &&& 2139062143 : Nat) : Int) := and_u32 n 2139062143 h (by omega)
  have e2 : bits .and .u32 ((n : Int) / 128) 16843009 = ((n / 128 &&& 16843009 : Nat) : Int) := by
    have := and_u32 (n / 128) 16843009 (by omega) (by omega)
    rw [← this]
    rfl
  unfold tw twN
  rw [e1, e2]
  generalize n &&& 2139062143 = p at *
  generalize n / 128 &&& 16843009 = q at *
  rw [show ((p : Int) * 2 % 4294967296) = ((p * 2 : Nat) : Int) by omega, show ((q : Int) * 27 % 4294967296) = ((q * 27 : Nat) : Int) by omega]
  exact xor_u32 _ _ (by omega) (by omega)
theorem rl_join (n : Nat) (h : n < 4294967296) (i : Nat) (hi : i = 8 ∨ i = 16 ∨ i = 24) : rl (i : Int) (n : Int) = ((n * 2 ^ i % 4294967296 + n / 2 ^ (32 - i) : Nat) : Int) := by
  unfold rl
  rcases hi with rfl | rfl | rfl
  · show bits .or .u32 ((n : Int) * 2 ^ 8 % 4294967296) ((n : Int) / 2 ^ 24) = _
    rw [bits_join .u32 32 (by decide) wr32 8 _ _ (by omega) (by omega) (by omega) (by omega) (by omega) (by omega)]
    omega
  · show bits .or .u32 ((n : Int) * 2 ^ 16 % 4294967296) ((n : Int) / 2 ^ 16) = _
    rw [bits_join .u32 32 (by decide) wr32 16 _ _ (by omega) (by omega) (by omega) (by omega) (by omega) (by omega)]
    omega
  · show bits .or .u32 ((n : Int) * 2 ^ 24 % 4294967296) ((n : Int) / 2 ^ 8) = _
    rw [bits_join .u32 32 (by decide) wr32 24 _ _ (by omega) (by omega) (by omega) (by omega) (by omega) (by omega)]
    omega
theorem rl8_w4 (a b c d : Nat) (ha : a < 256) (hb : b < 256) (hc : c < 256) (hd : d < 256) : rl 8 ((w4 a b c d : Nat) : Int) = ((w4 b c d a : Nat) : Int) := by
  have h := rl_join (w4 a b c d) (w4_lt a b c d ha hb hc hd) 8 (Or.inl rfl)
  rw [show ((8 : Nat) : Int) = 8 from rfl] at h
  rw [h]
  unfold w4
  omega
theorem rl16_w4 (a b c d : Nat) (ha : a < 256) (hb : b < 256) (hc : c < 256) (hd : d < 256) : rl 16 ((w4 a b c d : Nat) : Int) = ((w4 c d a b : Nat) : Int) := by
  have h := rl_join (w4 a b c d) (w4_lt a b c d ha hb hc hd) 16 (Or.inr (Or.inl rfl))
  rw [show ((16 : Nat) : Int) = 16 from rfl] at h
  rw [h]
  unfold w4
  omega
theorem rl24_w4 (a b c d : Nat) (ha : a < 256) (hb : b < 256) (hc : c < 256) (hd : d < 256) : rl 24 ((w4 a b c d : Nat) : Int) = ((w4 d a b c : Nat) : Int) := by
  have h := rl_join (w4 a b c d) (w4_lt a b c d ha hb hc hd) 24 (Or.inr (Or.inr rfl))
  rw [show ((24 : Nat) : Int) = 24 from rfl] at h
  rw [h]
  unfold w4
  omega
theorem mixw_w4 (a b c d : Nat) (ha : a < 256) (hb : b < 256) (hc : c < 256) (hd : d < 256) : mixw ((w4 a b c d : Nat) : Int) = ((w4 (mb a b c d) (mb b c d a) (mb c d a b) (mb d a b c) : Nat) : Int) := by
  have ta := tb_lt a ha
  have tb' := tb_lt b hb
  have tc := tb_lt c hc
  have td := tb_lt d hd
  have l := w4_lt
  unfold mixw
  rw [tw_nat _ (l a b c d ha hb hc hd), twN_w4 a b c d ha hb hc hd]
  rw [xor_u32 _ _ (l _ _ _ _ ta tb' tc td) (l a b c d ha hb hc hd), w4_xor _ _ _ _ _ _ _ _ ta tb' tc td ha hb hc hd]
  rw [rl8_w4 _ _ _ _ (x8 ta ha) (x8 tb' hb) (x8 tc hc) (x8 td hd), rl16_w4 a b c d ha hb hc hd, rl24_w4 a b c d ha hb hc hd]
  rw [xor_u32 _ _ (l _ _ _ _ ta tb' tc td) (l _ _ _ _ (x8 tb' hb) (x8 tc hc) (x8 td hd) (x8 ta ha)), w4_xor _ _ _ _ _ _ _ _ ta tb' tc td (x8 tb' hb) (x8 tc hc) (x8 td hd) (x8 ta ha)]
  rw [xor_u32 _ _ (l _ _ _ _ (x8 ta (x8 tb' hb)) (x8 tb' (x8 tc hc)) (x8 tc (x8 td hd)) (x8 td (x8 ta ha))) (l c d a b hc hd ha hb), w4_xor _ _ _ _ _ _ _ _ (x8 ta (x8 tb' hb)) (x8 tb' (x8 tc hc)) (x8 tc (x8 td hd)) (x8 td (x8 ta ha)) hc hd ha hb]
  rw [xor_u32 _ _ (l _ _ _ _ (x8 (x8 ta (x8 tb' hb)) hc) (x8 (x8 tb' (x8 tc hc)) hd) (x8 (x8 tc (x8 td hd)) ha) (x8 (x8 td (x8 ta ha)) hb)) (l d a b c hd ha hb hc),
    w4_xor _ _ _ _ _ _ _ _ (x8 (x8 ta (x8 tb' hb)) hc) (x8 (x8 tb' (x8 tc hc)) hd) (x8 (x8 tc (x8 td hd)) ha) (x8 (x8 td (x8 ta ha)) hb) hd ha hb hc]
  rfl
theorem mixw_inj {x y : Int} (hx : R32 x) (hy : R32 y) (h : mixw x = mixw y) : x = y := by
  obtain ⟨n, rfl⟩ := Int.eq_ofNat_of_zero_le hx.1
  obtain ⟨m, rfl⟩ := Int.eq_ofNat_of_zero_le hy.1
  have hn : n < 4294967296 := by have := hx.2; omega
  have hm : m < 4294967296 := by have := hy.2; omega
  have en := w4_of n hn
  have em := w4_of m hm
  have a0 : n / 16777216 < 256 := by omega
  have b0 : m / 16777216 < 256 := by omega
  have bl : ∀ z : Nat, z % 256 < 256 := fun z => Nat.mod_lt _ (by omega)
  rw [en, em] at h
  rw [mixw_w4 _ _ _ _ a0 (bl _) (bl _) (bl _), mixw_w4 _ _ _ _ b0 (bl _) (bl _) (bl _)] at h
  have h' := Int.ofNat.inj h
  obtain ⟨q0, q1, q2, q3⟩ := w4_inj (mb_lt a0 (bl _) (bl _) (bl _)) (mb_lt (bl _) (bl _) (bl _) a0) (mb_lt (bl _) (bl _) a0 (bl _)) (mb_lt (bl _) a0 (bl _) (bl _))
    (mb_lt b0 (bl _) (bl _) (bl _)) (mb_lt (bl _) (bl _) (bl _) b0) (mb_lt (bl _) (bl _) b0 (bl _)) (mb_lt (bl _) b0 (bl _) (bl _)) h'
  obtain ⟨r0, r1, r2, r3⟩ := mb_inj a0 (bl _) (bl _) (bl _) b0 (bl _) (bl _) (bl _) q0 q1 q2 q3
  rw [en, em, r0, r1, r2, r3]
theorem mixw_r32 (x : Int) : R32 (mixw x) := by unfold mixw; exact r32_bits _ _ _
theorem mxd_ok (s : W) : Ok (mxd s) := ⟨mixw_r32 _, mixw_r32 _, mixw_r32 _, mixw_r32 _⟩
theorem mxd_inj {s t : W} (hs : Ok s) (ht : Ok t) (h : mxd s = mxd t) : s = t := by
  unfold mxd at h
  injection h with h0 h1 h2 h3
  obtain ⟨a, b, c, d⟩ := s
  obtain ⟨a', b', c', d'⟩ := t
  have e0 : a = a' := mixw_inj hs.a ht.a h0
  have e1 : b = b' := mixw_inj hs.b ht.b h1
  have e2 : c = c' := mixw_inj hs.c ht.c h2
  have e3 : d = d' := mixw_inj hs.d ht.d h3
  rw [e0, e1, e2, e3]
theorem rounds_ok (T ks : List Int) (s : W) (k : Nat) : Ok (rounds T ks s k) := by
  cases k with
  | zero => rw [rounds_zero]; exact lay_ok _ _ _
  | succ k => rw [rounds_succ]; exact lay_ok _ _ _
theorem rounds_inj {ks : List Int} {s t : W} (hs : Ok s) (ht : Ok t) : ∀ k, rounds TB ks s k = rounds TB ks t k → s = t
  | 0, h => by rw [rounds_zero, rounds_zero] at h; exact lay_inj hs ht h
  | k + 1, h => by
    rw [rounds_succ, rounds_succ] at h
    exact rounds_inj hs ht k (mvd_inj (rounds_ok _ _ _ _) (rounds_ok _ _ _ _) (mxd_inj (mvd_ok _ _) (mvd_ok _ _) (lay_inj (mxd_ok _) (mxd_ok _) h)))
theorem be4_r32 (a b c d : Int) : R32 (be4 a b c d) := by unfold be4; exact r32_bits _ _ _
theorem toW_ok (l : List Int) : Ok (toW l) := ⟨be4_r32 _ _ _ _, be4_r32 _ _ _ _, be4_r32 _ _ _ _, be4_r32 _ _ _ _⟩
theorem toW_inj {l m : List Int} (hl : l.length = 16) (hm : m.length = 16) (hlb : Sha.Byt l) (hmb : Sha.Byt m) (h : toW l = toW m) : l = m := by
  have p := fun j => Sha.byt_getD hlb j
  have q := fun j => Sha.byt_getD hmb j
  unfold toW wk at h
  injection h with h0 h1 h2 h3
  obtain ⟨a0, a1, a2, a3⟩ := be4_inj (p _) (p _) (p _) (p _) (q _) (q _) (q _) (q _) h0
  obtain ⟨a4, a5, a6, a7⟩ := be4_inj (p _) (p _) (p _) (p _) (q _) (q _) (q _) (q _) h1
  obtain ⟨a8, a9, a10, a11⟩ := be4_inj (p _) (p _) (p _) (p _) (q _) (q _) (q _) (q _) h2
  obtain ⟨a12, a13, a14, a15⟩ := be4_inj (p _) (p _) (p _) (p _) (q _) (q _) (q _) (q _) h3
  apply List.ext_getElem (by omega)
  intro i h1 h2
  have hi : i < 16 := by omega
  have e : l.getD i 0 = m.getD i 0 := by
    rcases (by omega : i = 0 ∨ i = 1 ∨ i = 2 ∨ i = 3 ∨ i = 4 ∨ i = 5 ∨ i = 6 ∨ i = 7 ∨ i = 8 ∨ i = 9 ∨ i = 10 ∨ i = 11 ∨ i = 12 ∨ i = 13 ∨ i = 14 ∨ i = 15) with rfl | rfl | rfl | rfl | rfl | rfl | rfl | rfl | rfl | rfl | rfl | rfl | rfl | rfl | rfl | rfl <;> assumption
  simpa [List.getD_eq_getElem?_getD, h1, h2] using e
theorem blk4_list (a b c d : Int) : blk4 a b c d = ob a ++ ob b ++ ob c ++ ob d := by
  unfold blk4 bk
  rfl
theorem blk4_inj {s t : W} (hs : Ok s) (ht : Ok t) (h : blk4 s.a s.b s.c s.d = blk4 t.a t.b t.c t.d) : s = t := by
  rw [blk4_list, blk4_list] at h
  unfold ob at h
  simp only [List.cons_append, List.nil_append, List.cons.injEq, and_true] at h
  obtain ⟨a0, a1, a2, a3, b0, b1, b2, b3, c0, c1, c2, c3, d0, d1, d2, d3⟩ := h
  obtain ⟨a, b, c, d⟩ := s
  obtain ⟨a', b', c', d'⟩ := t
  have e0 : a = a' := word_eq hs.a ht.a a0 a1 a2 a3
  have e1 : b = b' := word_eq hs.b ht.b b0 b1 b2 b3
  have e2 : c = c' := word_eq hs.c ht.c c0 c1 c2 c3
  have e3 : d = d' := word_eq hs.d ht.d d0 d1 d2 d3
  rw [e0, e1, e2, e3]
/-- Under the words of any keys two blocks are turned into one just if they are one. -/
theorem blk_inj {ks l m : List Int} {N : Nat} (hl : l.length = 16) (hm : m.length = 16) (hlb : Sha.Byt l) (hmb : Sha.Byt m) (h : blk TB ks N l = blk TB ks N m) : l = m := by
  unfold blk at h
  have h1 := blk4_inj (s := last TB ks N (toW l)) (t := last TB ks N (toW m)) (lay_ok _ _ _) (lay_ok _ _ _) h
  unfold last at h1
  exact toW_inj hl hm hlb hmb (rounds_inj (toW_ok _) (toW_ok _) N (mvd_inj (rounds_ok _ _ _ _) (rounds_ok _ _ _ _) (lay_inj (mvd_ok _ _) (mvd_ok _ _) h1)))
end Aes
end Go.Proofs.Ytkajigfdfbgphaa
