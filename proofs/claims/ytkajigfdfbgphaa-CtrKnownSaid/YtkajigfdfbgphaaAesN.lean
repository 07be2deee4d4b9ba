/-
  AES in plain numbers: words of four bytes, doubling, the mixing of a column, and that it can be undone.
-/
import Derived.WalkKit
namespace Go.Proofs.Ytkajigfdfbgphaa
open Go.RowKit
namespace Aes

theorem xorN (k : IntKind) (j : Nat) (hj : j ≤ k.bits) (hk : ∀ n : Int, 0 ≤ n → n < 2 ^ j → k.wrap n = n) (a b : Nat) (ha : a < 2 ^ j) (hb : b < 2 ^ j) : bits .xor k a b = ((a ^^^ b : Nat) : Int) := by
  have hp : 2 ^ j ≤ 2 ^ k.bits := Nat.pow_le_pow_right (by decide) hj
  have ha' : a % 2 ^ k.bits = a := Nat.mod_eq_of_lt (Nat.lt_of_lt_of_le ha hp)
  have hb' : b % 2 ^ k.bits = b := Nat.mod_eq_of_lt (Nat.lt_of_lt_of_le hb hp)
  have cast : ∀ n : Nat, n < 2 ^ j → ((n : Nat) : Int) < 2 ^ j := fun n h => by exact_mod_cast h
  simp only [bits, BitVec.ofInt_natCast, BitVec.toNat_xor, BitVec.toNat_ofNat, ha', hb']
  exact hk _ (Int.natCast_nonneg _) (cast _ (Nat.xor_lt_two_pow ha hb))
theorem xor_u8 (a b : Nat) (ha : a < 256) (hb : b < 256) : bits .xor .u8 (a : Int) (b : Int) = ((a ^^^ b : Nat) : Int) :=
  xorN .u8 8 (by decide) (fun n h0 h1 => by rw [IntKind.wrap_u8]; omega) a b ha hb
theorem wr32 (n : Int) (h0 : 0 ≤ n) (h1 : n < 2 ^ 32) : IntKind.u32.wrap n = n := by rw [IntKind.wrap_u32]; omega
theorem xor_u32 (a b : Nat) (ha : a < 4294967296) (hb : b < 4294967296) : bits .xor .u32 (a : Int) (b : Int) = ((a ^^^ b : Nat) : Int) :=
  xorN .u32 32 (by decide) wr32 a b ha hb
theorem and_u32 (a b : Nat) (ha : a < 4294967296) (hb : b < 4294967296) : bits .and .u32 (a : Int) (b : Int) = ((a &&& b : Nat) : Int) :=
  (bits_nat .u32 32 (by decide) wr32 a b ha hb).1
theorem and_u8 (a b : Nat) (ha : a < 256) (hb : b < 256) : bits .and .u8 (a : Int) (b : Int) = ((a &&& b : Nat) : Int) :=
  (bits_nat .u8 8 (by decide) (fun n h0 h1 => by rw [IntKind.wrap_u8]; omega) a b ha hb).1

/-- Four bytes as a word. -/
def w4 (a b c d : Nat) : Nat := a * 16777216 + b * 65536 + c * 256 + d
theorem w4_of (w : Nat) (_h : w < 4294967296) : w = w4 (w / 16777216) (w / 65536 % 256) (w / 256 % 256) (w % 256) := by unfold w4; omega
theorem w4_lt (a b c d : Nat) (ha : a < 256) (hb : b < 256) (hc : c < 256) (hd : d < 256) : w4 a b c d < 4294967296 := by unfold w4; omega
theorem w4_0 (a b c d : Nat) (_ha : a < 256) (hb : b < 256) (hc : c < 256) (hd : d < 256) : w4 a b c d / 16777216 = a := by unfold w4; omega
theorem w4_1 (a b c d : Nat) (_ha : a < 256) (hb : b < 256) (hc : c < 256) (hd : d < 256) : w4 a b c d / 65536 % 256 = b := by unfold w4; omega
theorem w4_2 (a b c d : Nat) (_ha : a < 256) (_hb : b < 256) (hc : c < 256) (hd : d < 256) : w4 a b c d / 256 % 256 = c := by unfold w4; omega
theorem w4_3 (a b c d : Nat) (_ha : a < 256) (_hb : b < 256) (_hc : c < 256) (hd : d < 256) : w4 a b c d % 256 = d := by unfold w4; omega
theorem w4_inj {a b c d e f g h : Nat} (_ha : a < 256) (hb : b < 256) (hc : c < 256) (hd : d < 256) (_he : e < 256) (hf : f < 256) (hg : g < 256) (hh : h < 256) (q : w4 a b c d = w4 e f g h) : a = e ∧ b = f ∧ c = g ∧ d = h := by
  unfold w4 at q; omega

theorem x_div (a b n : Nat) : (a ^^^ b) / 2 ^ n = a / 2 ^ n ^^^ b / 2 ^ n := by
  rw [← Nat.shiftRight_eq_div_pow, ← Nat.shiftRight_eq_div_pow, ← Nat.shiftRight_eq_div_pow, Nat.shiftRight_xor_distrib]
theorem x_mod (a b n : Nat) : (a ^^^ b) % 2 ^ n = a % 2 ^ n ^^^ b % 2 ^ n := Nat.xor_mod_two_pow
theorem a_div (a b n : Nat) : (a &&& b) / 2 ^ n = a / 2 ^ n &&& b / 2 ^ n := by
  rw [← Nat.shiftRight_eq_div_pow, ← Nat.shiftRight_eq_div_pow, ← Nat.shiftRight_eq_div_pow, Nat.shiftRight_and_distrib]
theorem a_mod (a b n : Nat) : (a &&& b) % 2 ^ n = a % 2 ^ n &&& b % 2 ^ n := Nat.and_mod_two_pow
theorem x8 {a b : Nat} (ha : a < 256) (hb : b < 256) : a ^^^ b < 256 := Nat.xor_lt_two_pow (n := 8) ha hb

/-- Xor goes byte by byte. -/
theorem w4_xor (a b c d e f g h : Nat) (ha : a < 256) (hb : b < 256) (hc : c < 256) (hd : d < 256) (he : e < 256) (hf : f < 256) (hg : g < 256) (hh : h < 256) :
    w4 a b c d ^^^ w4 e f g h = w4 (a ^^^ e) (b ^^^ f) (c ^^^ g) (d ^^^ h) := by
  have hlt : w4 a b c d ^^^ w4 e f g h < 4294967296 := Nat.xor_lt_two_pow (n := 32) (w4_lt a b c d ha hb hc hd) (w4_lt e f g h he hf hg hh)
  have p0 := x_div (w4 a b c d) (w4 e f g h) 24
  have p1 := x_div (w4 a b c d) (w4 e f g h) 16
  have p2 := x_div (w4 a b c d) (w4 e f g h) 8
  have q1 := x_mod (w4 a b c d / 2 ^ 16) (w4 e f g h / 2 ^ 16) 8
  have q2 := x_mod (w4 a b c d / 2 ^ 8) (w4 e f g h / 2 ^ 8) 8
  have q3 := x_mod (w4 a b c d) (w4 e f g h) 8
  rw [show (2 : Nat) ^ 24 = 16777216 from rfl, w4_0 a b c d ha hb hc hd, w4_0 e f g h he hf hg hh] at p0
  rw [show (2 : Nat) ^ 16 = 65536 from rfl, show (2 : Nat) ^ 8 = 256 from rfl, w4_1 a b c d ha hb hc hd, w4_1 e f g h he hf hg hh] at q1
  rw [show (2 : Nat) ^ 8 = 256 from rfl, w4_2 a b c d ha hb hc hd, w4_2 e f g h he hf hg hh] at q2
  rw [show (2 : Nat) ^ 8 = 256 from rfl, w4_3 a b c d ha hb hc hd, w4_3 e f g h he hf hg hh] at q3
  rw [w4_of _ hlt, p0, show (w4 a b c d ^^^ w4 e f g h) / 65536 % 256 = b ^^^ f by rw [show (65536 : Nat) = 2 ^ 16 from rfl, p1]; exact q1,
    show (w4 a b c d ^^^ w4 e f g h) / 256 % 256 = c ^^^ g by rw [show (256 : Nat) = 2 ^ 8 from rfl, p2]; exact q2, q3]
theorem w4_and (a b c d e f g h : Nat) (ha : a < 256) (hb : b < 256) (hc : c < 256) (hd : d < 256) (he : e < 256) (hf : f < 256) (hg : g < 256) (hh : h < 256) :
    w4 a b c d &&& w4 e f g h = w4 (a &&& e) (b &&& f) (c &&& g) (d &&& h) := by
  have hlt : w4 a b c d &&& w4 e f g h < 4294967296 := Nat.and_lt_two_pow (n := 32) _ (w4_lt e f g h he hf hg hh)
  have p0 := a_div (w4 a b c d) (w4 e f g h) 24
  have p1 := a_div (w4 a b c d) (w4 e f g h) 16
  have p2 := a_div (w4 a b c d) (w4 e f g h) 8
  have q1 := a_mod (w4 a b c d / 2 ^ 16) (w4 e f g h / 2 ^ 16) 8
  have q2 := a_mod (w4 a b c d / 2 ^ 8) (w4 e f g h / 2 ^ 8) 8
  have q3 := a_mod (w4 a b c d) (w4 e f g h) 8
  rw [show (2 : Nat) ^ 24 = 16777216 from rfl, w4_0 a b c d ha hb hc hd, w4_0 e f g h he hf hg hh] at p0
  rw [show (2 : Nat) ^ 16 = 65536 from rfl, show (2 : Nat) ^ 8 = 256 from rfl, w4_1 a b c d ha hb hc hd, w4_1 e f g h he hf hg hh] at q1
  rw [show (2 : Nat) ^ 8 = 256 from rfl, w4_2 a b c d ha hb hc hd, w4_2 e f g h he hf hg hh] at q2
  rw [show (2 : Nat) ^ 8 = 256 from rfl, w4_3 a b c d ha hb hc hd, w4_3 e f g h he hf hg hh] at q3
  rw [w4_of _ hlt, p0, show (w4 a b c d &&& w4 e f g h) / 65536 % 256 = b &&& f by rw [show (65536 : Nat) = 2 ^ 16 from rfl, p1]; exact q1,
    show (w4 a b c d &&& w4 e f g h) / 256 % 256 = c &&& g by rw [show (256 : Nat) = 2 ^ 8 from rfl, p2]; exact q2, q3]

/-- A byte doubled. -/
def tb (x : Nat) : Nat := (x &&& 127) * 2 ^^^ x / 128 * 27
theorem tb_lt : ∀ x, x < 256 → tb x < 256 := by decide +kernel
theorem tb_xor (x y : Nat) (hx : x < 256) (hy : y < 256) : tb (x ^^^ y) = tb x ^^^ tb y := by
  have h1 : (x ^^^ y) &&& 127 = (x &&& 127) ^^^ (y &&& 127) := by rw [Nat.and_xor_distrib_right]
  have h2 : (x ^^^ y) / 128 = x / 128 ^^^ y / 128 := x_div x y 7
  have h3 : ((x &&& 127) ^^^ (y &&& 127)) * 2 = (x &&& 127) * 2 ^^^ (y &&& 127) * 2 := by
    have := Nat.shiftLeft_xor_distrib (a := x &&& 127) (b := y &&& 127) (i := 1)
    simpa [Nat.shiftLeft_eq] using this
  have h4 : (x / 128 ^^^ y / 128) * 27 = x / 128 * 27 ^^^ y / 128 * 27 := by
    have a1 : x / 128 = 0 ∨ x / 128 = 1 := by omega
    have a2 : y / 128 = 0 ∨ y / 128 = 1 := by omega
    rcases a1 with e | e <;> rcases a2 with e2 | e2 <;> rw [e, e2] <;> rfl
  unfold tb
  rw [h1, h2, h3, h4]
  generalize (x &&& 127) * 2 = p
  generalize (y &&& 127) * 2 = q
  apply Nat.eq_of_testBit_eq
  intro i
  simp only [Nat.testBit_xor]
  cases p.testBit i <;> cases q.testBit i <;> cases (x / 128 * 27).testBit i <;> cases (y / 128 * 27).testBit i <;> rfl

/-- A word doubled, byte by byte, as the program spells it. -/
def twN (w : Nat) : Nat := (w &&& 2139062143) * 2 ^^^ (w / 128 &&& 16843009) * 27
theorem tb_parts : ∀ x, x < 256 → (x &&& 127) * 2 < 256 ∧ x / 128 * 27 < 256 := by decide +kernel
theorem twN_w4 (a b c d : Nat) (ha : a < 256) (hb : b < 256) (hc : c < 256) (hd : d < 256) : twN (w4 a b c d) = w4 (tb a) (tb b) (tb c) (tb d) := by
  have e1 : w4 a b c d &&& 2139062143 = w4 (a &&& 127) (b &&& 127) (c &&& 127) (d &&& 127) :=
    w4_and a b c d 127 127 127 127 ha hb hc hd (by omega) (by omega) (by omega) (by omega)
  have e2 : w4 a b c d / 128 = w4 (a / 128) (a % 128 * 2 + b / 128) (b % 128 * 2 + c / 128) (c % 128 * 2 + d / 128) := by unfold w4; omega
  have one : ∀ x y, x < 2 → y < 128 → (y * 2 + x) &&& 1 = x := fun x y hx _ => by rw [Nat.and_one_is_mod]; omega
  have e3 : w4 a b c d / 128 &&& 16843009 = w4 (a / 128) (b / 128) (c / 128) (d / 128) := by
    rw [e2, show (16843009 : Nat) = w4 1 1 1 1 from rfl, w4_and _ _ _ _ 1 1 1 1 (by omega) (by omega) (by omega) (by omega) (by omega) (by omega) (by omega) (by omega)]
    rw [one _ _ (by omega) (by omega), one _ _ (by omega) (by omega), one _ _ (by omega) (by omega), Nat.and_one_is_mod, show a / 128 % 2 = a / 128 by omega]
  have s2 : ∀ p q r s : Nat, w4 p q r s * 2 = w4 (p * 2) (q * 2) (r * 2) (s * 2) := fun p q r s => by unfold w4; omega
  have s27 : ∀ p q r s : Nat, w4 p q r s * 27 = w4 (p * 27) (q * 27) (r * 27) (s * 27) := fun p q r s => by unfold w4; omega
  unfold twN
  rw [e1, e3, s2, s27, w4_xor _ _ _ _ _ _ _ _ (tb_parts a ha).1 (tb_parts b hb).1 (tb_parts c hc).1 (tb_parts d hd).1 (tb_parts a ha).2 (tb_parts b hb).2 (tb_parts c hc).2 (tb_parts d hd).2]
  rfl

/-- A column's first byte mixed. -/
def mb (a b c d : Nat) : Nat := tb a ^^^ (tb b ^^^ b) ^^^ c ^^^ d
theorem mb_lt {a b c d : Nat} (ha : a < 256) (hb : b < 256) (hc : c < 256) (hd : d < 256) : mb a b c d < 256 :=
  x8 (x8 (x8 (tb_lt a ha) (x8 (tb_lt b hb) hb)) hc) hd
theorem xcl (a b : Nat) : a ^^^ (a ^^^ b) = b := by rw [← Nat.xor_assoc, Nat.xor_self, Nat.zero_xor]
theorem mb_twice (a b c d : Nat) (ha : a < 256) (hb : b < 256) (hc : c < 256) (hd : d < 256) :
    mb (mb a b c d) (mb b c d a) (mb c d a b) (mb d a b c) = tb (tb a) ^^^ a ^^^ tb (tb c) := by
  have t := fun x (hx : x < 256) => tb_lt x hx
  have h1 : tb (mb a b c d) = tb (tb a) ^^^ (tb (tb b) ^^^ tb b) ^^^ tb c ^^^ tb d := by
    unfold mb
    rw [tb_xor _ _ (x8 (x8 (t a ha) (x8 (t b hb) hb)) hc) hd, tb_xor _ _ (x8 (t a ha) (x8 (t b hb) hb)) hc, tb_xor _ _ (t a ha) (x8 (t b hb) hb), tb_xor _ _ (t b hb) hb]
  have h2 : tb (mb b c d a) = tb (tb b) ^^^ (tb (tb c) ^^^ tb c) ^^^ tb d ^^^ tb a := by
    unfold mb
    rw [tb_xor _ _ (x8 (x8 (t b hb) (x8 (t c hc) hc)) hd) ha, tb_xor _ _ (x8 (t b hb) (x8 (t c hc) hc)) hd, tb_xor _ _ (t b hb) (x8 (t c hc) hc), tb_xor _ _ (t c hc) hc]
  rw [mb, h1, h2]
  unfold mb
  generalize tb (tb a) = a2
  generalize tb (tb b) = b2
  generalize tb (tb c) = c2
  generalize tb a = a1
  generalize tb b = b1
  generalize tb c = c1
  generalize tb d = d1
  apply Nat.eq_of_testBit_eq
  intro i
  simp only [Nat.testBit_xor]
  cases a2.testBit i <;> cases b2.testBit i <;> cases c2.testBit i <;> cases a1.testBit i <;> cases b1.testBit i <;> cases c1.testBit i <;> cases d1.testBit i <;> cases a.testBit i <;> cases b.testBit i <;> cases c.testBit i <;> cases d.testBit i <;> rfl
theorem mb_four (a c : Nat) (ha : a < 256) (hc : c < 256) :
    tb (tb (tb (tb a) ^^^ a ^^^ tb (tb c))) ^^^ (tb (tb a) ^^^ a ^^^ tb (tb c)) ^^^ tb (tb (tb (tb c) ^^^ c ^^^ tb (tb a))) = a := by
  have t := fun x (hx : x < 256) => tb_lt x hx
  rw [tb_xor _ _ (x8 (t _ (t a ha)) ha) (t _ (t c hc)), tb_xor _ _ (t _ (t a ha)) ha, tb_xor _ _ (x8 (t _ (t c hc)) hc) (t _ (t a ha)), tb_xor _ _ (t _ (t c hc)) hc]
  rw [tb_xor _ _ (x8 (t _ (t _ (t a ha))) (t a ha)) (t _ (t _ (t c hc))), tb_xor _ _ (t _ (t _ (t a ha))) (t a ha), tb_xor _ _ (x8 (t _ (t _ (t c hc))) (t c hc)) (t _ (t _ (t a ha))), tb_xor _ _ (t _ (t _ (t c hc))) (t c hc)]
  generalize tb (tb (tb (tb a))) = a4
  generalize tb (tb (tb (tb c))) = c4
  generalize tb (tb a) = a2
  generalize tb (tb c) = c2
  apply Nat.eq_of_testBit_eq
  intro i
  simp only [Nat.testBit_xor]
  cases a4.testBit i <;> cases c4.testBit i <;> cases a2.testBit i <;> cases c2.testBit i <;> cases a.testBit i <;> cases c.testBit i <;> rfl
theorem mb_inj {a b c d e f g h : Nat} (ha : a < 256) (hb : b < 256) (hc : c < 256) (hd : d < 256) (he : e < 256) (hf : f < 256) (hg : g < 256) (hh : h < 256)
    (q0 : mb a b c d = mb e f g h) (q1 : mb b c d a = mb f g h e) (q2 : mb c d a b = mb g h e f) (q3 : mb d a b c = mb h e f g) : a = e ∧ b = f ∧ c = g ∧ d = h := by
  have r0 := mb_twice a b c d ha hb hc hd
  have r1 := mb_twice b c d a hb hc hd ha
  have r2 := mb_twice c d a b hc hd ha hb
  have r3 := mb_twice d a b c hd ha hb hc
  rw [q0, q1, q2, q3, mb_twice e f g h he hf hg hh] at r0
  rw [q0, q1, q2, q3, mb_twice f g h e hf hg hh he] at r1
  rw [q0, q1, q2, q3, mb_twice g h e f hg hh he hf] at r2
  rw [q0, q1, q2, q3, mb_twice h e f g hh he hf hg] at r3
  have s0 := mb_four a c ha hc
  have s1 := mb_four b d hb hd
  have s2 := mb_four c a hc ha
  have s3 := mb_four d b hd hb
  rw [← r0, ← r2, mb_four e g he hg] at s0
  rw [← r1, ← r3, mb_four f h hf hh] at s1
  rw [← r2, ← r0, mb_four g e hg he] at s2
  rw [← r3, ← r1, mb_four h f hh hf] at s3
  exact ⟨s0.symm, s1.symm, s2.symm, s3.symm⟩

/-! ### As the program spells it -/
/-- A word doubled; a word turned to the left. -/
def tw (x : Int) : Int := bits .xor .u32 (bits .and .u32 x 2139062143 * 2 % 4294967296) (bits .and .u32 (x / 128) 16843009 * 27 % 4294967296)
def rl (n x : Int) : Int := bits .or .u32 (x * 2 ^ n.toNat % 4294967296) (x / 2 ^ (32 - n).toNat)
def mixw (x : Int) : Int := bits .xor .u32 (bits .xor .u32 (bits .xor .u32 (tw x) (rl 8 (bits .xor .u32 (tw x) x))) (rl 16 x)) (rl 24 x)
/-- A column out of four words, by a table. -/
def col (T : List Int) (a b c d : Int) : Int :=
  bits .or .u32 (bits .or .u32 (bits .or .u32 (T.getD (a / 16777216 % 256).toNat 0 * 16777216) (T.getD (b / 65536 % 256).toNat 0 * 65536)) (T.getD (c / 256 % 256).toNat 0 * 256)) (T.getD (d % 256).toNat 0)
/-- Four bytes as a word. -/
def be4 (a b c d : Int) : Int := bits .or .u32 (bits .or .u32 (bits .or .u32 (a * 16777216) (b * 65536)) (c * 256)) d
/-- Bytes: turned, multiplied, substituted; the table of all. -/
def rl8 (n x : Int) : Int := bits .or .u8 (x * 2 ^ n.toNat % 256) (x / 2 ^ (8 - n).toNat)
def prF : Nat → Int → Int → Int → Int
  | 0, p, _, _ => p
  | f + 1, p, a, b => if 0 < b then prF f (if 0 < bits .and .u8 b 1 then bits .xor .u8 p a else p) (tw a % 256) (b / 2) else p
def pr (a b : Int) : Int := prF 8 0 a b
def sbk (x : Int) : Nat → Int
  | 0 => bits .xor .u8 x 99
  | k + 1 => bits .xor .u8 (sbk x k) (rl8 (k + 1) x)
def sb (x : Int) : Int := sbk x 4
structure Sbs where
  l : List Int
  b : Int
  x : Int
def sbs : Nat → Sbs
  | 0 => ⟨(List.replicate 256 0).set 0 (sb 0), 1, 1⟩
  | k + 1 => ⟨(sbs k).l.set (sbs k).b.toNat (sb (sbs k).x), pr (sbs k).b 3, pr (sbs k).x 246⟩
def TB : List Int := (sbs 255).l

theorem sb_byt (x : Int) : 0 ≤ sb x ∧ sb x ≤ 255 := by
  have h : ∀ y : Int, 0 ≤ IntKind.u8.wrap y ∧ IntKind.u8.wrap y ≤ 255 := fun y => by
    simp [IntKind.wrap, IntKind.signed, IntKind.bits]
    omega
  unfold sb
  exact h _
theorem xor8_byt (a b : Int) : 0 ≤ bits .xor .u8 a b ∧ bits .xor .u8 a b ≤ 255 := by
  have h : ∀ y : Int, 0 ≤ IntKind.u8.wrap y ∧ IntKind.u8.wrap y ≤ 255 := fun y => by
    simp [IntKind.wrap, IntKind.signed, IntKind.bits]
    omega
  exact h _
theorem prF_byt : ∀ (f : Nat) (p a b : Int), (0 ≤ p ∧ p ≤ 255) → 0 ≤ prF f p a b ∧ prF f p a b ≤ 255
  | 0, p, _, _, h => h
  | f + 1, p, a, b, h => by
    rw [prF]
    split
    · apply prF_byt
      split
      · exact xor8_byt _ _
      · exact h
    · exact h
theorem pr_byt (a b : Int) : 0 ≤ pr a b ∧ pr a b ≤ 255 := prF_byt 8 0 a b (by omega)
theorem sbs_b (k : Nat) : 0 ≤ (sbs k).b ∧ (sbs k).b ≤ 255 := by cases k with
  | zero => exact ⟨by show (0 : Int) ≤ 1; omega, by show (1 : Int) ≤ 255; omega⟩
  | succ k => rw [sbs]; exact pr_byt (sbs k).b 3
theorem sbs_x (k : Nat) : 0 ≤ (sbs k).x ∧ (sbs k).x ≤ 255 := by cases k with
  | zero => exact ⟨by show (0 : Int) ≤ 1; omega, by show (1 : Int) ≤ 255; omega⟩
  | succ k => rw [sbs]; exact pr_byt (sbs k).x 246
theorem sbs_len (k : Nat) : (sbs k).l.length = 256 := by
  induction k with
  | zero => rw [sbs, List.length_set, List.length_replicate]
  | succ k ih => rw [sbs, List.length_set, ih]
theorem sbs_byt (k : Nat) : ∀ x ∈ (sbs k).l, 0 ≤ x ∧ x ≤ 255 := by
  induction k with
  | zero =>
    intro x hx
    rw [sbs] at hx
    rcases List.mem_or_eq_of_mem_set hx with h | h
    · rw [List.mem_replicate] at h; omega
    · rw [h]; exact sb_byt 0
  | succ k ih =>
    intro x hx
    rw [sbs] at hx
    rcases List.mem_or_eq_of_mem_set hx with h | h
    · exact ih x h
    · rw [h]; exact sb_byt _
theorem TB_len : TB.length = 256 := sbs_len 255
theorem TB_byt : ∀ x ∈ TB, 0 ≤ x ∧ x ≤ 255 := sbs_byt 255
attribute [irreducible] TB sbs sb pr tw rl rl8 mixw col be4

end Aes
end Go.Proofs.Ytkajigfdfbgphaa
