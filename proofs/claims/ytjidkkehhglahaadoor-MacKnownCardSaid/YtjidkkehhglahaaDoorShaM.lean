/-
  SHA-256 as plain functions on integers (no program, no world): what both texts compute.
-/
import Derived.WalkKit
namespace Go.Proofs.YtjidkkehhglahaaDoor
open Go.RowKit
namespace Sha

/-- A word turned right by n bits, as the program spells it. -/
def rr (n : Int) (x : Int) : Int := bits .or .u32 (x * 2 ^ (32 - n).toNat % 4294967296) (x / 2 ^ n.toNat)
def okn (n : Int) : Bool := n == 2 || n == 6 || n == 7 || n == 11 || n == 13 || n == 17 || n == 18 || n == 19 || n == 22 || n == 25

/-- Four bytes as a word. -/
def be4 (a b c d : Int) : Int := bits .or .u32 (bits .or .u32 (bits .or .u32 (a * 16777216) (b * 65536)) (c * 256)) d
/-- The small sums, and the word that follows. -/
def g1 (x : Int) : Int := bits .xor .u32 (bits .xor .u32 (rr 17 x) (rr 19 x)) (x / 1024)
def g0 (x : Int) : Int := bits .xor .u32 (bits .xor .u32 (rr 7 x) (rr 18 x)) (x / 8)
def nw (a b c d : Int) : Int := (g1 a + b + g0 c + d) % 4294967296
/-- The first k words of a row. -/
def wl (r : Nat → Int) : Nat → List Int
  | 0 => []
  | k + 1 => wl r k ++ [if k < 16 then be4 (r (4 * k)) (r (4 * k + 1)) (r (4 * k + 2)) (r (4 * k + 3)) else nw ((wl r k).getD (k - 2) 0) ((wl r k).getD (k - 7) 0) ((wl r k).getD (k - 15) 0) ((wl r k).getD (k - 16) 0)]
theorem wl_len (r : Nat → Int) (k : Nat) : (wl r k).length = k := by
  induction k with
  | zero => rfl
  | succ k ih => simp [wl, ih]
/-- The words' array while it is filled. -/
def wa (l : List Int) : Array Value := (l.map (Value.int .u32) ++ List.replicate (64 - l.length) (Value.int .u32 0)).toArray
theorem wa_size (l : List Int) (h : l.length ≤ 64) : (wa l).size = 64 := by simp [wa]; omega
theorem wa_get (l : List Int) (j : Nat) (h : j < l.length) : (wa l)[j]? = some (.int .u32 (l.getD j 0)) := by
  simp [wa, List.getElem?_append, h]
theorem wa_in (l : List Int) (j : Nat) (hl : l.length ≤ 64) (h : j < 64) : ∃ n, (wa l)[j]? = some (.int .u32 n) := by
  by_cases hj : j < l.length
  · exact ⟨_, wa_get l j hj⟩
  · refine ⟨0, ?_⟩
    have h2 : j - l.length < 64 - l.length := by omega
    simp [wa, List.getElem?_append, hj, h2]
theorem wa_set (l : List Int) (x : Int) (h : l.length < 64) : (wa l).setIfInBounds l.length (.int .u32 x) = wa (l ++ [x]) := by
  apply Array.ext'
  have e : 64 - l.length = (64 - (l.length + 1)) + 1 := by omega
  simp [wa, e, List.replicate_succ]
theorem wl_next (r : Nat → Int) (j : Nat) : wl r (16 + (j + 1)) = wl r (16 + j) ++ [nw ((wl r (16 + j)).getD (j + 14) 0) ((wl r (16 + j)).getD (j + 9) 0) ((wl r (16 + j)).getD (j + 1) 0) ((wl r (16 + j)).getD j 0)] := by
  rw [show 16 + (j + 1) = (16 + j) + 1 by omega, wl, if_neg (by omega), show 16 + j - 2 = j + 14 by omega, show 16 + j - 7 = j + 9 by omega, show 16 + j - 15 = j + 1 by omega, show 16 + j - 16 = j by omega]
/-- Word t of a row. -/
def wd (r : Nat → Int) (t : Nat) : Int := (wl r 64).getD t 0
/-- The constants. -/
def kk : List Int := [1116352408, 1899447441, 3049323471, 3921009573, 961987163, 1508970993, 2453635748, 2870763221, 3624381080, 310598401, 607225278, 1426881987, 1925078388, 2162078206, 2614888103, 3248222580, 3835390401, 4022224774, 264347078, 604807628, 770255983, 1249150122, 1555081692, 1996064986, 2554220882, 2821834349, 2952996808, 3210313671, 3336571891, 3584528711, 113926993, 338241895, 666307205, 773529912, 1294757372, 1396182291, 1695183700, 1986661051, 2177026350, 2456956037, 2730485921, 2820302411, 3259730800, 3345764771, 3516065817, 3600352804, 4094571909, 275423344, 430227734, 506948616, 659060556, 883997877, 958139571, 1322822218, 1537002063, 1747873779, 1955562222, 2024104815, 2227730452, 2361852424, 2428436474, 2756734187, 3204031479, 3329325298]
def ki (t : Nat) : Int := kk.getD t 0
/-- The state while a row is taken, and one round. -/
structure St where
  a : Int
  b : Int
  c : Int
  d : Int
  e : Int
  f : Int
  g : Int
  h : Int
def t1 (k w : Int) (s : St) : Int := (s.h + bits .xor .u32 (bits .xor .u32 (rr 6 s.e) (rr 11 s.e)) (rr 25 s.e) + bits .xor .u32 (bits .and .u32 s.e s.f) (bits .and .u32 (bits .xor .u32 IntKind.u32.max s.e) s.g) + k + w) % 4294967296
def t2 (s : St) : Int := (bits .xor .u32 (bits .xor .u32 (rr 2 s.a) (rr 13 s.a)) (rr 22 s.a) + bits .xor .u32 (bits .xor .u32 (bits .and .u32 s.a s.b) (bits .and .u32 s.a s.c)) (bits .and .u32 s.b s.c)) % 4294967296
def rnd (k w : Int) (s : St) : St := ⟨(t1 k w s + t2 s) % 4294967296, s.a, s.b, s.c, (s.d + t1 k w s) % 4294967296, s.e, s.f, s.g⟩
theorem rnd_eq (k w : Int) (x : St) (S1 CH T1 S0 MJ T2 : Int) (h1 : bits .xor .u32 (bits .xor .u32 (rr 6 x.e) (rr 11 x.e)) (rr 25 x.e) = S1)
    (h2 : bits .xor .u32 (bits .and .u32 x.e x.f) (bits .and .u32 (bits .xor .u32 IntKind.u32.max x.e) x.g) = CH) (h3 : ((x.h + S1 + CH + k) % 4294967296 + w) % 4294967296 = T1)
    (h4 : bits .xor .u32 (bits .xor .u32 (rr 2 x.a) (rr 13 x.a)) (rr 22 x.a) = S0) (h5 : bits .xor .u32 (bits .xor .u32 (bits .and .u32 x.a x.b) (bits .and .u32 x.a x.c)) (bits .and .u32 x.b x.c) = MJ)
    (h6 : (S0 + MJ) % 4294967296 = T2) : rnd k w x = ⟨(T1 + T2) % 4294967296, x.a, x.b, x.c, (x.d + T1) % 4294967296, x.e, x.f, x.g⟩ := by
  subst h1 h2 h4 h5 h6
  rw [Int.emod_add_emod] at h3
  subst h3
  rfl
/-- The first t rounds. -/
def rs (s : St) (r : Nat → Int) : Nat → St
  | 0 => s
  | t + 1 => rnd (ki t) (wd r t) (rs s r t)
def plus (s x : St) : St := ⟨(s.a + x.a) % 4294967296, (s.b + x.b) % 4294967296, (s.c + x.c) % 4294967296, (s.d + x.d) % 4294967296, (s.e + x.e) % 4294967296, (s.f + x.f) % 4294967296, (s.g + x.g) % 4294967296, (s.h + x.h) % 4294967296⟩
/-- A state takes a row. -/
def tk (s : St) (r : Nat → Int) : St := plus s (rs s r 64)
/-- The words of a state, as they lie in memory. -/
theorem rs_succ (s : St) (r : Nat → Int) (t : Nat) : rs s r (t + 1) = rnd (ki t) (wd r t) (rs s r t) := rfl
theorem rs_zero (s : St) (r : Nat → Int) : rs s r 0 = s := rfl
def St.l (s : St) : List Value := [.int .u32 s.a, .int .u32 s.b, .int .u32 s.c, .int .u32 s.d, .int .u32 s.e, .int .u32 s.f, .int .u32 s.g, .int .u32 s.h]
theorem tk_eq (s : St) (r : Nat → Int) : tk s r = plus s (rs s r 64) := rfl
theorem wa_nil : wa [] = (List.replicate 64 (Value.int .u32 0)).toArray := rfl
attribute [irreducible] rnd wl wa wd ki rs tk rr kk
end Sha
end Go.Proofs.YtjidkkehhglahaaDoor
