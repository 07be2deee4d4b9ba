/-
  CtrF, CtrG, CtrH, CtrI, CtrJ, CtrK (merged)
-/
import Derived.Test.YtkjfhbmdogmecaaDoorB10
import Derived.Deep.RegionLawGrows
namespace Go.Proofs.YtkjfhbmdogmecaaDoor

/-! CtrF: The laws' helpers: rillkit.Row, rilllaw04.some, block, works. -/
section
open Go.RowKit

/-- Bytes of the call's own, as they are read. -/
theorem own_bat {w : World} {B n : Nat} {v : Value} {l : List Int} (h : w.ownsRow B 5 1 v n (U8s l)) (hb : Sha.Byt l) :
    ∃ (p : Option Addr) (c : Nat), v = .slice p n c ∧ l.length = n ∧ BAt w p l ∧ (p = none → l = [] ∧ c = 0) ∧ n ≤ c ∧ c ≤ 9223372036854775807 ∧ (∀ b o s, p = some ⟨b, o, s⟩ → B ≤ b ∧ o = 0 ∧ s = none) := by
  have hl : l.length = n := by have := h.1; unfold U8s at this; simpa using this
  rcases h.2 with ⟨rfl, rfl⟩ | ⟨g, cap, cur, rfl, q0, _, h1, h2, _⟩
  · obtain rfl : l = [] := List.eq_nil_of_length_eq_zero hl
    exact ⟨none, 0, rfl, rfl, ⟨hb, fun h0 => by simp at h0⟩, fun _ => ⟨rfl, rfl⟩, Nat.le_refl _, by omega, fun b o s e => by cases e⟩
  · refine ⟨_, cap, rfl, hl, ⟨hb, fun h0 => ⟨g, 0, rfl, fun j hj => ?_⟩⟩, (fun e => by cases e), h1, (by unfold maxLen at h2; omega), (fun b o s e => by cases e; exact ⟨q0, rfl, rfl⟩)⟩
    rw [Nat.zero_add]
    exact u8_at h j (by omega)
/-- What Xor answers, as it is read. -/
structure XorGot (L X : List Int) (w : World) (q : Option Addr) (cq : Nat) (w' : World) : Prop where
  own : w'.ownsRow w.heap.size 5 1 (.slice q L.length cq) L.length (U8s X)
  bat : BAt w' q X
  len : X.length = L.length
  none : q = .none → X = [] ∧ cq = 0
  cap : L.length ≤ cq ∧ cq ≤ 9223372036854775807
  below : Below w.heap.size w w'
theorem xor_got (c : Nat) (ks : List Int) (N : Nat) (e n : Int) (L : List Int) (p : Option Addr) (cap : Nat) (hL : L.length ≤ 1000000000) (hp0 : p = none → L = [] ∧ cap = 0) (hn : ks.length = 4 * (N + 2)) (hN : N ≤ 100) (w : World) (hp : BAt w p L) (hC : Ciph w c Aes.TB ks) :
    Calls Tryd.prog 78 #[.pointer (some ⟨c, 0, none⟩), .int .i64 e, .int .i64 n, .slice p L.length cap] w fun r w' => ∃ q cq, r = .returned (.slice q L.length cq) ∧ Hid (XorGot L (Ctr.xs (Ctr.sblk ks N (e % 18446744073709551616) (n % 18446744073709551616)) L) w q cq w') := by
  refine (xor_any c ks N e n L p cap hL hp0 hn hN w hp hC).mono ?_
  rintro r w' ⟨v, rfl, ho, hb⟩
  obtain ⟨q, cq, rfl, h1, h2, h3, h4, h5, _⟩ := own_bat ho (Ctr.xs_byt _ _)
  exact ⟨q, cq, rfl, ho, h2, h1, h3, ⟨h4, h5⟩, hb⟩

/-- Bytes that tell where they stand. -/
def rowl (n : Nat) : List Int := (List.range n).map fun (i : Nat) => ((i : Int) * 7 + 1) % 256
def rowf (n k : Nat) : List Int := (List.range n).map fun (i : Nat) => if i < k then ((i : Int) * 7 + 1) % 256 else 0
theorem rowl_len (n : Nat) : (rowl n).length = n := by simp [rowl]
theorem rowf_len (n k : Nat) : (rowf n k).length = n := by simp [rowf]
theorem rowl_byt (n : Nat) : Sha.Byt (rowl n) := fun x hx => by
  unfold rowl at hx
  rw [List.mem_map] at hx
  obtain ⟨i, _, rfl⟩ := hx
  omega
theorem rowf_zero (n : Nat) : (rowf n 0).map (Value.int .u8) = List.replicate n (Value.int .u8 0) := by
  apply List.ext_getElem
  · simp [rowf]
  · intro i h1 h2
    simp [rowf]
theorem rowf_step (n k : Nat) : (rowf n k).set k (((k : Int) * 7 + 1) % 256) = rowf n (k + 1) := by
  apply List.ext_getElem
  · simp [rowf]
  · intro i h1 h2
    rw [List.getElem_set]
    simp only [rowf, List.getElem_map, List.getElem_range]
    by_cases h : k = i
    · subst h; simp
    · rw [if_neg h]
      by_cases h' : i < k
      · rw [if_pos h', if_pos (by omega)]
      · rw [if_neg h', if_neg (by omega)]
theorem rowf_all (n : Nat) : rowf n n = rowl n := by
  apply List.ext_getElem
  · simp [rowf, rowl]
  · intro i h1 h2
    have : i < n := by simpa [rowf] using h1
    simp [rowf, rowl, this]
attribute [irreducible] rowf rowl
def RowSay4 (n : Nat) (w : World) (e : Ending) (w' : World) : Prop :=
  ∃ g, e = .returned (.slice (some ⟨g, 0, none⟩) n n) ∧ Hid (BAt w' (some ⟨g, 0, none⟩) (rowl n)) ∧ Below w.heap.size w w'
/-- The helper's cipher. -/
def kw0 : List Int := Aes.kws Aes.TB (rowl 16)
theorem kw0_len : kw0.length = 4 * (9 + 2) := kws_len (rowl 16) 4 (rowl_len 16)
def SomeSay (w : World) (e : Ending) (w' : World) : Prop := ∃ c, e = .returned (.pointer (some ⟨c, 0, none⟩)) ∧ Hid (Ciph w' c Aes.TB kw0) ∧ Below w.heap.size w w'
attribute [irreducible] kw0
def BlockSayB (a b i : Int) (w : World) (e : Ending) (w' : World) : Prop := e = .returned (.agg #[.int .u8 0, .int .u8 0, .int .u8 0, .int .u8 0, .int .u8 0, .int .u8 a, .int .u8 0, .int .u8 0, .int .u8 0, .int .u8 0, .int .u8 0, .int .u8 b, .int .u8 0, .int .u8 0, .int .u8 0, .int .u8 i]) ∧ Below w.heap.size w w'
end

/-! CtrG: Contract: rilllaw04.works. -/
section
open Go.RowKit

theorem xor0 (y : Int) (h : 0 ≤ y ∧ y ≤ 255) : bits .xor .u8 0 y = y := by
  have e := Aes.xor_u8 0 y.toNat (by omega) (by omega)
  rw [Nat.zero_xor, Int.toNat_of_nonneg h.1] at e
  exact e
theorem x20 (S : Nat → List Int) (hl : ∀ i, (S i).length = 16) (hb : ∀ i, Sha.Byt (S i)) : Ctr.xs S (List.replicate 20 0) = S 0 ++ (S 1).take 4 := by
  apply Ctr.ext_getD
  · rw [Ctr.xs_len, List.length_append, List.length_take, hl, hl]; rfl
  · intro j hj
    rw [Ctr.xs_len, List.length_replicate] at hj
    have hz : (List.replicate 20 (0 : Int)).getD j 0 = 0 := by
      rw [List.getD_eq_getElem?_getD, List.getElem?_replicate]
      split <;> rfl
    rw [Ctr.xs_get _ _ _ (by rw [List.length_replicate]; exact hj), hz, xor0 _ (Sha.byt_getD (hb _) _), List.getD_eq_getElem?_getD, List.getD_eq_getElem?_getD]
    by_cases h : j < 16
    · rw [List.getElem?_append_left (by rw [hl]; exact h), show j / 16 = 0 by omega, show j % 16 = j by omega]
    · rw [List.getElem?_append_right (by rw [hl]; omega), hl, List.getElem?_take, if_pos (by omega), show j / 16 = 1 by omega, show j % 16 = j - 16 by omega]
/-- append onto a full row that came in, as an operation of a region by hand. -/
theorem op_append_full {ops : Array Oper} {a : Act} {w : World} {K : Act → World → Prop} {Q : Exit → Act → World → Prop} {D : Tmp} {T : TypeId} {ps : String} {af : Array Edge} (i : Nat) (s x : Operand) (l ys : List Int) (g n cap b m c : Nat)
    (ho : ops[i]? = some { dst := some D, op := Op.call { callee := Callee.builtin Builtin.append, args := #[s, x], argTypes := #[22, 22] }, type := T, pos := ps, after := af, guard := none }) (hs : a.eval s = .slice (some ⟨g, 0, none⟩) n cap)
    (hx : a.eval x = .slice (some ⟨b, 0, none⟩) m c) (hl : l.length = n) (hm : ys.length = m) (hcl : ∀ j, j < n → w.cell? ⟨g, j, none⟩ = some (.int .u8 (l.getD j 0))) (hc : ∀ j, j < m → w.cell? ⟨b, j, none⟩ = some (.int .u8 (ys.getD j 0))) (hfull : cap < n + m) (hn : n + m ≤ 1000000000000)
    (hK : ∀ v' w', w'.ownsRow w.heap.size 5 1 v' (n + m) (U8s (l ++ ys)) → w.grownBy w' none → K (a.put (some D) v') w') :
    wpOp Tryd.prog ops Q i K a w := by
  obtain ⟨i0, hi, hz0, hz1, hz2⟩ := info_parts Tryd.info_u8
  have cells : ∀ (q : List Int) (k : Nat) (bl : Nat), q.length = k → (∀ j, j < k → w.cell? ⟨bl, j, none⟩ = some (.int .u8 (q.getD j 0))) → ∀ j u, (q.map (Value.int .u8))[j]? = some u → w.cell? ((⟨bl, 0, none⟩ : Addr).add j) = some u := fun q k bl hq hh j u hj => by
    have hjl : j < q.length := by have := (List.getElem?_eq_some_iff.1 hj).1; simpa using this
    rw [Addr.add_mid, Nat.zero_add, hh j (by omega)]
    rw [List.getElem?_map, List.getElem?_eq_getElem hjl] at hj
    rw [List.getD_eq_getElem?_getD, List.getElem?_eq_getElem hjl]
    simpa using hj
  obtain ⟨v', w', hrun, r1, r2⟩ := run_append_arg_grows (P := Tryd.prog) w 22 T 5 i0 (.int .u8 0) 1 1 Tryd.underlying22 hi hz0 hz1 hz2 rfl (by decide) ⟨g, 0, none⟩ n cap (l.map (Value.int .u8)) (by simp [hl]) (cells l n g hl hcl) ⟨b, 0, none⟩ m c (ys.map (Value.int .u8)) (by simp [hm]) (cells ys m b hm hc) hfull (by unfold maxLen; omega) (by omega)
  refine op_plain i _ ho rfl ?_
  unfold Oper.wp
  simp [execOp, resolve, invoke, builtin, hs, hx, hrun, Result.andThen]
  refine hK v' w' ?_ r2
  have e : U8s (l ++ ys) = l.map (Value.int .u8) ++ ys.map (Value.int .u8) := by unfold U8s; simp
  rw [e]
  exact r1
end

/-! CtrH: rilllaw04.CtrBoth walked. -/
section
open Go.RowKit

theorem bxor_lt (a b : Int) : 0 ≤ bits .xor .u8 a b ∧ bits .xor .u8 a b ≤ 255 := Aes.xor8_byt a b
theorem toNat_byt {x : Int} (h : 0 ≤ x ∧ x ≤ 255) : ∃ n : Nat, n < 256 ∧ x = (n : Int) := ⟨x.toNat, by omega, by omega⟩
theorem xor_twice {a b s : Int} (ha : 0 ≤ a ∧ a ≤ 255) (hb : 0 ≤ b ∧ b ≤ 255) (hs : 0 ≤ s ∧ s ≤ 255) : bits .xor .u8 (bits .xor .u8 a s) (bits .xor .u8 b s) = bits .xor .u8 a b := by
  obtain ⟨x, hx, rfl⟩ := toNat_byt ha
  obtain ⟨y, hy, rfl⟩ := toNat_byt hb
  obtain ⟨z, hz, rfl⟩ := toNat_byt hs
  rw [Aes.xor_u8 x z hx hz, Aes.xor_u8 y z hy hz, Aes.xor_u8 _ _ (Aes.x8 hx hz) (Aes.x8 hy hz), Aes.xor_u8 x y hx hy]
  congr 1
  rw [Nat.xor_assoc, Nat.xor_comm y z, ← Nat.xor_assoc z z y, Nat.xor_self, Nat.zero_xor]
theorem xor_back {a s : Int} (ha : 0 ≤ a ∧ a ≤ 255) (hs : 0 ≤ s ∧ s ≤ 255) : bits .xor .u8 (bits .xor .u8 a s) s = a := by
  obtain ⟨x, hx, rfl⟩ := toNat_byt ha
  obtain ⟨z, hz, rfl⟩ := toNat_byt hs
  rw [Aes.xor_u8 x z hx hz, Aes.xor_u8 _ z (Aes.x8 hx hz) hz]
  congr 1
  rw [Nat.xor_assoc, Nat.xor_self, Nat.xor_zero]
/-- A key that may be one: what New answers. -/
def KeyOk (w : World) (p0 : Option Addr) (n0 cap0 : Nat) (ks : List Int) : Prop :=
  ∀ x, Below w.heap.size w x → Calls Tryd.prog 19 #[.slice p0 n0 cap0] x fun r x' => ∃ c, r = .returned (.tuple #[.pointer (some ⟨c, 0, none⟩), .int .i64 0]) ∧ Hid (Ciph x' c Aes.TB ks) ∧ Hid (Below x.heap.size x x')
/-- .. and of one that may not. -/
def KeyBad (p0 : Option Addr) (n0 cap0 : Nat) : Prop :=
  ∀ x, Calls Tryd.prog 19 #[.slice p0 n0 cap0] x fun r x' => r = .returned (.tuple #[.pointer none, .int .i64 1]) ∧ x' = x
theorem key_cases (K : List Int) (p0 : Option Addr) (cap0 : Nat) (w : World) (hc : K.length ≤ cap0) (hcm : cap0 ≤ 9223372036854775807) (hp : BAt w p0 K) :
    KeyBad p0 K.length cap0 ∨ ∃ ks N, ks.length = 4 * (N + 2) ∧ N ≤ 100 ∧ KeyOk w p0 K.length cap0 ks := by
  have good : ∀ m, (m = 4 ∨ m = 6 ∨ m = 8) → K.length = 4 * m → ∃ ks N, ks.length = 4 * (N + 2) ∧ N ≤ 100 ∧ KeyOk w p0 K.length cap0 ks := fun m hm hK => by
    refine ⟨Aes.kws Aes.TB K, m + 5, by rw [kws_len K m hK], by omega, fun x hx => ?_⟩
    rw [hK]
    refine (new_anyB K m hm hK p0 cap0 (by omega) hcm x (hp.old hx)).mono ?_
    rintro r x' ⟨c, h1, _, h2, h3⟩
    exact ⟨c, h1, h2, h3⟩
  by_cases h16 : K.length = 16
  · exact Or.inr (good 4 (by omega) h16)
  · by_cases h24 : K.length = 24
    · exact Or.inr (good 6 (by omega) h24)
    · by_cases h32 : K.length = 32
      · exact Or.inr (good 8 (by omega) h32)
      · exact Or.inl fun x => new_bad p0 K.length cap0 h16 h24 h32 x
def StreamOf (ks : List Int) (N : Nat) (e n : Int) : Nat → List Int := Ctr.sblk ks N (e % 18446744073709551616) (n % 18446744073709551616)
theorem stream_byt (ks : List Int) (N : Nat) (e n : Int) (i j : Nat) : 0 ≤ (StreamOf ks N e n i).getD j 0 ∧ (StreamOf ks N e n i).getD j 0 ≤ 255 := Sha.byt_getD (sblk_byt _ _ _ _ _) _
/-- What Xor answers under such a key. -/
theorem xor_key {ks : List Int} {N : Nat} (hn : ks.length = 4 * (N + 2)) (hN : N ≤ 100) (c : Nat) (e n : Int) (L : List Int) (k : Nat) (hk : L.length = k) (p : Option Addr) (cap : Nat) (hL : k ≤ 1000000000) (hp0 : p = none → L = [] ∧ cap = 0) (w : World) (hp : BAt w p L) (hC : Ciph w c Aes.TB ks) :
    Calls Tryd.prog 78 #[.pointer (some ⟨c, 0, none⟩), .int .i64 e, .int .i64 n, .slice p k cap] w fun r w' => ∃ q cq, r = .returned (.slice q k cq) ∧ Hid (XorGot L (Ctr.xs (StreamOf ks N e n) L) w q cq w') := by
  subst hk
  exact xor_got c ks N e n L p cap hL hp0 hn hN w hp hC
attribute [irreducible] StreamOf
end

/-! CtrI: rilllaw04.CtrBack walked. -/
section
open Go.RowKit

theorem xs_xs (S : Nat → List Int) (L : List Int) (hb : Sha.Byt L) (hS : ∀ i j, 0 ≤ (S i).getD j 0 ∧ (S i).getD j 0 ≤ 255) : Ctr.xs S (Ctr.xs S L) = L := by
  apply Ctr.ext_getD
  · rw [Ctr.xs_len, Ctr.xs_len]
  · intro j hj
    rw [Ctr.xs_len, Ctr.xs_len] at hj
    rw [Ctr.xs_get _ _ _ (by rw [Ctr.xs_len]; exact hj), Ctr.xs_get _ _ _ hj]
    exact xor_back (Sha.byt_getD hb _) (hS _ _)
theorem rep_getD (n j : Nat) : (List.replicate n (0 : Int)).getD j 0 = 0 := by
  rw [List.getD_eq_getElem?_getD, List.getElem?_replicate]
  split <;> rfl
end

/-! CtrJ: What CtrCut needs: rillkit.Pick, a beginning's bytes, the lowest 48 bits. -/
section
open Go.RowKit

theorem low_of (e : Int) (c : Nat) (hc : c % 2 ^ 48 = 0) (hc2 : c < 18446744073709551616) : bits .xor .i64 e (c : Int) % 281474976710656 = e % 281474976710656 := by
  have h1 : ((BitVec.ofInt 64 e ^^^ BitVec.ofInt 64 (c : Int)).toNat) % 2 ^ 48 = ((e % 18446744073709551616).toNat) % 2 ^ 48 := by
    rw [BitVec.toNat_xor, BitVec.toNat_ofInt, BitVec.ofInt_natCast, BitVec.toNat_ofNat, Aes.x_mod, Nat.mod_eq_of_lt (show c < 2 ^ 64 by omega), hc, Nat.xor_zero]
    rfl
  unfold bits
  rw [IntKind.wrap_i64]
  show ((((BitVec.ofInt 64 e ^^^ BitVec.ofInt 64 (c : Int)).toNat : Int) + 9223372036854775808) % 18446744073709551616 - 9223372036854775808) % 281474976710656 = e % 281474976710656
  generalize (BitVec.ofInt 64 e ^^^ BitVec.ofInt 64 (c : Int)).toNat = m at *
  omega
theorem cb_low (e e' n n' i : Int) (h : e % 281474976710656 = e' % 281474976710656) (h2 : n % 281474976710656 = n' % 281474976710656) : Ctr.cb e n i = Ctr.cb e' n' i := by
  unfold Ctr.cb
  congr 1
  · omega
  congr 1
  · omega
  congr 1
  · omega
  congr 1
  · omega
  congr 1
  · omega
  congr 1
  · omega
  congr 1
  · omega
  congr 1
  · omega
  congr 1
  · omega
  congr 1
  · omega
  congr 1
  · omega
  congr 1
  omega
theorem stream_low (ks : List Int) (N : Nat) (e e' n n' : Int) (h : e % 281474976710656 = e' % 281474976710656) (h2 : n % 281474976710656 = n' % 281474976710656) : StreamOf ks N e n = StreamOf ks N e' n' := by
  unfold StreamOf Ctr.sblk
  funext i
  rw [cb_low (e % 18446744073709551616) (e' % 18446744073709551616) (n % 18446744073709551616) (n' % 18446744073709551616) i (by omega) (by omega)]
theorem stream_e48 (ks : List Int) (N : Nat) (e n : Int) : StreamOf ks N (bits .xor .i64 e 281474976710656) n = StreamOf ks N e n :=
  stream_low _ _ _ _ _ _ (low_of e 281474976710656 (by decide) (by decide)) rfl
theorem stream_n62 (ks : List Int) (N : Nat) (e n : Int) : StreamOf ks N e (bits .xor .i64 n 4611686018427387904) = StreamOf ks N e n :=
  stream_low _ _ _ _ _ _ rfl (low_of n 4611686018427387904 (by decide) (by decide))
theorem xs_take (S : Nat → List Int) (L : List Int) (k : Nat) (hk : k ≤ L.length) : Ctr.xs S (L.take k) = (Ctr.xs S L).take k := by
  apply Ctr.ext_getD
  · rw [Ctr.xs_len, List.length_take, List.length_take, Ctr.xs_len]
  · intro j hj
    rw [Ctr.xs_len, List.length_take] at hj
    have e : ∀ l : List Int, (l.take k).getD j 0 = l.getD j 0 := fun l => by rw [List.getD_eq_getElem?_getD, List.getElem?_take, if_pos (by omega), List.getD_eq_getElem?_getD]
    rw [Ctr.xs_get _ _ _ (by rw [List.length_take]; omega), e, e, Ctr.xs_get _ _ _ (by omega)]
end

/-! CtrK: rilllaw04.CtrCut walked. -/
section
open Go.RowKit

/-- Where a beginning of a slice lies. -/
def slc (p : Option Addr) (c : Nat) : Option Addr := if c = 0 then p else p.map (·.add 0)
theorem slc_bat {x : World} {p : Option Addr} {c : Nat} {L : List Int} (k : Nat) (h : BAt x p L) : BAt x (slc p c) (L.take k) := by
  refine ⟨Sha.byt_take h.1 k, fun h0 => ?_⟩
  rw [List.length_take] at h0 ⊢
  obtain ⟨b, o, rfl, hc⟩ := h.2 (by omega)
  have e : slc (some ⟨b, o, none⟩) c = some ⟨b, o, none⟩ := by
    unfold slc
    split
    · rfl
    · simp [Addr.add_mid]
  refine ⟨b, o, e, fun j hj => ?_⟩
  rw [hc j (by omega), List.getD_eq_getElem?_getD, List.getD_eq_getElem?_getD, List.getElem?_take, if_pos (by omega)]
theorem slc_none {p : Option Addr} {c : Nat} {L : List Int} (k : Nat) (h : p = none → L = [] ∧ c = 0) (e : slc p c = none) : L.take k = [] ∧ c = 0 := by
  have hp : p = none := by
    unfold slc at e
    split at e
    · exact e
    · simpa using e
  obtain ⟨rfl, h2⟩ := h hp
  exact ⟨by simp, h2⟩
end

end Go.Proofs.YtkjfhbmdogmecaaDoor
