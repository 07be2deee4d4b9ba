/-
  Contract: Seal.
-/
import Derived.Test.YtdmnlooghamngaaNaQ
namespace Go.Proofs.Ytdmnlooghamngaa
open Go.RowKit

namespace Nm
/-- What Seal answers, and what is remembered then. -/
def may (x : Four) : Bool := inR x.1 && inR x.2.1
def sl (S : St) (x : Four) : List Int := if may x then x.2.2.2 ++ tg 0 (num x S.ss) else []
def sld (S : St) (x : Four) : St := if may x then ⟨put x S.ss, S.ts⟩ else S
theorem sl_len (S : St) (x : Four) : (sl S x).length = if may x then x.2.2.2.length + 32 else 0 := by
  unfold sl
  split
  · rw [List.length_append, tg_len]
  · rfl
theorem sl_byt (S : St) (x : Four) (h : Sha.Byt x.2.2.2) : Sha.Byt (sl S x) := by
  unfold sl
  split
  · exact Sha.byt_append h (tg_byt _ _ (by omega))
  · intro y hy; simp at hy
end Nm

set_option maxRecDepth 100000 in
theorem inrange_any (n : Int) (w : World) : Calls Try.prog 31 #[.int .i64 n] w fun e w' => e = .returned (.bool (Nm.inR n)) ∧ w = w' := by
  unfold Nm.inR
  by_cases h1 : 0 ≤ n
  · by_cases h2 : n ≤ 1099511627776
    · go_enter Try.func31, Try.ntmps31
      go_wp2
      go_ret
      exact ⟨by simp [h1, h2], rfl⟩
    · have h2' : decide (n ≤ 1099511627776) = false := by simpa using h2
      go_enter Try.func31, Try.ntmps31
      go_wp2
      go_ret
      exact ⟨by simp, rfl⟩
  · have h1' : decide (0 ≤ n) = false := by simpa using h1
    go_enter Try.func31, Try.ntmps31
    go_wp2
    go_ret
    exact ⟨by simp, rfl⟩

theorem only_set {b G : Nat} {w y : World} {vs : List Value} (h : Only b w y) (hG : w.heap.size ≤ G) : Only b w (y.setCells G 0 vs) :=
  have k := Chg.setCells G vs 0 y
  ⟨k.os.trans h.os, k.tape.trans h.tape, k.output.trans h.output, by rw [k.size]; exact h.size, fun i hi hb => (k.block i (by omega)).trans (h.block i hi hb)⟩
theorem own_base {w : World} {B B' n : Nat} {e : TypeId} {v : Value} {xs : List Value} (h : w.ownsRow B e 1 v n xs) (hB : B' ≤ B) : w.ownsRow B' e 1 v n xs := by
  refine ⟨h.1, ?_⟩
  rcases h.2 with h1 | ⟨g, cap, cur, h1, h2, h3⟩
  · exact Or.inl h1
  · exact Or.inr ⟨g, cap, cur, h1, Nat.le_trans hB h2, h3⟩

theorem concat_two (p q : Option Addr) (n m c d k : Nat) (L M : List Int) (hn : L.length = n) (hm : M.length = m) (hl : n + m ≤ 1000000000) (w : World) (hk : w.heap[k]? = some (.cells #[.slice p n c, .slice q m d] 30 (0, 0))) (hp : Bs w p c L) (hq : Bs w q d M) :
    Calls Try.prog 34 #[.slice (some ⟨k, 0, none⟩) 2 2] w fun e w' => ∃ v, e = .returned v ∧ w'.ownsRow w.heap.size 5 1 v (n + m) (U8s (L ++ M)) ∧ Below w.heap.size w w' := by
  subst hn
  subst hm
  have hc2 : Seal.cat (fun i => if i = 0 then L else M) 2 = L ++ M := by unfold Seal.cat; unfold Seal.cat; unfold Seal.cat; simp
  refine (concat_any (fun i => if i = 0 then p else q) (fun i => if i = 0 then c else d) (fun i => if i = 0 then L else M) 2 k (by omega) w ?_ ?_ (by rw [hc2, List.length_append]; omega)).mono ?_
  · intro i hi
    rcases i with _ | _ | i
    · rw [cell_of_row w k 0 _ _ _ hk]; rfl
    · rw [cell_of_row w k 1 _ _ _ hk]; rfl
    · omega
  · intro i hi
    rcases i with _ | _ | i
    · exact hp
    · exact hq
    · omega
  · rintro e w' ⟨v, h1, h2, h3⟩
    rw [hc2, List.length_append] at h2
    exact ⟨v, h1, h2, h3⟩

/-- What Seal says: of what was there only the fours' map may have turned. -/
def SealSay (g b c : Nat) (S : Nm.St) (x : Nm.Four) (w : World) (e : Ending) (w' : World) : Prop :=
  ∃ p k m, e = .returned (.slice p m k) ∧ (Nm.sl S x).length = m ∧ Hid (w'.ownsRow w.heap.size 5 1 (.slice p m k) m (U8s (Nm.sl S x))) ∧ Hid (Bs w' p k (Nm.sl S x)) ∧ Hid (StAt w' g b c (Nm.sld S x)) ∧ Only b w w'

theorem seal_none (S : Nm.St) (x : Nm.Four) (g b c : Nat) (vh vp : Value) (hb : Nm.may x = false) (w : World) (hs : StAt w g b c S) :
    Calls Try.prog 16 #[.pointer (some ⟨g, 0, none⟩), .int .i64 x.1, .int .i64 x.2.1, vh, vp] w (SealSay g b c S x w) := by
  have HE : Hid (SealSay g b c S x w (.returned (.slice none 0 0)) w) := by
    refine ⟨none, 0, 0, rfl, by rw [Nm.sl_len, hb]; rfl, ?_, ?_, ?_, Only.refl _ _⟩
    · show World.ownsRow _ _ _ _ _ _ _; unfold Nm.sl; rw [hb]; unfold U8s; exact World.ownsRow_nil _ _ _ _
    · show Bs _ _ _ _; unfold Nm.sl; rw [hb]; exact bs_none w
    · show StAt _ _ _ _ _; unfold Nm.sld; rw [hb]; exact hs
  obtain ⟨x1, x2, x3, x4⟩ := x
  unfold Nm.may at hb
  dsimp only at hb
  clear hs
  cases h1 : Nm.inR x1 with
  | false =>
    go_enter Try.func16, Try.ntmps16
    go_wp2_with (go_at_call 31; refine (inrange_any _ _).mono ?_; rintro e1 w1 ⟨rfl, rfl⟩; rw [h1])
    go_ret
    exact HE.out
  | true =>
    have h2 : Nm.inR x2 = false := by rw [h1] at hb; simpa using hb
    clear hb
    go_enter Try.func16, Try.ntmps16
    go_wp2_with (go_at_call 31; refine (inrange_any _ _).mono ?_; rintro e1 w1 ⟨rfl, rfl⟩; first | rw [h1] | rw [h2])
    go_ret
    exact HE.out

theorem heap2_same (w : World) (G : Nat) {vs : List Value} {T : TypeId} (h : w.heap[G]? = some (.cells (List.replicate 32 (Value.int .u8 0)).toArray T (0, 0))) (hv : vs.length = 32) : (w.setCells G 0 vs).heap[G]? = some (.cells vs.toArray T (0, 0)) := by
  have h1 := heap_setCells G T vs 0 _ w h (by simp [hv])
  rw [h1]
  congr 2
  simp [splice, hv]
set_option maxHeartbeats 4000000 in
set_option maxRecDepth 100000 in
theorem seal_good (S : Nm.St) (x : Nm.Four) (g b c : Nat) (ph pp : Option Addr) (nh np ch cp : Nat) (hnh : x.2.2.1.length = nh) (hnp : x.2.2.2.length = np) (hsz : np ≤ 1000000) (hm : Nm.may x = true) (hx64 : Nm.In64 x.1 ∧ Nm.In64 x.2.1)
    (w : World) (hs : StAt w g b c S) (hh : Bs w ph ch x.2.2.1) (hp : Bs w pp cp x.2.2.2) (hl : S.ss.length ≤ 100000) :
    Calls Try.prog 16 #[.pointer (some ⟨g, 0, none⟩), .int .i64 x.1, .int .i64 x.2.1, .slice ph nh ch, .slice pp np cp] w (SealSay g b c S x w) := by
  have HX : Hid (Nm.ok4 x) := ⟨hx64.1, hx64.2, okt_bs hh, okt_bs hp⟩
  have HLT := Lib.hid hs.lt
  have HAP := Lib.hid hs.apart
  have HSS : Hid (∀ y : World, y.heap[b]? = w.heap[b]? → MpAt Nm.kv4 Nm.ok4 y b S.ss) := fun y hy => hs.ss.keep hy
  have HK1 : ∀ y, Only b w y → y.cell? ⟨g, 0, none⟩ = some (.map (some b)) := fun y hy => hy.cell hs.apart.2.1 (by rw [cell_of_row _ g 0 _ _ _ hs.row]; rfl)
  have HB2 : ∀ y, Only b w y → Bs y ph ch x.2.2.1 := fun y hy => bs_only hh hy (bs_map hh hs.ss)
  have HB3 : Hid (∀ y, Only b w y → Bs y pp cp x.2.2.2) := fun y hy => bs_only hp hy (bs_map hp hs.ss)
  have HK : Hid (∀ y, Only b w y → y.cell? ⟨g, 0, none⟩ = some (.map (some b)) ∧ (convert 30 9 (.slice ph nh ch)).run Try.prog y = .ok (.string (Nm.bts x.2.2.1)) y ∧ (convert 30 9 (.slice pp np cp)).run Try.prog y = .ok (.string (Nm.bts x.2.2.2)) y) := fun y hy => by
    refine ⟨HK1 y hy, ?_, ?_⟩
    · rw [← hnh]; exact text_of (HB2 y hy)
    · rw [← hnp]; exact text_of (HB3.out y hy)
  have OW : Hid (Only b w w.drew) := (Only.refl b w).drew
  have HFIN : Hid (∀ y v, y.ownsRow w.heap.size 5 1 v (np + 32) (U8s (x.2.2.2 ++ Nm.tg 0 (Nm.num x S.ss))) → MpAt Nm.kv4 Nm.ok4 y b (Nm.put x S.ss) → Only b w y → SealSay g b c S x w (.returned v) y) := fun y v hv hmp ho => by
    have hsl : Nm.sl S x = x.2.2.2 ++ Nm.tg 0 (Nm.num x S.ss) := by unfold Nm.sl; rw [hm]; rfl
    obtain ⟨p, k, hv1, hb, hlen⟩ := own_bs hv (by rw [← hsl]; exact Nm.sl_byt S x hp.bat.1)
    subst hv1
    refine ⟨p, k, _, rfl, by rw [hsl], ?_, ?_, ?_, ho⟩
    · show World.ownsRow _ _ _ _ _ _ _; rw [hsl]; rw [← hlen] at hv; exact hv
    · show Bs _ _ _ _; rw [hsl]; exact hb
    · show StAt _ _ _ _ _
      unfold Nm.sld
      rw [hm]
      exact ⟨(ho.block _ hs.lt.1 hs.apart.2.1).trans hs.row, hmp, hs.ts.keep (ho.block _ hs.lt.2.2 hs.apart.1.symm), hs.apart⟩
  have HT := Lib.hid (Nm.tg_len 0 (Nm.num x S.ss))
  have HTB := Lib.hid (Nm.tg_byt 0 (Nm.num x S.ss) (by omega))
  have HN := Lib.hid (And.intro hnh hnp)
  have hone := bytes_one (Nm.tg 0 (Nm.num x S.ss))
  have hsz1 := sum_size (Nm.tg_len 0 (Nm.num x S.ss))
  have hm1 : Nm.inR x.1 = true := by unfold Nm.may at hm; simp only [Bool.and_eq_true] at hm; exact hm.1
  have hm2 : Nm.inR x.2.1 = true := by unfold Nm.may at hm; simp only [Bool.and_eq_true] at hm; exact hm.2
  have HM := Lib.hid (And.intro hm1 hm2)
  clear hm hm1 hm2 hnh hnp HK1 HB2 hs hh hp hx64
  go_enter Try.func16, Try.ntmps16
  go_upto_region 3 with (go_at_call 31; refine (inrange_any _ _).mono ?_; rintro e1 w1 ⟨rfl, rfl⟩; first | rw [HM.out.1] | rw [HM.out.2])
  go_region_held3 (fun y => y.cell? ⟨g, 0, none⟩ = some (.map (some b)) ∧ (convert 30 9 (.slice ph nh ch)).run Try.prog y = .ok (.string (Nm.bts x.2.2.1)) y ∧ (convert 30 9 (.slice pp np cp)).run Try.prog y = .ok (.string (Nm.bts x.2.2.2)) y)
    (exact HK.out _ (by first | exact Hid.out (by assumption) | exact Only.alloc (Hid.out (by assumption)) _ | exact only_set (Hid.out (by assumption)) (by first | exact Nat.le_refl _ | exact Only.size (Hid.out (by assumption))) | exact only_set (Only.alloc (Hid.out (by assumption)) _) (Only.size (Hid.out (by assumption)))))
    (first
      | (go_at_call 33; refine Calls.mono (rem_four S.ss x b _ ?_ HX.out (by omega)) ?_; exact HSS.out _ (by first | exact heap_oldX w.drew _ HLT.out.2.1 | rfl); rintro e1 w1 ⟨rfl, m1, o1⟩; have M1 := Lib.hid m1; have O1 : Hid (Only b w w1) := Only.trans (by first | exact Hid.out (by assumption) | exact Only.alloc (Hid.out (by assumption)) _) o1; try have R1 : Hid (w1.heap[w.heap.size]? = some (.cells (List.replicate 32 (Value.int .u8 0)).toArray 42 (0, 0))) := (o1.block _ (by simp) (by have := HLT.out; omega)).trans (heap_alloc_new _ _))
      | (go_at_call 32; refine (ending_any _ _ _).mono ?_; rintro e2 w2 ⟨rfl, b2⟩; have O2 : Hid (Only b w w2) := Only.trans (by first | exact Hid.out (by assumption) | exact Only.alloc (Hid.out (by assumption)) _) (only_of_below b2); have MM2 : Hid (MpAt Nm.kv4 Nm.ok4 w2 b (Nm.put x S.ss)) := M1.out.keep (by first | exact b2.block _ M1.out.block | exact (b2.block _ (by simp; have := M1.out.block; omega)).trans (heap_oldX _ _ M1.out.block)); have T3 : (w2.alloc (.cells #[.int .u8 0, .int .u8 0, .int .u8 0, .int .u8 0, .int .u8 0, .int .u8 0, .int .u8 0, .int .u8 0, .int .u8 0, .int .u8 0, .int .u8 0, .int .u8 0, .int .u8 0, .int .u8 0, .int .u8 0, .int .u8 0, .int .u8 0, .int .u8 0, .int .u8 0, .int .u8 0, .int .u8 0, .int .u8 0, .int .u8 0, .int .u8 0, .int .u8 0, .int .u8 0, .int .u8 0, .int .u8 0, .int .u8 0, .int .u8 0, .int .u8 0, .int .u8 0] 42)).there w2.heap.size 0 ((Nm.tg 0 (Nm.num x S.ss)).map (Value.int .u8)).length := sum_there (heap_alloc_new w2 (.cells (List.replicate 32 (Value.int .u8 0)).toArray 42)) HT.out; (try (have R2 : Hid (w2.heap[w.heap.size]? = some (.cells (List.replicate 32 (Value.int .u8 0)).toArray 42 (0, 0))) := (b2.block _ (lt_of_block R1.out)).trans R1.out; have T2 := sum_there R2.out HT.out)); (try (have R2 : Hid (w2.heap[w1.heap.size]? = some (.cells (List.replicate 32 (Value.int .u8 0)).toArray 42 (0, 0))) := (b2.block _ (by simp)).trans (heap_alloc_new _ _); have T2 := sum_there R2.out HT.out)))
      | (go_at_call 33; refine Calls.mono (rem_four S.ss x b _ ?_ HX.out (by omega)) ?_; exact HSS.out _ (heap_oldX w.drew _ HLT.out.2.1); rintro e1 w1 ⟨rfl, m1, o1⟩; have M1 := Lib.hid m1; have O1 : Hid (Only b w w1) := Only.trans (OW.out.alloc _) o1; have R1 : Hid (w1.heap[w.heap.size]? = some (.cells (List.replicate 32 (Value.int .u8 0)).toArray 42 (0, 0))) := (o1.block _ (by simp) (by have := HLT.out; omega)).trans (heap_alloc_new _ _)))
  case' _ =>
    have HZ : Hid ((w2.alloc (.cells #[.int .u8 0, .int .u8 0, .int .u8 0, .int .u8 0, .int .u8 0, .int .u8 0, .int .u8 0, .int .u8 0, .int .u8 0, .int .u8 0, .int .u8 0, .int .u8 0, .int .u8 0, .int .u8 0, .int .u8 0, .int .u8 0, .int .u8 0, .int .u8 0, .int .u8 0, .int .u8 0, .int .u8 0, .int .u8 0, .int .u8 0, .int .u8 0, .int .u8 0, .int .u8 0, .int .u8 0, .int .u8 0, .int .u8 0, .int .u8 0, .int .u8 0, .int .u8 0] 42)).heap[w2.heap.size]? = some (.cells (List.replicate 32 (Value.int .u8 0)).toArray 42 (0, 0))) := heap_alloc_new _ _
    have HG : Hid (w.heap.size ≤ w2.heap.size) := O2.out.size
    have HO : Hid (Only b w (w2.alloc (.cells #[.int .u8 0, .int .u8 0, .int .u8 0, .int .u8 0, .int .u8 0, .int .u8 0, .int .u8 0, .int .u8 0, .int .u8 0, .int .u8 0, .int .u8 0, .int .u8 0, .int .u8 0, .int .u8 0, .int .u8 0, .int .u8 0, .int .u8 0, .int .u8 0, .int .u8 0, .int .u8 0, .int .u8 0, .int .u8 0, .int .u8 0, .int .u8 0, .int .u8 0, .int .u8 0, .int .u8 0, .int .u8 0, .int .u8 0, .int .u8 0, .int .u8 0, .int .u8 0] 42))) := O2.out.alloc _
    have HMP : Hid (MpAt Nm.kv4 Nm.ok4 (w2.alloc (.cells #[.int .u8 0, .int .u8 0, .int .u8 0, .int .u8 0, .int .u8 0, .int .u8 0, .int .u8 0, .int .u8 0, .int .u8 0, .int .u8 0, .int .u8 0, .int .u8 0, .int .u8 0, .int .u8 0, .int .u8 0, .int .u8 0, .int .u8 0, .int .u8 0, .int .u8 0, .int .u8 0, .int .u8 0, .int .u8 0, .int .u8 0, .int .u8 0, .int .u8 0, .int .u8 0, .int .u8 0, .int .u8 0, .int .u8 0, .int .u8 0, .int .u8 0, .int .u8 0] 42)) b (Nm.put x S.ss)) := MM2.out.keep (heap_oldX _ _ MM2.out.block)
    clear T3
    generalize (w2.alloc (.cells #[.int .u8 0, .int .u8 0, .int .u8 0, .int .u8 0, .int .u8 0, .int .u8 0, .int .u8 0, .int .u8 0, .int .u8 0, .int .u8 0, .int .u8 0, .int .u8 0, .int .u8 0, .int .u8 0, .int .u8 0, .int .u8 0, .int .u8 0, .int .u8 0, .int .u8 0, .int .u8 0, .int .u8 0, .int .u8 0, .int .u8 0, .int .u8 0, .int .u8 0, .int .u8 0, .int .u8 0, .int .u8 0, .int .u8 0, .int .u8 0, .int .u8 0, .int .u8 0] 42)) = y at *
    generalize w2.heap.size = G at *
  rotate_left
  case' _ =>
    have HZ := Lib.hid R2.out
    have HG : Hid (w.heap.size ≤ w1.heap.size) := O1.out.size
    have HO := Lib.hid O2.out
    have HMP := Lib.hid MM2.out
    clear T3 T2 R2
    generalize w1.heap.size = G at *
    generalize w2 = y at *
  rotate_left
  case' _ =>
    obtain ⟨G, hGe⟩ : ∃ G, G = w.heap.size := ⟨_, rfl⟩
    have HZ : Hid (w2.heap[G]? = some (.cells (List.replicate 32 (Value.int .u8 0)).toArray 42 (0, 0))) := by rw [hGe]; exact R2.out
    have HG : Hid (w.heap.size ≤ G) := by show _ ≤ _; omega
    have HO := Lib.hid O2.out
    have HMP := Lib.hid MM2.out
    clear T3 T2 R2
    rw [← hGe]
    clear hGe
    generalize w2 = y at *
  rotate_left
  all_goals
    have RG := Lib.hid (heap2_same y G HZ.out (vs := ((Nm.tg 0 (Nm.num x S.ss)).map (Value.int .u8))) (by simp [HT.out]))
    have HO1 : Hid (Only b w (y.setCells G 0 ((Nm.tg 0 (Nm.num x S.ss)).map (Value.int .u8)))) := only_set HO.out HG.out
    have HM1 : Hid (MpAt Nm.kv4 Nm.ok4 (y.setCells G 0 ((Nm.tg 0 (Nm.num x S.ss)).map (Value.int .u8))) b (Nm.put x S.ss)) := HMP.out.keep ((Chg.setCells G _ 0 y).block _ (by have := HLT.out; have := HG.out; omega))
    clear hone hsz1 HZ HO HMP HK HSS
    generalize (y.setCells G 0 ((Nm.tg 0 (Nm.num x S.ss)).map (Value.int .u8))) = z at *
    have BG : Hid (Bs z (some ⟨G, 0, none⟩) 32 (Nm.tg 0 (Nm.num x S.ss))) := bs_row (bat_row RG.out HTB.out) ⟨by rw [HT.out]; omega, by omega⟩
    have BP := Lib.hid (HB3.out _ HO1.out)
    clear RG HB3
    go_wp2_with (go_at_call 34; refine (concat_two pp (some ⟨G, 0, none⟩) np 32 cp 32 _ x.2.2.2 (Nm.tg 0 (Nm.num x S.ss)) HN.out.2 HT.out (by omega) _ (heap_alloc_new _ _) (BP.out.old ((Below.refl _ _).alloc (Nat.le_refl _) _)) (BG.out.old ((Below.refl _ _).alloc (Nat.le_refl _) _))).mono ?_; rintro e3 w3 ⟨v3, rfl, ho3, hb3⟩)
    go_ret
    have hb4 : Below z.heap.size z w3 := ((Below.refl _ z).alloc (Nat.le_refl _) _).trans (hb3.mono (by simp))
    refine HFIN.out _ _ (own_base ho3 (by have := HO1.out.size; simp; omega)) (HM1.out.old hb4) (HO1.out.trans (only_of_below hb4))
end Go.Proofs.Ytdmnlooghamngaa
