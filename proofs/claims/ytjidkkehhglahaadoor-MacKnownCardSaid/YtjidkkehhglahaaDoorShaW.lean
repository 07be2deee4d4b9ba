/-
  Contract: rillref01.words.
-/
import Derived.Test.YtjidkkehhglahaaDoorShaV
import Derived.Deep.RegionHeld3
import Derived.Deep.RegionLaw
namespace Go.Proofs.YtjidkkehhglahaaDoor
open Go.RowKit

theorem below_own' {B : Nat} {w wr w1 : World} {v : Value} {n : Nat} {xs : List Value} {o : Obj} {e : TypeId} (hB : Below B w wr) (hs : B ≤ wr.heap.size) (hown : wr.ownsRow B e 1 v n xs) (hg : (wr.alloc o).drew.grownBy w1 v.ownBlock) : Below B w w1 :=
  ((hB.alloc hs o).drew).grown hg (by show _ ≤ (wr.alloc o).heap.size; simp; omega) (fun j hj => (hown.lt j hj).1)
theorem u32_id (x : Int) (h : 0 ≤ x ∧ x < 4294967296) : IntKind.u32.wrap x = x := IntWalk.u32_in _ (by omega)
theorem be4_wrap (a b c d : Int) (ha : 0 ≤ a ∧ a ≤ 255) (hb : 0 ≤ b ∧ b ≤ 255) (hc : 0 ≤ c ∧ c ≤ 255) (hd : 0 ≤ d ∧ d ≤ 255) :
    bits .or .u32 (bits .or .u32 (bits .or .u32 (IntKind.u32.wrap (IntKind.u32.wrap a * 16777216)) (IntKind.u32.wrap (IntKind.u32.wrap b * 65536))) (IntKind.u32.wrap (IntKind.u32.wrap c * 256))) (IntKind.u32.wrap d) = Sha.be4 a b c d := by
  rw [u32_id a (by omega), u32_id b (by omega), u32_id c (by omega), u32_id d (by omega), u32_id (a * 16777216) (by omega), u32_id (b * 65536) (by omega), u32_id (c * 256) (by omega)]
  rfl
theorem u32_mod (x : Int) : IntKind.u32.wrap x = x % 4294967296 := by
  simp [IntKind.wrap, IntKind.signed, IntKind.bits]
theorem nw_wrap (a b c d : Int) : IntKind.u32.wrap (IntKind.u32.wrap (IntKind.u32.wrap (bits .xor .u32 (bits .xor .u32 (Sha.rr 17 a) (Sha.rr 19 a)) (a / 1024) + b) + bits .xor .u32 (bits .xor .u32 (Sha.rr 7 c) (Sha.rr 18 c)) (c / 8)) + d) = Sha.nw a b c d := by
  unfold Sha.nw Sha.g1 Sha.g0
  rw [u32_mod, u32_mod, u32_mod, Int.emod_add_emod, Int.add_assoc _ _ d, Int.emod_add_emod, ← Int.add_assoc]
/-- step_append_own, for one word laid just before. -/
theorem step_append_u32 {ops : Array Oper} {o : Oper} {a : Act} {K : Act → World → Prop} {Q : Exit → Act → World → Prop} {E : Prop} (w0 : World) (X : Int) 
    (s x : Operand) (base : Nat) (v : Value) (n : Nat) (l : List Int) (hg : o.guard = none) (hop : o.op = Op.call { callee := Callee.builtin Builtin.append, args := #[s, x], argTypes := #[53, 53] })
    (hs : a.eval s = v) (hx : a.eval x = .slice (some ⟨w0.heap.size, 0, none⟩) 1 1) (hown : w0.ownsRow base 33 1 v n (U32s l)) (hn : n ≤ 1000) (hb : base ≤ w0.heap.size)
    (hK : ∀ v' w', w'.ownsRow base 33 1 v' (n + 1) (U32s (l ++ [X])) → ((w0.alloc (.cells #[.int .u32 X] 33)).drew).grownBy w' v.ownBlock → K (a.put o.dst v') w') :
    if Region.wanted o (yielded ops a.tmps) = true then Oper.wp Tryd.prog o a (w0.alloc (.cells #[.int .u32 X] 33)).drew K Q else E := by
  obtain ⟨i0, hi, hz0, hz1, hz2⟩ := info_parts Tryd.info_u32
  refine step_append_own hg s x 53 hop base 33 i0 (.int .u32 0) 1 4 Tryd.underlying53 hi hz0 hz1 hz2 rfl (by decide) v n (U32s l) hs (hown.alloc _).drew ⟨w0.heap.size, 0, none⟩ 1 1 [.int .u32 X] hx rfl ?_ (u32_one X) (by unfold maxLen; omega) (by omega) (by show _ ≤ (w0.alloc _).heap.size; simp; omega) ?_
  · intro j u hj
    match j, hj with
    | 0, hj => simp at hj; subst hj; exact u32_cell w0 X 33 0 _ rfl
  · intro v' w' h1 h2
    rw [U32s_snoc] at h1
    exact hK v' w' h1 h2

set_option maxHeartbeats 1600000 in
set_option maxRecDepth 100000 in
theorem ref_words_any (b off cap : Nat) (r : Nat → Int) (w : World) (hb : b < w.heap.size) (hcap : 64 ≤ cap)
    (hc : ∀ j, j < 64 → w.cell? ⟨b, off + j, none⟩ = some (.int .u8 (r j))) (hr : ∀ i, i < 64 → 0 ≤ r i ∧ r i ≤ 255) :
    Calls Tryd.prog 44 #[.slice (some ⟨b, off, none⟩) 64 cap] w fun e w' =>
      ∃ g c, e = .returned (.slice (some ⟨g, 0, none⟩) 64 c) ∧ w'.ownsRow w.heap.size 33 1 (.slice (some ⟨g, 0, none⟩) 64 c) 64 (U32s (Sha.wl r 64)) ∧ Below w.heap.size w w' := by
  obtain ⟨i0, hi, hz0, hz1, hz2⟩ := info_parts Tryd.info_u32
  have Hc := Lib.hid hc; clear hc
  have Hr := Lib.hid hr; clear hr
  go_enter Tryd.func44, Tryd.ntmps44
  go_wp2
  go_loopw [3, 4] (fun v i wr => ∃ k : Nat, k ≤ 16 ∧ i = .int .i64 k ∧ Hid (wr.ownsRow w.heap.size 33 1 v k (U32s (Sha.wl r k))) ∧ Hid (Below w.heap.size w wr)) (fun _ i _ => 16 - (intOf i).toNat)
  case atStart => exact ⟨0, Nat.zero_le _, rfl, by rw [Sha.wl]; unfold U32s; exact World.ownsRow_nil _ _ _ _, Below.refl _ _⟩
  case round =>
    obtain ⟨k, hk, rfl, HO, HB⟩ := hrel
    by_cases hlt : k < 16
    · have c0 : wr.cell? ⟨b, off + 4 * k, none⟩ = some (.int .u8 (r (4 * k))) := (HB.out.cell hb).trans (Hc.out (4 * k) (by omega))
      have c1 : wr.cell? ⟨b, off + (4 * k + 1), none⟩ = some (.int .u8 (r (4 * k + 1))) := (HB.out.cell hb).trans (Hc.out (4 * k + 1) (by omega))
      have c2 : wr.cell? ⟨b, off + (4 * k + 2), none⟩ = some (.int .u8 (r (4 * k + 2))) := (HB.out.cell hb).trans (Hc.out (4 * k + 2) (by omega))
      have c3 : wr.cell? ⟨b, off + (4 * k + 3), none⟩ = some (.int .u8 (r (4 * k + 3))) := (HB.out.cell hb).trans (Hc.out (4 * k + 3) (by omega))
      obtain ⟨p0, q0⟩ := Hr.out (4 * k) (by omega)
      obtain ⟨p1, q1⟩ := Hr.out (4 * k + 1) (by omega)
      obtain ⟨p2, q2⟩ := Hr.out (4 * k + 2) (by omega)
      obtain ⟨p3, q3⟩ := Hr.out (4 * k + 3) (by omega)
      have hw0 : IntKind.i64.wrap (4 * (k : Int)) = 4 * (k : Int) := IntWalk.i64_in _ ⟨by omega, by omega⟩
      have hw1 : IntKind.i64.wrap (4 * (k : Int) + 1) = 4 * (k : Int) + 1 := IntWalk.i64_in _ ⟨by omega, by omega⟩
      have hw2 : IntKind.i64.wrap (4 * (k : Int) + 2) = 4 * (k : Int) + 2 := IntWalk.i64_in _ ⟨by omega, by omega⟩
      have hw3 : IntKind.i64.wrap (4 * (k : Int) + 3) = 4 * (k : Int) + 3 := IntWalk.i64_in _ ⟨by omega, by omega⟩
      have ht0 : (4 * (k : Int)).toNat = 4 * k := by omega
      have ht1 : (4 * (k : Int) + 1).toNat = 4 * k + 1 := by omega
      have ht2 : (4 * (k : Int) + 2).toNat = 4 * k + 2 := by omega
      have ht3 : (4 * (k : Int) + 3).toNat = 4 * k + 3 := by omega
      have hn0 : 0 ≤ 4 * (k : Int) := by omega
      have hn1 : 0 ≤ 4 * (k : Int) + 1 := by omega
      have hn2 : 0 ≤ 4 * (k : Int) + 2 := by omega
      have hn3 : 0 ≤ 4 * (k : Int) + 3 := by omega
      have hm0 : 4 * (k : Int) < 64 := by omega
      have hm1 : 4 * (k : Int) + 1 < 64 := by omega
      have hm2 : 4 * (k : Int) + 2 < 64 := by omega
      have hm3 : 4 * (k : Int) + 3 < 64 := by omega
      have d0 : wr.drew.cell? ⟨b, off + 4 * k, none⟩ = some (.int .u8 (r (4 * k))) := c0
      have d1 : wr.drew.cell? ⟨b, off + (4 * k + 1), none⟩ = some (.int .u8 (r (4 * k + 1))) := c1
      have d2 : wr.drew.cell? ⟨b, off + (4 * k + 2), none⟩ = some (.int .u8 (r (4 * k + 2))) := c2
      have d3 : wr.drew.cell? ⟨b, off + (4 * k + 3), none⟩ = some (.int .u8 (r (4 * k + 3))) := c3
      go_wp2
      clear d0 d1 d2 d3
      have hS : ∀ x, Below w.heap.size w x → x.cell? ⟨b, off + 4 * k, none⟩ = some (.int .u8 (r (4 * k))) ∧ x.cell? ⟨b, off + (4 * k + 1), none⟩ = some (.int .u8 (r (4 * k + 1))) ∧ x.cell? ⟨b, off + (4 * k + 2), none⟩ = some (.int .u8 (r (4 * k + 2))) ∧ x.cell? ⟨b, off + (4 * k + 3), none⟩ = some (.int .u8 (r (4 * k + 3))) :=
        fun x hx => ⟨(hx.cell hb).trans (Hc.out (4 * k) (by omega)), (hx.cell hb).trans (Hc.out (4 * k + 1) (by omega)), (hx.cell hb).trans (Hc.out (4 * k + 2) (by omega)), (hx.cell hb).trans (Hc.out (4 * k + 3) (by omega))⟩
      have HS := Lib.hid hS; clear hS c0 c1 c2 c3
      go_region_held3 (fun x : World => x.cell? ⟨b, off + 4 * k, none⟩ = some (.int .u8 (r (4 * k))) ∧ x.cell? ⟨b, off + (4 * k + 1), none⟩ = some (.int .u8 (r (4 * k + 1))) ∧ x.cell? ⟨b, off + (4 * k + 2), none⟩ = some (.int .u8 (r (4 * k + 2))) ∧ x.cell? ⟨b, off + (4 * k + 3), none⟩ = some (.int .u8 (r (4 * k + 3))))
        (first | exact HS.out _ HB.out.drew | exact HS.out _ (HB.out.alloc HB.out.size _).drew | exact HS.out _ (by assumption))
        ((first | ((with_reducible refine step_append_u32 wr _ (.tmp 14) (.tmp 48) w.heap.size u3 k (Sha.wl r k) ?_ ?_ ?_ ?_ HO.out ?_ ?_ ?_); (exact rfl); (exact rfl); (exact rfl); (exact rfl); omega; (exact HB.out.size); intro v' w1 hown' hgrow; have hb1 := below_own' HB.out HB.out.size HO.out hgrow)))
      rw [be4_wrap _ _ _ _ ⟨p0, q0⟩ ⟨p1, q1⟩ ⟨p2, q2⟩ ⟨p3, q3⟩, show Sha.wl r k ++ [Sha.be4 (r (4 * k)) (r (4 * k + 1)) (r (4 * k + 2)) (r (4 * k + 3))] = Sha.wl r (k + 1) by simp [Sha.wl, hlt]] at hown'
      clear hgrow HO HB HS
      go_wp2
      exact ⟨⟨k + 1, by omega, by go_num, hown', hb1⟩, by simp [intOf]; omega⟩
    · have E : k = 16 := by omega
      have hge : 16 ≤ k := by omega
      have HO2 : Hid (wr.ownsRow w.heap.size 33 1 u3 16 (U32s (Sha.wl r 16))) := by rw [← E]; exact HO.out
      clear E hlt HO
      go_wp2
      go_loopw [3, 5] (fun v i wr => ∃ j : Nat, j ≤ 48 ∧ i = .int .i64 ((j : Int) + 16) ∧ Hid (wr.ownsRow w.heap.size 33 1 v (16 + j) (U32s (Sha.wl r (16 + j)))) ∧ Hid (Below w.heap.size w wr)) (fun _ i _ => 64 - (intOf i).toNat)
      case atStart => exact ⟨0, by omega, rfl, HO2.out, HB.out⟩
      case round =>
        clear HO2 HB
        obtain ⟨j, hj, rfl, HO, HB⟩ := hrel
        obtain ⟨g, c, hv⟩ := own_some HO.out (by omega)
        rw [hv] at HO ⊢
        clear hv
        by_cases hlt : j < 48
        · obtain ⟨A0, hA0⟩ : ∃ A0, (Sha.wl r (16 + j)).getD (j + 14) 0 = A0 := ⟨_, rfl⟩
          obtain ⟨A1, hA1⟩ : ∃ A1, (Sha.wl r (16 + j)).getD (j + 9) 0 = A1 := ⟨_, rfl⟩
          obtain ⟨A2, hA2⟩ : ∃ A2, (Sha.wl r (16 + j)).getD (j + 1) 0 = A2 := ⟨_, rfl⟩
          obtain ⟨A3, hA3⟩ : ∃ A3, (Sha.wl r (16 + j)).getD j 0 = A3 := ⟨_, rfl⟩
          have c0 := u32_at HO.out (j + 14) (by omega)
          have c1 := u32_at HO.out (j + 9) (by omega)
          have c2 := u32_at HO.out (j + 1) (by omega)
          have c3 := u32_at HO.out j (by omega)
          have HN : Hid (Sha.wl r (16 + j) ++ [Sha.nw A0 A1 A2 A3] = Sha.wl r (16 + (j + 1))) := by
            show _ = _
            rw [Sha.wl_next r j, hA0, hA1, hA2, hA3]
          rw [hA0] at c0
          rw [hA1] at c1
          rw [hA2] at c2
          rw [hA3] at c3
          clear hA0 hA1 hA2 hA3
          have d1 : wr.drew.cell? ⟨g, j + 9, none⟩ = some (.int .u32 A1) := c1
          have d3 : wr.drew.cell? ⟨g, j, none⟩ = some (.int .u32 A3) := c3
          obtain ⟨L0, hL0⟩ : ∃ L0, Sha.wl r (16 + j) = L0 := ⟨_, rfl⟩
          rw [hL0] at HO HN
          clear hL0
          have hw7 : IntKind.i64.wrap ((j : Int) + 16 - 7) = (j : Int) + 9 := by rw [IntWalk.i64_in _ (by omega)]; omega
          have hw16 : IntKind.i64.wrap (j : Int) = (j : Int) := IntWalk.i64_in _ (by omega)
          have hn7 : 0 ≤ (j : Int) + 9 := by omega
          have hn16 : 0 ≤ (j : Int) := by omega
          have hm7 : (j : Int) + 9 < 16 + (j : Int) := by omega
          have hm16 : (j : Int) < 16 + (j : Int) := by omega
          have ht7 : ((j : Int) + 9).toNat = j + 9 := by omega
          have ht16 : ((j : Int)).toNat = j := by omega
          go_wp2_with (go_at_call 45; refine (rotr_any _ _ (by decide) _).mono ?_; rintro e w' ⟨rfl, rfl⟩)
          obtain ⟨V, hV⟩ : ∃ V, Hid (V = Value.slice (some ⟨g, 0, none⟩) (16 + j) c) := ⟨_, rfl⟩
          go_region_law ((with_reducible refine step_append_u32 wr _ (.tmp 80) (.tmp 96) w.heap.size (.slice (some ⟨g, 0, none⟩) (16 + j) c) (16 + j) L0 ?_ ?_ ?_ ?_ HO.out ?_ ?_ ?_); (exact rfl); (exact rfl); (exact rfl); (exact rfl); omega; (exact HB.out.size); intro v' w1 hown' hgrow; have hb1 := below_own' HB.out HB.out.size HO.out hgrow)
          all_goals
            rw [nw_wrap, HN.out] at hown'
            clear hgrow HO HB HN hV
            go_wp2
            exact ⟨⟨j + 1, by omega, by simp; omega, hown', hb1⟩, by simp [intOf]; omega⟩
        · have E : j = 48 := by omega
          subst E
          go_wp2
          go_ret
          exact ⟨g, c, rfl, HO.out, HB.out⟩

end Go.Proofs.YtjidkkehhglahaaDoor
