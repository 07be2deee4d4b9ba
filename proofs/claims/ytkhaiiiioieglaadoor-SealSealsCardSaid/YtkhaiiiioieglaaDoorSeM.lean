/-
  The law SealEither walked.
-/
import Derived.Test.YtkhaiiiioieglaaDoorSeK
namespace Go.Proofs.YtkhaiiiioieglaaDoor
open Go.RowKit

section
variable {P : Program} {md : Region.Mode} {ops : Array Oper} {Q : Exit → Act → World → Prop} {S : World → Prop}
/-- What its guard leaves out may be taken first, too. -/
theorem anyH_skip (i D : Nat) {fuel : Nat} {listed : Array Bool} {a : Act} {w : World} {op : Op} {T : TypeId} {ps : String} {af : Array Edge} {gd : Option (Nat × Bool)} (hS : S w) (ho : ops[i]? = some { dst := some D, op := op, type := T, pos := ps, after := af, guard := gd })
    (hs : Region.noSelect ops = true) (hf : Region.free md ops listed i = true) (hr : (Region.ready md ops listed).contains i = true)
    (hQ : ∀ c a w, Q (.panic c) (a.put (some D) undef) w → Q (.panic c) a w) (hw : Region.wanted { dst := some D, op := op, type := T, pos := ps, after := af, guard := gd } (yielded ops a.tmps) = false)
    (h : wpAnyH P md ops Q S fuel (listed.setIfInBounds i true) (a.put (some D) undef) w) : wpAnyH P md ops Q S (fuel + 1) listed a w :=
  wpAnyH_first ho (Region.noSelect_spec hs) hQ fuel listed a w (Region.free_spec ho hf) (by simpa using hr) (Or.inr ⟨hw, rfl⟩) hS h
end

/-- Rows of bytes that came in. -/
def BRows (w : World) (tp : Option Addr) (Rs : List (List Int)) : Prop :=
  0 < Rs.length → ∃ tb to, tp = some ⟨tb, to, none⟩ ∧ tb < w.heap.size ∧ ∀ r, r < Rs.length → ∃ p c, w.cell? ⟨tb, to + r, none⟩ = some (.slice p (Rs.getD r []).length c) ∧ Bs w p c (Rs.getD r [])

set_option maxHeartbeats 1000000 in
set_option maxRecDepth 100000 in
theorem copybytes_any (L : List Int) (p : Option Addr) (n cap : Nat) (hn : L.length = n) (hL : L.length ≤ 1000000) (w : World) (hp : BAt w p L) :
    Calls Tryd.prog 21 #[.slice p n cap] w fun e w' => ∃ v, e = .returned v ∧ w'.ownsRow w.heap.size 5 1 v n (U8s L) ∧ Below w.heap.size w w' := by
  subst hn
  obtain ⟨i0, hi, hz0, hz1, hz2⟩ := info_parts Tryd.info_u8
  have Hp := Lib.hid hp; clear hp
  go_enter Tryd.func21, Tryd.ntmps21
  go_wp2
  go_loopw [3, 4] (fun v i wr => ∃ k : Nat, k ≤ L.length ∧ i = .int .i64 k ∧ Hid (wr.ownsRow w.heap.size 5 1 v k (U8s (L.take k))) ∧ Hid (Below w.heap.size w wr)) (fun _ i _ => L.length - (intOf i).toNat)
  case atStart => exact ⟨0, Nat.zero_le _, rfl, by unfold U8s; exact World.ownsRow_nil _ _ _ _, Below.refl _ _⟩
  case round =>
    obtain ⟨k, hk, rfl, HO, HB⟩ := hrel
    by_cases hlt : k < L.length
    · obtain ⟨ab, ao, hpp, hcs⟩ := (Hp.out.old HB.out).2 (by omega)
      subst hpp
      have c0 := hcs k hlt
      clear hcs
      obtain ⟨x, hx⟩ : ∃ x, L.getD k 0 = x := ⟨_, rfl⟩
      rw [hx] at c0
      go_wp2_with (first
        | (at_builtin; refine wpList_append_own _ rfl _ _ 22 rfl w.heap.size 5 i0 (.int .u8 0) 1 1 Tryd.underlying22 hi hz0 hz1 hz2 rfl (by decide) _ _ _ rfl (HO.out.alloc _) ⟨wr.heap.size, 0, none⟩ 1 1 [.int .u8 x] rfl rfl (u8_cell _ _ _) (u8_one _) (by unfold maxLen; omega) (by omega) (by have := HB.out.size; simp; omega) ?_)
        | go_in)
      intro v' w1 hown' hgrow _
      have hb1 := below_own HB.out (HB.out.size) HO.out hgrow
      rw [U8s_snoc, ← hx, take_snoc L k hlt] at hown'
      clear hgrow HO HB
      go_wp2
      exact ⟨⟨k + 1, by omega, by go_num, hown', hb1⟩, by simp [intOf]; omega⟩
    · have E : k = L.length := by omega
      have HO2 : Hid (wr.ownsRow w.heap.size 5 1 u3 L.length (U8s L)) := by
        have := HO.out
        rw [E, List.take_length] at this
        exact this
      have hge : L.length ≤ k := by omega
      clear hlt HO E
      go_wp2
      go_ret
      exact ⟨_, rfl, HO2.out, HB.out⟩

set_option maxRecDepth 100000 in
/-- A box's digest. -/
theorem boxsum_any (hT : TakeSaid) (b : List Int) (vg : Value) (p : Option Addr) (n c : Nat) (hn : b.length = n) (hnl : n ≤ 1000000000) (w : World) (hb : Bs w p c b) (ht : Tab w 1) :
    Calls Tryd.prog 19 #[vg, .slice p n c] w (RowSay (Sha.dg b) w) := by
  have HT := Lib.hid hT; clear hT
  have Ht := Lib.hid ht; clear ht
  have Hb := Lib.hid hb; clear hb
  have hcc := Hb.out.cap
  rw [hn] at hcc
  have Hn := Lib.hid hn; clear hn
  have B0 : Hid (Below w.heap.size w (w.alloc (.cells (List.replicate 32 (Value.int .u8 0)).toArray 37))) := (Below.refl _ w).alloc (Nat.le_refl _) _
  have R0 : Hid ((w.alloc (.cells (List.replicate 32 (Value.int .u8 0)).toArray 37)).heap[w.heap.size]? = some (.cells (List.replicate 32 (Value.int .u8 0)).toArray 37 (0, 0))) := heap_alloc_new w _
  obtain ⟨A, HA1, HA2, HA3⟩ : ∃ A : Array Value, Hid (A = ((Sha.dg b).map (Value.int .u8)).toArray) ∧ Hid (A.size = 32) ∧ Hid (A.all (·.oneCell') = true) :=
    ⟨_, rfl, by show _ = _; simp [dg_len], all_oneCell_toArray (bytes_one _)⟩
  go_enter Tryd.func19, Tryd.ntmps19
  go_wp2_with (first
    | (go_at_call 33; refine (of_any'' HT.out b p n c Hn.out _ (fun g hg => (Hb.out.old B0.out).bat.bytes g hg) hcc.1 hcc.2 (by omega) (Ht.out.below B0.out Ht.out.lt)).mono ?_; rintro e w1 ⟨rfl, hb1⟩; rw [← HA1.out]; have B1 : Hid (Below w.heap.size w w1) := B0.out.trans (hb1.mono B0.out.size); have R1 := Lib.hid ((hb1.block _ (lt_of_block R0.out)).trans R0.out); clear hb1)
    | ((with_reducible refine row_store _ _ _ _ _ _ _ ?_ ?_ R1.out (row_size Tryd.sizeSum HA2) ?_ HA3.out ?_); (exact rfl); (exact rfl); (rw [HA2.out]; rfl); intro w6 G6 ch6))
  refine bodyPost_ret (results_cell_row rfl _ _ w.heap.size 37 A (0, 0) _ rfl G6.out Tryd.underlying37 rfl (row_size Tryd.sizeSum HA2)) rfl ⟨?_, ch6.below B1.out (Nat.le_refl _)⟩
  rw [HA1.out]

/-- What the rounds read. -/
def EiS (b tb k : Nat) (e n : Int) (ph : Option Addr) (nh ch : Nat) (p : Option Addr) (m c : Nat) (x : World) : Prop :=
  x.cell? ⟨b, 0, none⟩ = some (.int .i64 e) ∧ x.cell? ⟨b, 1, none⟩ = some (.int .i64 n) ∧ x.cell? ⟨b, 2, none⟩ = some (.slice ph nh ch) ∧ x.cell? ⟨tb, k, none⟩ = some (.slice p m c)

set_option maxHeartbeats 4000000 in
set_option maxRecDepth 100000 in
theorem either_short (hT : TakeSaid) (K h : List Int) (Rs : List (List Int)) (e n : Int) (p0 ph tp : Option Addr) (n0 nh n2 c0 ch c2 : Nat) (hK : K.length = n0) (hh : h.length = nh) (hL : Rs.length = n2) (l0 : n0 ≤ 4096) (lh : nh ≤ 4096)
    (w : World) (hb0 : Bs w p0 c0 K) (hbh : Bs w ph ch h) (hb1 : BRows w tp Rs) (ht : Tab w 1) :
    Calls Tryd.prog 7 #[.slice p0 n0 c0, .agg #[.int .i64 e, .int .i64 n, .slice ph nh ch], .slice tp n2 c2] w (YesSay w) := by
  have HT := Lib.hid hT; clear hT
  have Ht := Lib.hid ht; clear ht
  have H0 := Lib.hid hb0; clear hb0
  have HH := Lib.hid hbh; clear hbh
  have H1 := Lib.hid hb1; clear hb1
  have HLN := Lib.hid (And.intro hK (And.intro hh hL)); clear hK hh hL
  have B0 : Hid (Below w.heap.size w (w.alloc (wobj e n ph nh ch))) := (Below.refl _ w).alloc (Nat.le_refl _) _
  have HW0 : Hid (WAt (w.alloc (wobj e n ph nh ch)) w.heap.size e n ph nh ch) := what_new _ _ _ _ _ _
  have l0' : ¬ ((4096 : Int) < (n0 : Int)) := by omega
  have lh' : ¬ ((4096 : Int) < (nh : Int)) := by omega
  have HNEW : Hid (Calls Tryd.prog 10 #[.slice p0 n0 c0] (w.alloc (wobj e n ph nh ch)) (NewBox K (w.alloc (wobj e n ph nh ch)))) := newbox_any HT.out K p0 n0 c0 HLN.out.1 (by omega) _ (H0.out.old B0.out) (Ht.out.below B0.out Ht.out.lt)
  have hng := Tryd.noGuard
  go_enter Tryd.func7, Tryd.ntmps7
  go_upto_region 5 with (first
    | (go_at_call 10; refine HNEW.out.mono ?_; rintro e1 w1 ⟨g1, rfl, HG1, hb1⟩; have B1 : Hid (Below w.heap.size w w1) := B0.out.trans (hb1.mono B0.out.size); have HW1 := Lib.hid (HW0.out.old hb1); clear hb1 HNEW)
    | (go_at_call 21; refine (copybytes_any K p0 n0 c0 HLN.out.1 (by have := HLN.out.1; omega) _ (H0.out.old B1.out).bat).mono ?_; rintro e2 w2 ⟨v2, rfl, ho2, hb2⟩; obtain ⟨p2, d2, rfl, hbs2, _⟩ := own_bs ho2 H0.out.byt; have HBS2 := Lib.hid hbs2; have B2 : Hid (Below w.heap.size w w2) := B1.out.trans (hb2.mono B1.out.size); have HW2 := Lib.hid (HW1.out.old hb2); have HG2 : Hid (BoxAt w2 g1 K) := HG1.out.old hb2; clear hb2 ho2 hbs2)
    | (go_at_call 10; refine (newbox_any HT.out K p2 n0 d2 HLN.out.1 (by omega) _ HBS2.out (Ht.out.below B2.out Ht.out.lt)).mono ?_; rintro e3 w0 ⟨g2, rfl, GY, hb3⟩; have B3 : Hid (Below w.heap.size w w0) := B2.out.trans (hb3.mono B2.out.size); have HW3 := Lib.hid (HW2.out.old hb3); have GX : Hid (BoxAt w0 g1 K) := HG2.out.old hb3; clear hb3))
  clear HG2 HBS2 HW1 HW2 HG1 B1 B2 HW0 B0
  have HKN : Hid (∀ x, Below w0.heap.size w0 x → Calls Tryd.prog 8 #[] x (YesSay x)) := fun x hx => known_any HT.out x (Ht.out.below (B3.out.trans (hx.mono B3.out.size)) Ht.out.lt)
  have fin : ∀ x, Below w0.heap.size w0 x → Below w.heap.size w x := fun x hx => B3.out.trans (hx.mono B3.out.size)
  have Fin := Lib.hid fin; clear fin
  obtain ⟨b, hbe⟩ : ∃ b, b = w.heap.size := ⟨_, rfl⟩
  rw [← hbe] at HW3 ⊢
  clear hbe
  go_wp2
  go_loopw [9] (fun v9 wr => ∃ i : Nat, i ≤ 10 ∧ i ≤ n2 ∧ v9 = .int .i64 i ∧ Hid (Below w0.heap.size w0 wr)) (fun v9 _ => 10 - (intOf v9).toNat)
  case atStart => exact ⟨0, by omega, by omega, rfl, Below.refl _ _⟩
  case round =>
    obtain ⟨i, hi10, hi2, rfl, HB⟩ := hrel
    by_cases hlt : i < n2
    · by_cases h10 : i < 10
      · obtain ⟨tb, to, htp, htb, hrows⟩ := H1.out (by have := HLN.out.2.2; omega)
        subst htp
        obtain ⟨p, c, hcell, hbs⟩ := hrows i (by have := HLN.out.2.2; omega)
        generalize Rs.getD i [] = R at *
        have HBR : Hid (Bs w p c R) := hbs
        have HCE : Hid (∀ x, Below w0.heap.size w0 x → x.cell? ⟨tb, to + i, none⟩ = some (.slice p R.length c)) := fun x hx => ((Fin.out x hx).cell htb).trans hcell
        clear hrows hbs hcell htb
        obtain ⟨m, hm⟩ : ∃ m, R.length = m := ⟨_, rfl⟩
        rw [hm] at HCE
        have HM := Lib.hid hm; clear hm
        have hn0 : 0 ≤ (i : Int) := by omega
        have hn1 : (i : Int) < (n2 : Int) := by omega
        have h10' : (i : Int) < 10 := by omega
        have q0 := HCE.out _ HB.out
        by_cases hbig : (4096 : Int) < (m : Int)
        · go_wp2_with (go_at_call 8; refine (HKN.out _ HB.out).mono ?_; rintro e4 w4 ⟨rfl, hb4⟩)
          go_ret
          exact ⟨rfl, Fin.out _ (HB.out.trans (hb4.mono HB.out.size))⟩
        · have hm4 : m ≤ 4096 := by omega
          have HS : Hid (∀ x, Below w0.heap.size w0 x → EiS b tb (to + i) e n ph nh ch p m c x) := fun x hx => ⟨(HW3.out.old hx).c0, (HW3.out.old hx).c1, (HW3.out.old hx).c2, HCE.out x hx⟩
          have HTB : Hid (∀ x, Below w0.heap.size w0 x → Tab x 1) := fun x hx => Ht.out.below (Fin.out x hx) Ht.out.lt
          obtain ⟨A, HA⟩ : ∃ A, Hid (A = Seal.sl K e n h R) := ⟨_, rfl⟩
          have HAB : Hid (Sha.Byt A) := by show Sha.Byt A; rw [HA.out]; exact Seal.sl_byt _ _ _ _ _
          obtain ⟨ma, hma⟩ : ∃ ma, A.length = ma := ⟨_, rfl⟩
          have HMA := Lib.hid hma; clear hma
          have hmal : ma ≤ 5000 := by
            have h1 := HMA.out
            rw [HA.out] at h1
            cases hin : (inR e && inR n) with
            | false => rw [Seal.sl_bad hin] at h1; simp at h1; omega
            | true =>
              simp only [Bool.and_eq_true] at hin
              rw [Seal.sl_len hin.1 hin.2, HM.out] at h1
              omega
          have HSEAL : Hid (∀ g x, Below w0.heap.size w0 x → BoxAt x g K → Calls Tryd.prog 14 #[.pointer (some ⟨g, 0, none⟩), .int .i64 e, .int .i64 n, .slice ph nh ch, .slice p m c] x fun r x' => ∃ q cq, r = .returned (.slice q ma cq) ∧ Hid (Bs x' q cq A) ∧ Below x.heap.size x x') := fun g x hx hg => by
            refine (seal_any HT.out K h R g e n ph p nh m ch c HLN.out.2.1 HM.out x hg (HH.out.old (Fin.out x hx)) (HBR.out.old (Fin.out x hx)) (by omega) (HTB.out x hx)).mono ?_
            rw [← HA.out]
            rintro r x' ⟨q, cq, mq, rfl, hq, _, hbq, hb⟩
            obtain rfl : ma = mq := HMA.out.symm.trans hq
            exact ⟨q, cq, rfl, hbq, hb⟩
          have HOP0 : Hid (∀ x, Below w0.heap.size w0 x → Calls Tryd.prog 15 #[.pointer (some ⟨g2, 0, none⟩), .int .i64 i, .int .i64 i, .slice none 0 0, .slice p m c] x fun r x' => ∃ q cq mq o, r = .returned (.tuple #[.slice q mq cq, .bool o]) ∧ Below x.heap.size x x') := fun x hx => by
            refine (open_any HT.out K [] R g2 i i none p 0 m 0 c rfl HM.out x (GY.out.old hx) (bs_none x) (HBR.out.old (Fin.out x hx)) (by omega) (HTB.out x hx)).mono ?_
            rintro r x' ⟨q, cq, mq, rfl, _, _, _, hb⟩
            exact ⟨q, cq, mq, _, rfl, hb⟩
          obtain ⟨ok, PL, mp, HOP1, hok1, hok0⟩ : ∃ ok PL mp, Hid (∀ x pa ca, Below w0.heap.size w0 x → Bs x pa ca A → Calls Tryd.prog 15 #[.pointer (some ⟨g2, 0, none⟩), .int .i64 e, .int .i64 n, .slice ph nh ch, .slice pa ma ca] x fun r x' => ∃ q cq, r = .returned (.tuple #[.slice q mp cq, .bool ok]) ∧ Hid (Bs x' q cq PL) ∧ Below x.heap.size x x') ∧ (ok = true → R = PL ∧ m = mp ∧ 0 < ma) ∧ (ok = false → ma = 0) := by
            have base : ∀ x pa ca, Below w0.heap.size w0 x → Bs x pa ca A → Calls Tryd.prog 15 #[.pointer (some ⟨g2, 0, none⟩), .int .i64 e, .int .i64 n, .slice ph nh ch, .slice pa ma ca] x (OpenSay (Seal.op K e n h A) x) := fun x pa ca hx hpa =>
              open_any HT.out K h A g2 e n ph pa nh ma ch ca HLN.out.2.1 HMA.out x (GY.out.old hx) (HH.out.old (Fin.out x hx)) hpa (by omega) (HTB.out x hx)
            have h1 := HMA.out
            cases hin : (inR e && inR n) with
            | false =>
              rw [HA.out, Seal.sl_bad hin] at h1
              refine ⟨false, [], 0, fun x pa ca hx hpa => ?_, (fun h => by cases h), (fun _ => by simpa using h1.symm)⟩
              have h2 := base x pa ca hx hpa
              rw [Seal.op_bad hin] at h2
              refine h2.mono ?_
              rintro r x' ⟨q, cq, mq, rfl, hq, _, hbq, hb⟩
              obtain rfl : mq = 0 := hq.symm
              exact ⟨q, cq, rfl, hbq, hb⟩
            | true =>
              simp only [Bool.and_eq_true] at hin
              rw [HA.out, Seal.sl_len hin.1 hin.2] at h1
              refine ⟨true, R, m, fun x pa ca hx hpa => ?_, (fun _ => ⟨rfl, rfl, by omega⟩), (fun h => by cases h)⟩
              have h2 := base x pa ca hx hpa
              rw [HA.out, Seal.op_sl hin.1 hin.2 _ _ _ HBR.out.byt] at h2
              refine h2.mono ?_
              rintro r x' ⟨q, cq, mq, rfl, hq, _, hbq, hb⟩
              obtain rfl : mq = m := hq.symm.trans HM.out
              exact ⟨q, cq, rfl, hbq, hb⟩
          have HSP : Hid (∀ x q cq, Below w0.heap.size w0 x → Bs x q cq R → Calls Tryd.prog 17 #[.slice q m cq, .slice p m c] x (YesSay x)) := fun x q cq hx hq => same_any R q p m m cq c HM.out HM.out x hq.bat (HBR.out.old (Fin.out x hx)).bat (by have := HM.out; omega)
          have HSUM : Hid (∀ g x, Below w0.heap.size w0 x → Calls Tryd.prog 19 #[.pointer (some ⟨g, 0, none⟩), .slice p m c] x (RowSay (Sha.dg R) x)) := fun g x hx => boxsum_any HT.out R _ p m c HM.out (by omega) x (HBR.out.old (Fin.out x hx)) (HTB.out x hx)
          obtain ⟨AS, HAS⟩ : ∃ A : Array Value, Hid (A = ((Sha.dg R).map (Value.int .u8)).toArray) := ⟨_, rfl⟩
          have HEQ : ∀ w, (Op.equalIn 10000 37 (.agg AS) (.agg AS)).run Tryd.prog w = .ok true w := fun w => by rw [HAS.out]; exact sum_same _ (dg_len _) w
          clear HKN HA HAB H1 HH H0 HLN HTB HCE
          go_upto_region 10 with (fail)
          refine wp_region_any (by kernel_rfl) ?_
          change wpAny _ _ _ _ _ _ _ (World.drew _)
          have BD : Hid (Below w0.heap.size w0 wr.drew) := HB.out.drew
          have GD : Hid (BoxAt wr.drew g1 K) := GX.out.old BD.out
          generalize wr.drew = z at *
          have TD := HS.out _ BD.out
          refine wpAny_of_held (S := EiS b tb (to + i) e n ph nh ch p m c) _ _ _ _ ?_
          refine anyH_take 0 46 (.pointer (some ⟨g1, 0, none⟩)) TD rfl (by kernel_rfl) (by kernel_rfl) (by kernel_rfl) (fun _ _ _ h => h) (by rfl) (by intro x hx; obtain ⟨y0, y1, y2, y3⟩ := hx; go_simp; try (intro h; omega)) ?_
          try simp only [Act.put, List.setIfInBounds_toArray, List.set_cons_zero, List.set_cons_succ]
          refine anyH_take 1 47 (.pointer (some ⟨b, 0, none⟩)) TD rfl (by kernel_rfl) (by kernel_rfl) (by kernel_rfl) (fun _ _ _ h => h) (by rfl) (by intro x hx; obtain ⟨y0, y1, y2, y3⟩ := hx; go_simp; try (intro h; omega)) ?_
          try simp only [Act.put, List.setIfInBounds_toArray, List.set_cons_zero, List.set_cons_succ]
          refine anyH_take 2 48 (.int .i64 e) TD rfl (by kernel_rfl) (by kernel_rfl) (by kernel_rfl) (fun _ _ _ h => h) (by rfl) (by intro x hx; obtain ⟨y0, y1, y2, y3⟩ := hx; go_simp; try (intro h; omega)) ?_
          try simp only [Act.put, List.setIfInBounds_toArray, List.set_cons_zero, List.set_cons_succ]
          refine anyH_take 3 49 (.pointer (some ⟨b, 1, none⟩)) TD rfl (by kernel_rfl) (by kernel_rfl) (by kernel_rfl) (fun _ _ _ h => h) (by rfl) (by intro x hx; obtain ⟨y0, y1, y2, y3⟩ := hx; go_simp; try (intro h; omega)) ?_
          try simp only [Act.put, List.setIfInBounds_toArray, List.set_cons_zero, List.set_cons_succ]
          refine anyH_take 4 50 (.int .i64 n) TD rfl (by kernel_rfl) (by kernel_rfl) (by kernel_rfl) (fun _ _ _ h => h) (by rfl) (by intro x hx; obtain ⟨y0, y1, y2, y3⟩ := hx; go_simp; try (intro h; omega)) ?_
          try simp only [Act.put, List.setIfInBounds_toArray, List.set_cons_zero, List.set_cons_succ]
          refine anyH_take 5 51 (.pointer (some ⟨b, 2, none⟩)) TD rfl (by kernel_rfl) (by kernel_rfl) (by kernel_rfl) (fun _ _ _ h => h) (by rfl) (by intro x hx; obtain ⟨y0, y1, y2, y3⟩ := hx; go_simp; try (intro h; omega)) ?_
          try simp only [Act.put, List.setIfInBounds_toArray, List.set_cons_zero, List.set_cons_succ]
          refine anyH_take 6 52 (.slice ph nh ch) TD rfl (by kernel_rfl) (by kernel_rfl) (by kernel_rfl) (fun _ _ _ h => h) (by rfl) (by intro x hx; obtain ⟨y0, y1, y2, y3⟩ := hx; go_simp; try (intro h; omega)) ?_
          try simp only [Act.put, List.setIfInBounds_toArray, List.set_cons_zero, List.set_cons_succ]
          refine anyH_take 7 53 (.slice (some ⟨tb, to, none⟩) n2 c2) TD rfl (by kernel_rfl) (by kernel_rfl) (by kernel_rfl) (fun _ _ _ h => h) (by rfl) (by intro x hx; obtain ⟨y0, y1, y2, y3⟩ := hx; go_simp; try (intro h; omega)) ?_
          try simp only [Act.put, List.setIfInBounds_toArray, List.set_cons_zero, List.set_cons_succ]
          refine anyH_take 8 54 (.int .i64 i) TD rfl (by kernel_rfl) (by kernel_rfl) (by kernel_rfl) (fun _ _ _ h => h) (by rfl) (by intro x hx; obtain ⟨y0, y1, y2, y3⟩ := hx; go_simp; try (intro h; omega)) ?_
          try simp only [Act.put, List.setIfInBounds_toArray, List.set_cons_zero, List.set_cons_succ]
          refine anyH_take 9 55 (.pointer (some ⟨tb, to + i, none⟩)) TD rfl (by kernel_rfl) (by kernel_rfl) (by kernel_rfl) (fun _ _ _ h => h) (by rfl) (by intro x hx; obtain ⟨y0, y1, y2, y3⟩ := hx; go_simp; try (intro h; omega)) ?_
          try simp only [Act.put, List.setIfInBounds_toArray, List.set_cons_zero, List.set_cons_succ]
          refine anyH_take 10 56 (.slice p m c) TD rfl (by kernel_rfl) (by kernel_rfl) (by kernel_rfl) (fun _ _ _ h => h) (by rfl) (by intro x hx; obtain ⟨y0, y1, y2, y3⟩ := hx; go_simp; try (intro h; omega)) ?_
          try simp only [Act.put, List.setIfInBounds_toArray, List.set_cons_zero, List.set_cons_succ]
          refine anyH_one 11 (by kernel_rfl) ?_
          refine wpOp_step rfl (fun Kc hKc => ?_)
          go_simp
          refine (HSEAL.out _ _ BD.out GD.out).mono ?_
          rintro e9 w3 ⟨pa, ca, rfl, A1, hb9⟩
          have B3' : Hid (Below w0.heap.size w0 w3) := BD.out.trans (hb9.mono BD.out.size)
          have TE := HS.out _ B3'.out
          dsimp only
          refine hKc _ _ ⟨TE, ?_⟩
          clear hKc Kc
          try simp only [Act.put, List.setIfInBounds_toArray, List.set_cons_zero, List.set_cons_succ]
          refine anyH_take 12 10 (.slice pa ma ca) TE rfl (by kernel_rfl) (by kernel_rfl) (by kernel_rfl) (fun _ _ _ h => h) (by rfl) (by intro x hx; obtain ⟨y0, y1, y2, y3⟩ := hx; go_simp; try (intro h; omega)) ?_
          try simp only [Act.put, List.setIfInBounds_toArray, List.set_cons_zero, List.set_cons_succ]
          refine anyH_done (by kernel_rfl) ?_ _
          clear TE TD BD GD hb9
          have q3 := HS.out _ B3'.out
          obtain ⟨q30, q31, q32, q33⟩ := q3
          go_upto_region 12 with (go_at_call 15; refine (HOP0.out _ B3'.out).mono ?_; rintro e5 w4 ⟨_, _, _, _, rfl, hb5⟩; have B4 : Hid (Below w0.heap.size w0 w4) := B3'.out.trans (hb5.mono B3'.out.size); have A4 : Hid (Bs w4 pa ca A) := A1.out.old hb5; have GY4 : Hid (BoxAt w4 g2 K) := GY.out.old B4.out; clear hb5)
          refine wp_region_any (by kernel_rfl) ?_
          change wpAny _ _ _ _ _ _ _ (World.drew _)
          have BD : Hid (Below w0.heap.size w0 w4.drew) := B4.out.drew
          have GD : Hid (BoxAt w4.drew g2 K) := GY4.out.old (Below.refl _ w4).drew
          have KD0 : Hid (Bs w4.drew pa ca A) := A4.out.old (Below.refl _ w4).drew
          generalize w4.drew = z at *
          have TD := HS.out _ BD.out
          refine wpAny_of_held (S := EiS b tb (to + i) e n ph nh ch p m c) _ _ _ _ ?_
          refine anyH_take 0 66 (.pointer (some ⟨g2, 0, none⟩)) TD rfl (by kernel_rfl) (by kernel_rfl) (by kernel_rfl) (fun _ _ _ h => h) (by rfl) (by intro x hx; obtain ⟨y0, y1, y2, y3⟩ := hx; go_simp; try (intro h; omega)) ?_
          try simp only [Act.put, List.setIfInBounds_toArray, List.set_cons_zero, List.set_cons_succ]
          refine anyH_take 1 67 (.pointer (some ⟨b, 0, none⟩)) TD rfl (by kernel_rfl) (by kernel_rfl) (by kernel_rfl) (fun _ _ _ h => h) (by rfl) (by intro x hx; obtain ⟨y0, y1, y2, y3⟩ := hx; go_simp; try (intro h; omega)) ?_
          try simp only [Act.put, List.setIfInBounds_toArray, List.set_cons_zero, List.set_cons_succ]
          refine anyH_take 2 68 (.int .i64 e) TD rfl (by kernel_rfl) (by kernel_rfl) (by kernel_rfl) (fun _ _ _ h => h) (by rfl) (by intro x hx; obtain ⟨y0, y1, y2, y3⟩ := hx; go_simp; try (intro h; omega)) ?_
          try simp only [Act.put, List.setIfInBounds_toArray, List.set_cons_zero, List.set_cons_succ]
          refine anyH_take 3 69 (.pointer (some ⟨b, 1, none⟩)) TD rfl (by kernel_rfl) (by kernel_rfl) (by kernel_rfl) (fun _ _ _ h => h) (by rfl) (by intro x hx; obtain ⟨y0, y1, y2, y3⟩ := hx; go_simp; try (intro h; omega)) ?_
          try simp only [Act.put, List.setIfInBounds_toArray, List.set_cons_zero, List.set_cons_succ]
          refine anyH_take 4 70 (.int .i64 n) TD rfl (by kernel_rfl) (by kernel_rfl) (by kernel_rfl) (fun _ _ _ h => h) (by rfl) (by intro x hx; obtain ⟨y0, y1, y2, y3⟩ := hx; go_simp; try (intro h; omega)) ?_
          try simp only [Act.put, List.setIfInBounds_toArray, List.set_cons_zero, List.set_cons_succ]
          refine anyH_take 5 71 (.pointer (some ⟨b, 2, none⟩)) TD rfl (by kernel_rfl) (by kernel_rfl) (by kernel_rfl) (fun _ _ _ h => h) (by rfl) (by intro x hx; obtain ⟨y0, y1, y2, y3⟩ := hx; go_simp; try (intro h; omega)) ?_
          try simp only [Act.put, List.setIfInBounds_toArray, List.set_cons_zero, List.set_cons_succ]
          refine anyH_take 6 72 (.slice ph nh ch) TD rfl (by kernel_rfl) (by kernel_rfl) (by kernel_rfl) (fun _ _ _ h => h) (by rfl) (by intro x hx; obtain ⟨y0, y1, y2, y3⟩ := hx; go_simp; try (intro h; omega)) ?_
          try simp only [Act.put, List.setIfInBounds_toArray, List.set_cons_zero, List.set_cons_succ]
          refine anyH_take 7 73 (.slice (some ⟨tb, to, none⟩) n2 c2) TD rfl (by kernel_rfl) (by kernel_rfl) (by kernel_rfl) (fun _ _ _ h => h) (by rfl) (by intro x hx; obtain ⟨y0, y1, y2, y3⟩ := hx; go_simp; try (intro h; omega)) ?_
          try simp only [Act.put, List.setIfInBounds_toArray, List.set_cons_zero, List.set_cons_succ]
          refine anyH_take 8 74 (.int .i64 i) TD rfl (by kernel_rfl) (by kernel_rfl) (by kernel_rfl) (fun _ _ _ h => h) (by rfl) (by intro x hx; obtain ⟨y0, y1, y2, y3⟩ := hx; go_simp; try (intro h; omega)) ?_
          try simp only [Act.put, List.setIfInBounds_toArray, List.set_cons_zero, List.set_cons_succ]
          refine anyH_take 9 75 (.pointer (some ⟨tb, to + i, none⟩)) TD rfl (by kernel_rfl) (by kernel_rfl) (by kernel_rfl) (fun _ _ _ h => h) (by rfl) (by intro x hx; obtain ⟨y0, y1, y2, y3⟩ := hx; go_simp; try (intro h; omega)) ?_
          try simp only [Act.put, List.setIfInBounds_toArray, List.set_cons_zero, List.set_cons_succ]
          refine anyH_take 10 76 (.slice p m c) TD rfl (by kernel_rfl) (by kernel_rfl) (by kernel_rfl) (fun _ _ _ h => h) (by rfl) (by intro x hx; obtain ⟨y0, y1, y2, y3⟩ := hx; go_simp; try (intro h; omega)) ?_
          try simp only [Act.put, List.setIfInBounds_toArray, List.set_cons_zero, List.set_cons_succ]
          refine anyH_one 11 (by kernel_rfl) ?_
          refine wpOp_step rfl (fun Kc hKc => ?_)
          go_simp
          refine (HSEAL.out _ _ BD.out GD.out).mono ?_
          rintro e9 w5 ⟨pb, cb, rfl, C5, hb9⟩
          have B5 : Hid (Below w0.heap.size w0 w5) := BD.out.trans (hb9.mono BD.out.size)
          have TE := HS.out _ B5.out
          have A5 : Hid (Bs w5 pa ca A) := KD0.out.old hb9
          dsimp only
          refine hKc _ _ ⟨TE, ?_⟩
          clear hKc Kc
          try simp only [Act.put, List.setIfInBounds_toArray, List.set_cons_zero, List.set_cons_succ]
          refine anyH_take 12 11 (.slice pb ma cb) TE rfl (by kernel_rfl) (by kernel_rfl) (by kernel_rfl) (fun _ _ _ h => h) (by rfl) (by intro x hx; obtain ⟨y0, y1, y2, y3⟩ := hx; go_simp; try (intro h; omega)) ?_
          try simp only [Act.put, List.setIfInBounds_toArray, List.set_cons_zero, List.set_cons_succ]
          refine anyH_done (by kernel_rfl) ?_ _
          clear TE TD BD GD hb9
          have q5 := HS.out _ B5.out
          obtain ⟨q50, q51, q52, q53⟩ := q5
          go_upto_region 14 with (go_at_call 15; refine (HOP1.out _ _ _ B5.out A5.out).mono ?_; rintro e6 w6 ⟨pp, cp, rfl, P6, hb6⟩; have B6 : Hid (Below w0.heap.size w0 w6) := B5.out.trans (hb6.mono B5.out.size); have A6 : Hid (Bs w6 pa ca A) := A5.out.old hb6; have C6 : Hid (Bs w6 pb cb A) := C5.out.old hb6; clear hb6)
          clear q30 q31 q32 q33 q50 q51 q52 q53 A1 A5 C5 B5 B3'
          cases ok with
          | true =>
            obtain ⟨rfl, rfl, hma⟩ := hok1 rfl
            have hma' : (0 : Int) < (ma : Int) := by omega
            clear hok0 hma
            refine wp_region_any (by kernel_rfl) ?_
            change wpAny _ _ _ _ _ _ _ (World.drew _)
            have BD : Hid (Below w0.heap.size w0 w6.drew) := B6.out.drew
            have AD : Hid (Bs w6.drew pa ca A) := A6.out.old (Below.refl _ w6).drew
            have CD : Hid (Bs w6.drew pb cb A) := C6.out.old (Below.refl _ w6).drew
            have PD : Hid (Bs w6.drew pp cp R) := P6.out.old (Below.refl _ w6).drew
            generalize w6.drew = z at *
            have TD := HS.out _ BD.out
            refine wpAny_of_held (S := EiS b tb (to + i) e n ph nh ch p m c) _ _ _ _ ?_
            refine anyH_take 0 90 (.slice pa ma ca) TD rfl (by kernel_rfl) (by kernel_rfl) (by kernel_rfl) (fun _ _ _ h => h) (by rfl) (by intro x hx; obtain ⟨y0, y1, y2, y3⟩ := hx; go_simp; try (intro h; omega)) ?_
            try simp only [Act.put, List.setIfInBounds_toArray, List.set_cons_zero, List.set_cons_succ]
            refine anyH_take 1 91 (.slice pb ma cb) TD rfl (by kernel_rfl) (by kernel_rfl) (by kernel_rfl) (fun _ _ _ h => h) (by rfl) (by intro x hx; obtain ⟨y0, y1, y2, y3⟩ := hx; go_simp; try (intro h; omega)) ?_
            try simp only [Act.put, List.setIfInBounds_toArray, List.set_cons_zero, List.set_cons_succ]
            refine anyH_one 2 (by kernel_rfl) ?_
            refine wpOp_step rfl (fun Kc hKc => ?_)
            go_simp
            refine (same_any A pa pb ma ma ca cb HMA.out HMA.out _ AD.out.bat CD.out.bat (by have := HMA.out; omega)).mono ?_
            rintro e9 z2 ⟨rfl, hb9⟩
            have BE : Hid (Below w0.heap.size w0 z2) := BD.out.trans (hb9.mono BD.out.size)
            have PE : Hid (Bs z2 pp cp R) := PD.out.old hb9
            have TE := HS.out _ BE.out
            dsimp only
            refine hKc _ _ ⟨TE, ?_⟩
            clear hKc Kc
            try simp only [Act.put, List.setIfInBounds_toArray, List.set_cons_zero, List.set_cons_succ]
            clear TD BD AD CD PD hb9
            refine anyH_take 3 93 (.bool false) TE rfl (by kernel_rfl) (by kernel_rfl) (by kernel_rfl) (fun _ _ _ h => h) (by rfl) (by intro x hx; obtain ⟨y0, y1, y2, y3⟩ := hx; go_simp; try (intro h; omega)) ?_
            try simp only [Act.put, List.setIfInBounds_toArray, List.set_cons_zero, List.set_cons_succ]
            refine anyH_take 4 94 (.bool false) TE rfl (by kernel_rfl) (by kernel_rfl) (by kernel_rfl) (fun _ _ _ h => h) (by rfl) (by intro x hx; obtain ⟨y0, y1, y2, y3⟩ := hx; go_simp; try (intro h; omega)) ?_
            try simp only [Act.put, List.setIfInBounds_toArray, List.set_cons_zero, List.set_cons_succ]
            refine anyH_take 5 95 (.bool true) TE rfl (by kernel_rfl) (by kernel_rfl) (by kernel_rfl) (fun _ _ _ h => h) (by rfl) (by intro x hx; obtain ⟨y0, y1, y2, y3⟩ := hx; go_simp; try (intro h; omega)) ?_
            try simp only [Act.put, List.setIfInBounds_toArray, List.set_cons_zero, List.set_cons_succ]
            refine anyH_take 6 96 (.slice pa ma ca) TE rfl (by kernel_rfl) (by kernel_rfl) (by kernel_rfl) (fun _ _ _ h => h) (by rfl) (by intro x hx; obtain ⟨y0, y1, y2, y3⟩ := hx; go_simp; try (intro h; omega)) ?_
            try simp only [Act.put, List.setIfInBounds_toArray, List.set_cons_zero, List.set_cons_succ]
            refine anyH_take 7 97 (.int .i64 ma) TE rfl (by kernel_rfl) (by kernel_rfl) (by kernel_rfl) (fun _ _ _ h => h) (by rfl) (by intro x hx; obtain ⟨y0, y1, y2, y3⟩ := hx; go_simp; try (intro h; omega)) ?_
            try simp only [Act.put, List.setIfInBounds_toArray, List.set_cons_zero, List.set_cons_succ]
            refine anyH_take 8 98 (.bool true) TE rfl (by kernel_rfl) (by kernel_rfl) (by kernel_rfl) (fun _ _ _ h => h) (by rfl) (by intro x hx; obtain ⟨y0, y1, y2, y3⟩ := hx; go_simp; try (intro h; omega)) ?_
            try simp only [Act.put, List.setIfInBounds_toArray, List.set_cons_zero, List.set_cons_succ]
            refine anyH_take 9 99 (.bool false) TE rfl (by kernel_rfl) (by kernel_rfl) (by kernel_rfl) (fun _ _ _ h => h) (by rfl) (by intro x hx; obtain ⟨y0, y1, y2, y3⟩ := hx; go_simp; try (intro h; omega)) ?_
            try simp only [Act.put, List.setIfInBounds_toArray, List.set_cons_zero, List.set_cons_succ]
            refine anyH_take 10 100 (.bool false) TE rfl (by kernel_rfl) (by kernel_rfl) (by kernel_rfl) (fun _ _ _ h => h) (by rfl) (by intro x hx; obtain ⟨y0, y1, y2, y3⟩ := hx; go_simp; try (intro h; omega)) ?_
            try simp only [Act.put, List.setIfInBounds_toArray, List.set_cons_zero, List.set_cons_succ]
            refine anyH_take 11 101 (.bool false) TE rfl (by kernel_rfl) (by kernel_rfl) (by kernel_rfl) (fun _ _ _ h => h) (by rfl) (by intro x hx; obtain ⟨y0, y1, y2, y3⟩ := hx; go_simp; try (intro h; omega)) ?_
            try simp only [Act.put, List.setIfInBounds_toArray, List.set_cons_zero, List.set_cons_succ]
            refine anyH_take 12 102 (.bool true) TE rfl (by kernel_rfl) (by kernel_rfl) (by kernel_rfl) (fun _ _ _ h => h) (by rfl) (by intro x hx; obtain ⟨y0, y1, y2, y3⟩ := hx; go_simp; try (intro h; omega)) ?_
            try simp only [Act.put, List.setIfInBounds_toArray, List.set_cons_zero, List.set_cons_succ]
            refine anyH_take 13 103 (.bool true) TE rfl (by kernel_rfl) (by kernel_rfl) (by kernel_rfl) (fun _ _ _ h => h) (by rfl) (by intro x hx; obtain ⟨y0, y1, y2, y3⟩ := hx; go_simp; try (intro h; omega)) ?_
            try simp only [Act.put, List.setIfInBounds_toArray, List.set_cons_zero, List.set_cons_succ]
            refine anyH_take 14 104 (.slice pp m cp) TE rfl (by kernel_rfl) (by kernel_rfl) (by kernel_rfl) (fun _ _ _ h => h) (by rfl) (by intro x hx; obtain ⟨y0, y1, y2, y3⟩ := hx; go_simp; try (intro h; omega)) ?_
            try simp only [Act.put, List.setIfInBounds_toArray, List.set_cons_zero, List.set_cons_succ]
            refine anyH_take 15 105 (.slice (some ⟨tb, to, none⟩) n2 c2) TE rfl (by kernel_rfl) (by kernel_rfl) (by kernel_rfl) (fun _ _ _ h => h) (by rfl) (by intro x hx; obtain ⟨y0, y1, y2, y3⟩ := hx; go_simp; try (intro h; omega)) ?_
            try simp only [Act.put, List.setIfInBounds_toArray, List.set_cons_zero, List.set_cons_succ]
            refine anyH_take 16 106 (.int .i64 i) TE rfl (by kernel_rfl) (by kernel_rfl) (by kernel_rfl) (fun _ _ _ h => h) (by rfl) (by intro x hx; obtain ⟨y0, y1, y2, y3⟩ := hx; go_simp; try (intro h; omega)) ?_
            try simp only [Act.put, List.setIfInBounds_toArray, List.set_cons_zero, List.set_cons_succ]
            refine anyH_take 17 107 (.pointer (some ⟨tb, to + i, none⟩)) TE rfl (by kernel_rfl) (by kernel_rfl) (by kernel_rfl) (fun _ _ _ h => h) (by rfl) (by intro x hx; obtain ⟨y0, y1, y2, y3⟩ := hx; go_simp; try (intro h; omega)) ?_
            try simp only [Act.put, List.setIfInBounds_toArray, List.set_cons_zero, List.set_cons_succ]
            refine anyH_take 18 108 (.slice p m c) TE rfl (by kernel_rfl) (by kernel_rfl) (by kernel_rfl) (fun _ _ _ h => h) (by rfl) (by intro x hx; obtain ⟨y0, y1, y2, y3⟩ := hx; go_simp; try (intro h; omega)) ?_
            try simp only [Act.put, List.setIfInBounds_toArray, List.set_cons_zero, List.set_cons_succ]
            refine anyH_one 19 (by kernel_rfl) ?_
            refine wpOp_step rfl (fun Kc hKc => ?_)
            go_simp
            refine (HSP.out _ _ _ BE.out PE.out).mono ?_
            rintro e9 z3 ⟨rfl, hb9⟩
            have BF : Hid (Below w0.heap.size w0 z3) := BE.out.trans (hb9.mono BE.out.size)
            have TF := HS.out _ BF.out
            dsimp only
            refine hKc _ _ ⟨TF, ?_⟩
            clear hKc Kc
            try simp only [Act.put, List.setIfInBounds_toArray, List.set_cons_zero, List.set_cons_succ]
            clear TE BE PE hb9
            refine anyH_take 20 110 (.bool false) TF rfl (by kernel_rfl) (by kernel_rfl) (by kernel_rfl) (fun _ _ _ h => h) (by rfl) (by intro x hx; obtain ⟨y0, y1, y2, y3⟩ := hx; go_simp; try (intro h; omega)) ?_
            try simp only [Act.put, List.setIfInBounds_toArray, List.set_cons_zero, List.set_cons_succ]
            refine anyH_take 21 111 (.bool false) TF rfl (by kernel_rfl) (by kernel_rfl) (by kernel_rfl) (fun _ _ _ h => h) (by rfl) (by intro x hx; obtain ⟨y0, y1, y2, y3⟩ := hx; go_simp; try (intro h; omega)) ?_
            try simp only [Act.put, List.setIfInBounds_toArray, List.set_cons_zero, List.set_cons_succ]
            refine anyH_take 22 112 (.bool false) TF rfl (by kernel_rfl) (by kernel_rfl) (by kernel_rfl) (fun _ _ _ h => h) (by rfl) (by intro x hx; obtain ⟨y0, y1, y2, y3⟩ := hx; go_simp; try (intro h; omega)) ?_
            try simp only [Act.put, List.setIfInBounds_toArray, List.set_cons_zero, List.set_cons_succ]
            refine anyH_take 23 113 (.bool false) TF rfl (by kernel_rfl) (by kernel_rfl) (by kernel_rfl) (fun _ _ _ h => h) (by rfl) (by intro x hx; obtain ⟨y0, y1, y2, y3⟩ := hx; go_simp; try (intro h; omega)) ?_
            try simp only [Act.put, List.setIfInBounds_toArray, List.set_cons_zero, List.set_cons_succ]
            refine anyH_take 24 114 (.pointer (some ⟨g1, 0, none⟩)) TF rfl (by kernel_rfl) (by kernel_rfl) (by kernel_rfl) (fun _ _ _ h => h) (by rfl) (by intro x hx; obtain ⟨y0, y1, y2, y3⟩ := hx; go_simp; try (intro h; omega)) ?_
            try simp only [Act.put, List.setIfInBounds_toArray, List.set_cons_zero, List.set_cons_succ]
            refine anyH_take 25 115 (.slice (some ⟨tb, to, none⟩) n2 c2) TF rfl (by kernel_rfl) (by kernel_rfl) (by kernel_rfl) (fun _ _ _ h => h) (by rfl) (by intro x hx; obtain ⟨y0, y1, y2, y3⟩ := hx; go_simp; try (intro h; omega)) ?_
            try simp only [Act.put, List.setIfInBounds_toArray, List.set_cons_zero, List.set_cons_succ]
            refine anyH_take 26 116 (.int .i64 i) TF rfl (by kernel_rfl) (by kernel_rfl) (by kernel_rfl) (fun _ _ _ h => h) (by rfl) (by intro x hx; obtain ⟨y0, y1, y2, y3⟩ := hx; go_simp; try (intro h; omega)) ?_
            try simp only [Act.put, List.setIfInBounds_toArray, List.set_cons_zero, List.set_cons_succ]
            refine anyH_take 27 117 (.pointer (some ⟨tb, to + i, none⟩)) TF rfl (by kernel_rfl) (by kernel_rfl) (by kernel_rfl) (fun _ _ _ h => h) (by rfl) (by intro x hx; obtain ⟨y0, y1, y2, y3⟩ := hx; go_simp; try (intro h; omega)) ?_
            try simp only [Act.put, List.setIfInBounds_toArray, List.set_cons_zero, List.set_cons_succ]
            refine anyH_take 28 118 (.slice p m c) TF rfl (by kernel_rfl) (by kernel_rfl) (by kernel_rfl) (fun _ _ _ h => h) (by rfl) (by intro x hx; obtain ⟨y0, y1, y2, y3⟩ := hx; go_simp; try (intro h; omega)) ?_
            try simp only [Act.put, List.setIfInBounds_toArray, List.set_cons_zero, List.set_cons_succ]
            refine anyH_take 30 120 (.pointer (some ⟨g2, 0, none⟩)) TF rfl (by kernel_rfl) (by kernel_rfl) (by kernel_rfl) (fun _ _ _ h => h) (by rfl) (by intro x hx; obtain ⟨y0, y1, y2, y3⟩ := hx; go_simp; try (intro h; omega)) ?_
            try simp only [Act.put, List.setIfInBounds_toArray, List.set_cons_zero, List.set_cons_succ]
            refine anyH_take 31 121 (.slice (some ⟨tb, to, none⟩) n2 c2) TF rfl (by kernel_rfl) (by kernel_rfl) (by kernel_rfl) (fun _ _ _ h => h) (by rfl) (by intro x hx; obtain ⟨y0, y1, y2, y3⟩ := hx; go_simp; try (intro h; omega)) ?_
            try simp only [Act.put, List.setIfInBounds_toArray, List.set_cons_zero, List.set_cons_succ]
            refine anyH_take 32 122 (.int .i64 i) TF rfl (by kernel_rfl) (by kernel_rfl) (by kernel_rfl) (fun _ _ _ h => h) (by rfl) (by intro x hx; obtain ⟨y0, y1, y2, y3⟩ := hx; go_simp; try (intro h; omega)) ?_
            try simp only [Act.put, List.setIfInBounds_toArray, List.set_cons_zero, List.set_cons_succ]
            refine anyH_take 33 123 (.pointer (some ⟨tb, to + i, none⟩)) TF rfl (by kernel_rfl) (by kernel_rfl) (by kernel_rfl) (fun _ _ _ h => h) (by rfl) (by intro x hx; obtain ⟨y0, y1, y2, y3⟩ := hx; go_simp; try (intro h; omega)) ?_
            try simp only [Act.put, List.setIfInBounds_toArray, List.set_cons_zero, List.set_cons_succ]
            refine anyH_take 34 124 (.slice p m c) TF rfl (by kernel_rfl) (by kernel_rfl) (by kernel_rfl) (fun _ _ _ h => h) (by rfl) (by intro x hx; obtain ⟨y0, y1, y2, y3⟩ := hx; go_simp; try (intro h; omega)) ?_
            try simp only [Act.put, List.setIfInBounds_toArray, List.set_cons_zero, List.set_cons_succ]
            refine anyH_one 29 (by kernel_rfl) ?_
            refine wpOp_step rfl (fun Kc hKc => ?_)
            go_simp
            refine (HSUM.out _ _ BF.out).mono ?_
            rintro e9 z4 ⟨rfl, hb9⟩
            rw [← HAS.out]
            have BG : Hid (Below w0.heap.size w0 z4) := BF.out.trans (hb9.mono BF.out.size)
            have TG := HS.out _ BG.out
            dsimp only
            refine hKc _ _ ⟨TG, ?_⟩
            clear hKc Kc
            try simp only [Act.put, List.setIfInBounds_toArray, List.set_cons_zero, List.set_cons_succ]
            clear TF BF hb9
            refine anyH_one 35 (by kernel_rfl) ?_
            refine wpOp_step rfl (fun Kc hKc => ?_)
            go_simp
            refine (HSUM.out _ _ BG.out).mono ?_
            rintro e9 z5 ⟨rfl, hb9⟩
            rw [← HAS.out]
            have BH : Hid (Below w0.heap.size w0 z5) := BG.out.trans (hb9.mono BG.out.size)
            have TH := HS.out _ BH.out
            dsimp only
            refine hKc _ _ ⟨TH, ?_⟩
            clear hKc Kc
            try simp only [Act.put, List.setIfInBounds_toArray, List.set_cons_zero, List.set_cons_succ]
            clear TG BG hb9
            refine anyH_take 36 126 (.bool false) TH rfl (by kernel_rfl) (by kernel_rfl) (by kernel_rfl) (fun _ _ _ h => h) (by rfl) (by intro x hx; obtain ⟨y0, y1, y2, y3⟩ := hx; go_simp; try (intro h; omega)) ?_
            try simp only [Act.put, List.setIfInBounds_toArray, List.set_cons_zero, List.set_cons_succ]
            refine anyH_take 37 127 (.bool false) TH rfl (by kernel_rfl) (by kernel_rfl) (by kernel_rfl) (fun _ _ _ h => h) (by rfl) (by intro x hx; obtain ⟨y0, y1, y2, y3⟩ := hx; go_simp; try (intro h; omega)) ?_
            try simp only [Act.put, List.setIfInBounds_toArray, List.set_cons_zero, List.set_cons_succ]
            refine anyH_done (by kernel_rfl) ?_ _
            go_wp2
            exact ⟨⟨i + 1, by omega, by omega, by go_num, BH.out⟩, by simp [intOf]; omega⟩
          | false =>
            have HM0 := Lib.hid (hok0 rfl)
            clear hok1 hok0
            refine wp_region_any (by kernel_rfl) ?_
            change wpAny _ _ _ _ _ _ _ (World.drew _)
            have BD : Hid (Below w0.heap.size w0 w6.drew) := B6.out.drew
            have AD : Hid (Bs w6.drew pa ca A) := A6.out.old (Below.refl _ w6).drew
            have CD : Hid (Bs w6.drew pb cb A) := C6.out.old (Below.refl _ w6).drew
            have PD : Hid (Bs w6.drew pp cp PL) := P6.out.old (Below.refl _ w6).drew
            generalize w6.drew = z at *
            have TD := HS.out _ BD.out
            refine wpAny_of_held (S := EiS b tb (to + i) e n ph nh ch p m c) _ _ _ _ ?_
            refine anyH_take 0 90 (.slice pa ma ca) TD rfl (by kernel_rfl) (by kernel_rfl) (by kernel_rfl) (fun _ _ _ h => h) (by rfl) (by intro x hx; obtain ⟨y0, y1, y2, y3⟩ := hx; go_simp; try (intro h; omega)) ?_
            try simp only [Act.put, List.setIfInBounds_toArray, List.set_cons_zero, List.set_cons_succ]
            refine anyH_take 1 91 (.slice pb ma cb) TD rfl (by kernel_rfl) (by kernel_rfl) (by kernel_rfl) (fun _ _ _ h => h) (by rfl) (by intro x hx; obtain ⟨y0, y1, y2, y3⟩ := hx; go_simp; try (intro h; omega)) ?_
            try simp only [Act.put, List.setIfInBounds_toArray, List.set_cons_zero, List.set_cons_succ]
            refine anyH_one 2 (by kernel_rfl) ?_
            refine wpOp_step rfl (fun Kc hKc => ?_)
            go_simp
            refine (same_any A pa pb ma ma ca cb HMA.out HMA.out _ AD.out.bat CD.out.bat (by have := HMA.out; omega)).mono ?_
            rintro e9 z2 ⟨rfl, hb9⟩
            have BE : Hid (Below w0.heap.size w0 z2) := BD.out.trans (hb9.mono BD.out.size)
            have PE : Hid (Bs z2 pp cp PL) := PD.out.old hb9
            have TE := HS.out _ BE.out
            dsimp only
            refine hKc _ _ ⟨TE, ?_⟩
            clear hKc Kc
            try simp only [Act.put, List.setIfInBounds_toArray, List.set_cons_zero, List.set_cons_succ]
            clear TD BD AD CD PD hb9
            refine anyH_take 3 93 (.bool false) TE rfl (by kernel_rfl) (by kernel_rfl) (by kernel_rfl) (fun _ _ _ h => h) (by rfl) (by intro x hx; obtain ⟨y0, y1, y2, y3⟩ := hx; go_simp; try (intro h; omega)) ?_
            try simp only [Act.put, List.setIfInBounds_toArray, List.set_cons_zero, List.set_cons_succ]
            refine anyH_take 4 94 (.bool false) TE rfl (by kernel_rfl) (by kernel_rfl) (by kernel_rfl) (fun _ _ _ h => h) (by rfl) (by intro x hx; obtain ⟨y0, y1, y2, y3⟩ := hx; go_simp; try (intro h; omega)) ?_
            try simp only [Act.put, List.setIfInBounds_toArray, List.set_cons_zero, List.set_cons_succ]
            refine anyH_take 5 95 (.bool false) TE rfl (by kernel_rfl) (by kernel_rfl) (by kernel_rfl) (fun _ _ _ h => h) (by rfl) (by intro x hx; obtain ⟨y0, y1, y2, y3⟩ := hx; go_simp; try (intro h; omega)) ?_
            try simp only [Act.put, List.setIfInBounds_toArray, List.set_cons_zero, List.set_cons_succ]
            refine anyH_take 6 96 (.slice pa ma ca) TE rfl (by kernel_rfl) (by kernel_rfl) (by kernel_rfl) (fun _ _ _ h => h) (by rfl) (by intro x hx; obtain ⟨y0, y1, y2, y3⟩ := hx; go_simp; try (intro h; omega)) ?_
            try simp only [Act.put, List.setIfInBounds_toArray, List.set_cons_zero, List.set_cons_succ]
            refine anyH_take 7 97 (.int .i64 ma) TE rfl (by kernel_rfl) (by kernel_rfl) (by kernel_rfl) (fun _ _ _ h => h) (by rfl) (by intro x hx; obtain ⟨y0, y1, y2, y3⟩ := hx; go_simp; try (intro h; omega)) ?_
            try simp only [Act.put, List.setIfInBounds_toArray, List.set_cons_zero, List.set_cons_succ]
            refine anyH_take 8 98 (.bool false) TE rfl (by kernel_rfl) (by kernel_rfl) (by kernel_rfl) (fun _ _ _ h => h) (by rfl) (by intro x hx; obtain ⟨y0, y1, y2, y3⟩ := hx; go_simp; exact HM0.out; try (intro h; omega)) ?_
            try simp only [Act.put, List.setIfInBounds_toArray, List.set_cons_zero, List.set_cons_succ]
            refine anyH_take 9 99 (.bool false) TE rfl (by kernel_rfl) (by kernel_rfl) (by kernel_rfl) (fun _ _ _ h => h) (by rfl) (by intro x hx; obtain ⟨y0, y1, y2, y3⟩ := hx; go_simp; try (intro h; omega)) ?_
            try simp only [Act.put, List.setIfInBounds_toArray, List.set_cons_zero, List.set_cons_succ]
            refine anyH_take 10 100 (.bool false) TE rfl (by kernel_rfl) (by kernel_rfl) (by kernel_rfl) (fun _ _ _ h => h) (by rfl) (by intro x hx; obtain ⟨y0, y1, y2, y3⟩ := hx; go_simp; try (intro h; omega)) ?_
            try simp only [Act.put, List.setIfInBounds_toArray, List.set_cons_zero, List.set_cons_succ]
            refine anyH_take 11 101 (.bool false) TE rfl (by kernel_rfl) (by kernel_rfl) (by kernel_rfl) (fun _ _ _ h => h) (by rfl) (by intro x hx; obtain ⟨y0, y1, y2, y3⟩ := hx; go_simp; try (intro h; omega)) ?_
            try simp only [Act.put, List.setIfInBounds_toArray, List.set_cons_zero, List.set_cons_succ]
            refine anyH_take 12 102 (.bool false) TE rfl (by kernel_rfl) (by kernel_rfl) (by kernel_rfl) (fun _ _ _ h => h) (by rfl) (by intro x hx; obtain ⟨y0, y1, y2, y3⟩ := hx; go_simp; try (intro h; omega)) ?_
            try simp only [Act.put, List.setIfInBounds_toArray, List.set_cons_zero, List.set_cons_succ]
            refine anyH_take 13 103 (.bool false) TE rfl (by kernel_rfl) (by kernel_rfl) (by kernel_rfl) (fun _ _ _ h => h) (by rfl) (by intro x hx; obtain ⟨y0, y1, y2, y3⟩ := hx; go_simp; try (intro h; omega)) ?_
            try simp only [Act.put, List.setIfInBounds_toArray, List.set_cons_zero, List.set_cons_succ]
            refine anyH_skip 14 104 TE rfl (by kernel_rfl) (by kernel_rfl) (by kernel_rfl) (fun _ _ _ h => h) (by rfl) ?_
            try simp only [Act.put, List.setIfInBounds_toArray, List.set_cons_zero, List.set_cons_succ]
            refine anyH_skip 15 105 TE rfl (by kernel_rfl) (by kernel_rfl) (by kernel_rfl) (fun _ _ _ h => h) (by rfl) ?_
            try simp only [Act.put, List.setIfInBounds_toArray, List.set_cons_zero, List.set_cons_succ]
            refine anyH_skip 16 106 TE rfl (by kernel_rfl) (by kernel_rfl) (by kernel_rfl) (fun _ _ _ h => h) (by rfl) ?_
            try simp only [Act.put, List.setIfInBounds_toArray, List.set_cons_zero, List.set_cons_succ]
            refine anyH_skip 17 107 TE rfl (by kernel_rfl) (by kernel_rfl) (by kernel_rfl) (fun _ _ _ h => h) (by rfl) ?_
            try simp only [Act.put, List.setIfInBounds_toArray, List.set_cons_zero, List.set_cons_succ]
            refine anyH_skip 18 108 TE rfl (by kernel_rfl) (by kernel_rfl) (by kernel_rfl) (fun _ _ _ h => h) (by rfl) ?_
            try simp only [Act.put, List.setIfInBounds_toArray, List.set_cons_zero, List.set_cons_succ]
            refine anyH_skip 19 109 TE rfl (by kernel_rfl) (by kernel_rfl) (by kernel_rfl) (fun _ _ _ h => h) (by rfl) ?_
            try simp only [Act.put, List.setIfInBounds_toArray, List.set_cons_zero, List.set_cons_succ]
            refine anyH_skip 20 110 TE rfl (by kernel_rfl) (by kernel_rfl) (by kernel_rfl) (fun _ _ _ h => h) (by rfl) ?_
            try simp only [Act.put, List.setIfInBounds_toArray, List.set_cons_zero, List.set_cons_succ]
            refine anyH_take 21 111 (.bool false) TE rfl (by kernel_rfl) (by kernel_rfl) (by kernel_rfl) (fun _ _ _ h => h) (by rfl) (by intro x hx; obtain ⟨y0, y1, y2, y3⟩ := hx; go_simp; try (intro h; omega)) ?_
            try simp only [Act.put, List.setIfInBounds_toArray, List.set_cons_zero, List.set_cons_succ]
            refine anyH_take 22 112 (.bool false) TE rfl (by kernel_rfl) (by kernel_rfl) (by kernel_rfl) (fun _ _ _ h => h) (by rfl) (by intro x hx; obtain ⟨y0, y1, y2, y3⟩ := hx; go_simp; try (intro h; omega)) ?_
            try simp only [Act.put, List.setIfInBounds_toArray, List.set_cons_zero, List.set_cons_succ]
            refine anyH_take 23 113 (.bool false) TE rfl (by kernel_rfl) (by kernel_rfl) (by kernel_rfl) (fun _ _ _ h => h) (by rfl) (by intro x hx; obtain ⟨y0, y1, y2, y3⟩ := hx; go_simp; try (intro h; omega)) ?_
            try simp only [Act.put, List.setIfInBounds_toArray, List.set_cons_zero, List.set_cons_succ]
            refine anyH_take 24 114 (.pointer (some ⟨g1, 0, none⟩)) TE rfl (by kernel_rfl) (by kernel_rfl) (by kernel_rfl) (fun _ _ _ h => h) (by rfl) (by intro x hx; obtain ⟨y0, y1, y2, y3⟩ := hx; go_simp; try (intro h; omega)) ?_
            try simp only [Act.put, List.setIfInBounds_toArray, List.set_cons_zero, List.set_cons_succ]
            refine anyH_take 25 115 (.slice (some ⟨tb, to, none⟩) n2 c2) TE rfl (by kernel_rfl) (by kernel_rfl) (by kernel_rfl) (fun _ _ _ h => h) (by rfl) (by intro x hx; obtain ⟨y0, y1, y2, y3⟩ := hx; go_simp; try (intro h; omega)) ?_
            try simp only [Act.put, List.setIfInBounds_toArray, List.set_cons_zero, List.set_cons_succ]
            refine anyH_take 26 116 (.int .i64 i) TE rfl (by kernel_rfl) (by kernel_rfl) (by kernel_rfl) (fun _ _ _ h => h) (by rfl) (by intro x hx; obtain ⟨y0, y1, y2, y3⟩ := hx; go_simp; try (intro h; omega)) ?_
            try simp only [Act.put, List.setIfInBounds_toArray, List.set_cons_zero, List.set_cons_succ]
            refine anyH_take 27 117 (.pointer (some ⟨tb, to + i, none⟩)) TE rfl (by kernel_rfl) (by kernel_rfl) (by kernel_rfl) (fun _ _ _ h => h) (by rfl) (by intro x hx; obtain ⟨y0, y1, y2, y3⟩ := hx; go_simp; try (intro h; omega)) ?_
            try simp only [Act.put, List.setIfInBounds_toArray, List.set_cons_zero, List.set_cons_succ]
            refine anyH_take 28 118 (.slice p m c) TE rfl (by kernel_rfl) (by kernel_rfl) (by kernel_rfl) (fun _ _ _ h => h) (by rfl) (by intro x hx; obtain ⟨y0, y1, y2, y3⟩ := hx; go_simp; try (intro h; omega)) ?_
            try simp only [Act.put, List.setIfInBounds_toArray, List.set_cons_zero, List.set_cons_succ]
            refine anyH_take 30 120 (.pointer (some ⟨g2, 0, none⟩)) TE rfl (by kernel_rfl) (by kernel_rfl) (by kernel_rfl) (fun _ _ _ h => h) (by rfl) (by intro x hx; obtain ⟨y0, y1, y2, y3⟩ := hx; go_simp; try (intro h; omega)) ?_
            try simp only [Act.put, List.setIfInBounds_toArray, List.set_cons_zero, List.set_cons_succ]
            refine anyH_take 31 121 (.slice (some ⟨tb, to, none⟩) n2 c2) TE rfl (by kernel_rfl) (by kernel_rfl) (by kernel_rfl) (fun _ _ _ h => h) (by rfl) (by intro x hx; obtain ⟨y0, y1, y2, y3⟩ := hx; go_simp; try (intro h; omega)) ?_
            try simp only [Act.put, List.setIfInBounds_toArray, List.set_cons_zero, List.set_cons_succ]
            refine anyH_take 32 122 (.int .i64 i) TE rfl (by kernel_rfl) (by kernel_rfl) (by kernel_rfl) (fun _ _ _ h => h) (by rfl) (by intro x hx; obtain ⟨y0, y1, y2, y3⟩ := hx; go_simp; try (intro h; omega)) ?_
            try simp only [Act.put, List.setIfInBounds_toArray, List.set_cons_zero, List.set_cons_succ]
            refine anyH_take 33 123 (.pointer (some ⟨tb, to + i, none⟩)) TE rfl (by kernel_rfl) (by kernel_rfl) (by kernel_rfl) (fun _ _ _ h => h) (by rfl) (by intro x hx; obtain ⟨y0, y1, y2, y3⟩ := hx; go_simp; try (intro h; omega)) ?_
            try simp only [Act.put, List.setIfInBounds_toArray, List.set_cons_zero, List.set_cons_succ]
            refine anyH_take 34 124 (.slice p m c) TE rfl (by kernel_rfl) (by kernel_rfl) (by kernel_rfl) (fun _ _ _ h => h) (by rfl) (by intro x hx; obtain ⟨y0, y1, y2, y3⟩ := hx; go_simp; try (intro h; omega)) ?_
            try simp only [Act.put, List.setIfInBounds_toArray, List.set_cons_zero, List.set_cons_succ]
            refine anyH_one 29 (by kernel_rfl) ?_
            refine wpOp_step rfl (fun Kc hKc => ?_)
            go_simp
            refine (HSUM.out _ _ BE.out).mono ?_
            rintro e9 z4 ⟨rfl, hb9⟩
            rw [← HAS.out]
            have BG : Hid (Below w0.heap.size w0 z4) := BE.out.trans (hb9.mono BE.out.size)
            have TG := HS.out _ BG.out
            dsimp only
            refine hKc _ _ ⟨TG, ?_⟩
            clear hKc Kc
            try simp only [Act.put, List.setIfInBounds_toArray, List.set_cons_zero, List.set_cons_succ]
            clear TE BE hb9
            refine anyH_one 35 (by kernel_rfl) ?_
            refine wpOp_step rfl (fun Kc hKc => ?_)
            go_simp
            refine (HSUM.out _ _ BG.out).mono ?_
            rintro e9 z5 ⟨rfl, hb9⟩
            rw [← HAS.out]
            have BH : Hid (Below w0.heap.size w0 z5) := BG.out.trans (hb9.mono BG.out.size)
            have TH := HS.out _ BH.out
            dsimp only
            refine hKc _ _ ⟨TH, ?_⟩
            clear hKc Kc
            try simp only [Act.put, List.setIfInBounds_toArray, List.set_cons_zero, List.set_cons_succ]
            clear TG BG hb9
            refine anyH_take 36 126 (.bool false) TH rfl (by kernel_rfl) (by kernel_rfl) (by kernel_rfl) (fun _ _ _ h => h) (by rfl) (by intro x hx; obtain ⟨y0, y1, y2, y3⟩ := hx; go_simp; try (intro h; omega)) ?_
            try simp only [Act.put, List.setIfInBounds_toArray, List.set_cons_zero, List.set_cons_succ]
            refine anyH_take 37 127 (.bool false) TH rfl (by kernel_rfl) (by kernel_rfl) (by kernel_rfl) (fun _ _ _ h => h) (by rfl) (by intro x hx; obtain ⟨y0, y1, y2, y3⟩ := hx; go_simp; try (intro h; omega)) ?_
            try simp only [Act.put, List.setIfInBounds_toArray, List.set_cons_zero, List.set_cons_succ]
            refine anyH_done (by kernel_rfl) ?_ _
            go_wp2
            exact ⟨⟨i + 1, by omega, by omega, by go_num, BH.out⟩, by simp [intOf]; omega⟩
      · have h10' : ¬ ((i : Int) < 10) := by omega
        have hn1 : (i : Int) < (n2 : Int) := by omega
        go_wp2_with (go_at_call 8; refine (HKN.out _ HB.out).mono ?_; rintro e4 w4 ⟨rfl, hb4⟩)
        go_ret
        exact ⟨rfl, Fin.out _ (HB.out.trans (hb4.mono HB.out.size))⟩
    · have hn1 : ¬ ((i : Int) < (n2 : Int)) := by omega
      go_wp2_with (go_at_call 8; refine (HKN.out _ HB.out).mono ?_; rintro e4 w4 ⟨rfl, hb4⟩)
      go_ret
      exact ⟨rfl, Fin.out _ (HB.out.trans (hb4.mono HB.out.size))⟩

end Go.Proofs.YtkhaiiiioieglaaDoor
