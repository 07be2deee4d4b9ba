/-
  Contract: known.
-/
import Derived.Test.YtkjfhbmdogmecaaDoorScI
namespace Go.Proofs.YtkjfhbmdogmecaaDoor
open Go.RowKit

/-- Behind a Put that is done. -/
def PutOk (X : List Int) (m : Nat) (w : World) (F : World → Prop) (r : Ending) (w' : World) : Prop :=
  ∃ u d, r = .returned (.tuple #[.slice u m d, .int .i64 0]) ∧ Hid (w'.ownsRow w.heap.size 5 1 (.slice u m d) m (U8s X)) ∧ Hid (Bs w' u d X) ∧ Hid (F w')
theorem putok_of {x : Int × List Int} {X : List Int} {m : Nat} {w : World} {F : World → Prop} (hx : x = (0, X)) (hm : X.length = m) {r : Ending} {w' : World} (h : LPut x w F r w') : PutOk X m w F r w' := by
  subst hx
  subst hm
  obtain ⟨u, m, d, rfl, h1, h2, h3, h4⟩ := h
  simp only at h1 h2 h3
  subst h1
  exact ⟨u, d, rfl, h2, h3, h4⟩
/-- Behind a Get that is done; that isn't. -/
def GetOk (s : Sc.S) (m : Nat) (w : World) (r : Ending) (w' : World) : Prop :=
  ∃ u d, r = .returned (.tuple #[Sv s u m d, .int .i64 0]) ∧ Hid (w'.ownsRow w.heap.size 5 1 (.slice u m d) m (U8s s.L)) ∧ Hid (Bs w' u d s.L) ∧ Hid (Below w.heap.size w w')
theorem getok_of {x : Int × Sc.S} {s : Sc.S} {m : Nat} {w : World} (hx : x = (0, s)) (hm : s.L.length = m) {r : Ending} {w' : World} (h : LGet x w r w') : GetOk s m w r w' := by
  subst hx
  subst hm
  obtain ⟨u, m, d, rfl, h1, h2, h3, h4⟩ := h
  simp only at h1 h2 h3
  subst h1
  exact ⟨u, d, rfl, h2, h3, h4⟩
def GetBad (n : Int) (w : World) (r : Ending) (w' : World) : Prop :=
  ∃ u d, r = .returned (.tuple #[SV 0 0 0 0 u 0 d, .int .i64 n]) ∧ Hid (Bs w' u d []) ∧ Hid (Below w.heap.size w w')
theorem getbad_of {x : Int × Sc.S} {n : Int} {w : World} (hx : x = (n, Sc.S.zero)) {r : Ending} {w' : World} (h : LGet x w r w') : GetBad n w r w' := by
  subst hx
  obtain ⟨u, m, d, rfl, h1, h2, h3, h4⟩ := h
  have h5 : m = 0 := h1.symm
  subst h5
  exact ⟨u, d, rfl, h3, h4⟩
/-- New names, far from all that was there. -/
def NewNam (w : World) (r : Ending) (w' : World) : Prop :=
  ∃ g b c, r = .returned (.pointer (some ⟨g, 0, none⟩)) ∧ Hid (w.heap.size ≤ g ∧ w.heap.size ≤ b ∧ w.heap.size ≤ c) ∧ Hid (StAt w' g b c Nm.St.none) ∧ Hid (Below w.heap.size w w')
theorem newnam_any (w : World) : Calls Tryd.prog 10 #[] w (NewNam w) := (new_anyN w).mono (by rintro r w' ⟨g, b, c, h1, h2, h3, h4⟩; exact ⟨g, b, c, h1, h2, h3, h4⟩)
/-- What stays, of bytes of its own, where names remember. -/
theorem bs_own_only {y y' : World} {b base n d : Nat} {q : Option Addr} {R : List Int} (hb : Bs y q d R) (ho : y.ownsRow base 5 1 (.slice q n d) n (U8s R)) (hk : Only b y y') (hbb : b < base) : Bs y' q d R := by
  refine bs_only hb hk (fun a ha => ?_)
  left
  subst ha
  have := (ho.lt a.block rfl).1
  omega
def GetK (w : World) (r : Ending) (w' : World) : Prop :=
  ∃ u d, r = .returned (.tuple #[SV 4 1 2 3 u 5 d, .int .i64 0]) ∧ Hid (Bs w' u d Seal.plainL) ∧ Hid (Below w.heap.size w w')
theorem getk_of {w w' : World} {r : Ending} (h : GetOk Sc.s0 5 w r w') : GetK w r w' := by
  obtain ⟨u, d, h1, h2, h3, h4⟩ := h
  exact ⟨u, d, h1, h3, h4⟩
def rowP : Obj := .cells #[.int .u8 112, .int .u8 108, .int .u8 97, .int .u8 105, .int .u8 110] 5 (5, 6)
def rowK : Obj := .cells #[.int .u8 107, .int .u8 101, .int .u8 121] 5 (3, 4)

set_option maxHeartbeats 4000000 in
set_option maxRecDepth 100000 in
theorem known_any (hT : TakeSaid) (w : World) (ht : Tab w 0) : Calls Tryd.prog 8 #[] w (YesSay w) := by
  have Ht := Lib.hid ht; clear ht
  have kc := fun (w : World) (C : Array Value) (n c : Nat) => Lib.run_convert_bytes_const (P := Tryd.prog) w 22 5 C n c Tryd.underlying22 Tryd.underlying5
  obtain ⟨X, hX, hXl⟩ : ∃ X, Sc.pt (Seal.sl Seal.keyL) Sc.s0 = (0, X) ∧ X.length = 54 := ⟨_, Sc.pt_ok Sc.ers0, by have h := Sc.box_put_len Seal.keyL Sc.ers0; rw [Sc.pt_ok Sc.ers0] at h; exact h⟩
  obtain ⟨Y, hY, hYl⟩ : ∃ Y, Sc.pt (Sc.nsl Nm.St.none) Sc.s0 = (0, Y) ∧ Y.length = 54 := ⟨_, Sc.pt_ok Sc.ers0, by have h := Sc.nam_put_len Nm.St.none Sc.ers0; rw [Sc.pt_ok Sc.ers0] at h; exact h⟩
  have gX : Sc.gt (Seal.op Seal.keyL) 4 3 X = (0, Sc.s0) := by have h := Sc.box_back Seal.keyL Sc.ers0 Seal.plainB; rw [hX] at h; exact h
  have gY : Sc.gt (Nm.opn (Sc.nd Nm.St.none Sc.s0)) 4 3 Y = (0, Sc.s0) := by have h := Sc.nam_back Nm.St.none Sc.ers0; rw [hY] at h; exact h
  have gZ : Sc.gt (Nm.opn (Sc.nd Nm.St.none Sc.s0)) 4 4 Y = (19, Sc.S.zero) := by have h := Sc.nam_else Nm.St.none rfl; rw [hY] at h; exact h
  obtain ⟨T1, hT1⟩ : ∃ T, T = Sc.nd Nm.St.none Sc.s0 := ⟨_, rfl⟩
  rw [← hT1] at gY gZ
  have HNW : Hid (∀ x, Calls Tryd.prog 10 #[] x (NewNam x)) := newnam_any
  have HNB : Hid (∀ x, Below w.heap.size w x → Calls Tryd.prog 9 #[.slice (some ⟨x.heap.size, 0, none⟩) 3 3] (x.alloc rowK) (NewBox Seal.keyL (x.alloc rowK))) := fun x hx =>
    newbox_any hT Seal.keyL _ 3 3 rfl (by omega) _ (lit_one x Seal.keyL 3 (3, 4) rfl (by omega) Seal.keyB) (Ht.out.below (hx.alloc hx.size _) Ht.out.lt)
  have HPB : Hid (∀ x g p c, Below w.heap.size w x → BoxAt x g Seal.keyL → Bs x p c Seal.plainL → Calls Tryd.prog 11 #[.iface 26 (.pointer (some ⟨g, 0, none⟩)), SV 4 1 2 3 p 5 c] x (PutOk X 54 x (Below x.heap.size x))) := fun x g p c hx hg hp =>
    (bput_any hT Seal.keyL g Sc.s0 p 5 c rfl x hg hp (Ht.out.below hx Ht.out.lt)).mono fun _ _ q => putok_of hX hXl q
  have HPN : Hid (∀ x g b cc p c, StAt x g b cc Nm.St.none → Bs x p c Seal.plainL → Calls Tryd.prog 11 #[.iface 28 (.pointer (some ⟨g, 0, none⟩)), SV 4 1 2 3 p 5 c] x (PutOk Y 54 x (fun z => StAt z g b cc T1 ∧ Only b x z))) := fun x g b cc p c hg hp => by
    rw [hT1]
    exact (nput_any Nm.St.none g b cc Sc.s0 p 5 c rfl x hg hp (by decide)).mono fun _ _ q => putok_of hY hYl q
  have HGB : Hid (∀ x g p c, Below w.heap.size w x → BoxAt x g Seal.keyL → Bs x p c X → Calls Tryd.prog 13 #[.iface 26 (.pointer (some ⟨g, 0, none⟩)), .int .i64 4, .int .i64 3, .slice p 54 c] x (GetK x)) := fun x g p c hx hg hp =>
    (bget_any hT Seal.keyL g 4 3 X p 54 c hXl x hg hp (Ht.out.below hx Ht.out.lt)).mono fun _ _ q => getk_of (getok_of gX rfl q)
  have HGN : Hid (∀ x g b cc p c, StAt x g b cc T1 → Bs x p c Y → Calls Tryd.prog 13 #[.iface 28 (.pointer (some ⟨g, 0, none⟩)), .int .i64 4, .int .i64 3, .slice p 54 c] x (GetK x)) := fun x g b cc p c hg hp =>
    (nget_any T1 g b cc 4 3 Y p 54 c hYl x hg hp).mono fun _ _ q => getk_of (getok_of gY rfl q)
  have HGZ : Hid (∀ x g b cc p c, StAt x g b cc T1 → Bs x p c Y → Calls Tryd.prog 13 #[.iface 28 (.pointer (some ⟨g, 0, none⟩)), .int .i64 4, .int .i64 4, .slice p 54 c] x (GetBad 19 x)) := fun x g b cc p c hg hp =>
    (nget_any T1 g b cc 4 4 Y p 54 c hYl x hg hp).mono fun _ _ q => getbad_of gZ q
  have HSS : Hid (∀ x p q c d, Bs x p c Seal.plainL → Bs x q d Seal.plainL → Calls Tryd.prog 14 #[SV 4 1 2 3 p 5 c, SV 4 1 2 3 q 5 d] x fun r x' => r = .returned (.bool true) ∧ Below x.heap.size x x') := fun x p q c d hp hq => by
    have h := samesec_any Sc.s0 Sc.s0 p q 5 5 c d rfl rfl x hp hq (by omega)
    rw [decide_eq_true rfl] at h
    exact h
  clear hX hXl hY hYl gX gY gZ hT1 hT
  have B0 : Hid (Below w.heap.size w ((w.alloc rowP).alloc (SO 4 1 2 3 (some ⟨w.heap.size, 0, none⟩) 5 5))) := ((Below.refl _ w).alloc (Nat.le_refl _) _).alloc (by simp) _
  have P0 : Hid (Bs ((w.alloc rowP).alloc (SO 4 1 2 3 (some ⟨w.heap.size, 0, none⟩) 5 5)) (some ⟨w.heap.size, 0, none⟩) 5 Seal.plainL) :=
    (lit_one w Seal.plainL 5 (5, 6) rfl (by omega) Seal.plainB).old ((Below.refl _ _).alloc (Nat.le_refl _) _)
  have S0 : Hid (SAt ((w.alloc rowP).alloc (SO 4 1 2 3 (some ⟨w.heap.size, 0, none⟩) 5 5)) (w.heap.size + 1) 4 1 2 3 (some ⟨w.heap.size, 0, none⟩) 5 5) := by
    have h := SAt.new (w.alloc rowP) 4 1 2 3 (some ⟨w.heap.size, 0, none⟩) 5 5
    rw [show (w.alloc rowP).heap.size = w.heap.size + 1 by simp] at h
    exact h
  go_enter Tryd.func8, Tryd.ntmps8
  go_upto_region 2 with (fail)
  change Code.wp _ _ _ _ ((w.alloc rowP).alloc (SO 4 1 2 3 (some ⟨w.heap.size, 0, none⟩) 5 5))
  obtain ⟨w0, hw0⟩ : ∃ x, x = (w.alloc rowP).alloc (SO 4 1 2 3 (some ⟨w.heap.size, 0, none⟩) 5 5) := ⟨_, rfl⟩
  rw [← hw0] at B0 P0 S0 ⊢
  clear hw0
  go_upto_region 3 with (go_at_call 10; refine (HNW.out _).mono ?_; rintro e1 w1 ⟨g, b, cc, rfl, L1, St1, B1⟩)
  have HK : Hid (∀ y, Below w0.heap.size w0 y → y.cell? ⟨w.heap.size + 1, 0, none⟩ = some (.int .i64 4) ∧ y.cell? ⟨w.heap.size + 1, 1, none⟩ = some (.int .i64 1) ∧ y.cell? ⟨w.heap.size + 1, 2, none⟩ = some (.int .i64 2) ∧ y.cell? ⟨w.heap.size + 1, 3, none⟩ = some (.int .i64 3) ∧ y.cell? ⟨w.heap.size + 1, 4, none⟩ = some (.slice (some ⟨w.heap.size, 0, none⟩) 5 5)) := fun y hy => (S0.out.old hy).all
  have B1d : Hid (Below w0.heap.size w0 w1.drew) := B1.out.drew
  have SF : ∀ x, Below w0.heap.size w0 x → x.cell? ⟨w.heap.size + 1, 0, none⟩ = some (.int .i64 4) ∧ x.cell? ⟨w.heap.size + 1, 1, none⟩ = some (.int .i64 1) ∧ x.cell? ⟨w.heap.size + 1, 2, none⟩ = some (.int .i64 2) ∧ x.cell? ⟨w.heap.size + 1, 3, none⟩ = some (.int .i64 3) ∧ x.cell? ⟨w.heap.size + 1, 4, none⟩ = some (.slice (some ⟨w.heap.size, 0, none⟩) 5 5) := HK.out
  have SF := Lib.hid SF
  have Z1 : Hid (Below w1.heap.size w1 w1.drew) := (Below.refl _ w1).drew
  refine wp_region_any (by kernel_rfl) ?_
  change wpAny _ _ _ _ _ _ _ (World.drew _)
  generalize w1.drew = z at *
  have TD := SF.out _ B1d.out
  refine wpAny_of_held (S := fun y => y.cell? ⟨w.heap.size + 1, 0, none⟩ = some (.int .i64 4) ∧ y.cell? ⟨w.heap.size + 1, 1, none⟩ = some (.int .i64 1) ∧ y.cell? ⟨w.heap.size + 1, 2, none⟩ = some (.int .i64 2) ∧ y.cell? ⟨w.heap.size + 1, 3, none⟩ = some (.int .i64 3) ∧ y.cell? ⟨w.heap.size + 1, 4, none⟩ = some (.slice (some ⟨w.heap.size, 0, none⟩) 5 5)) _ _ _ _ ?_
  refine anyH_take 4 22 (SV 4 1 2 3 (some ⟨w.heap.size, 0, none⟩) 5 5) TD rfl (by kernel_rfl) (by kernel_rfl) (by kernel_rfl) (fun _ _ _ h => h) (by rfl) (by intro x hx; obtain ⟨y0, y1, y2, y3, y4⟩ := hx; go_simp; try (intro h; omega)) ?_
  try simp only [Act.put, List.setIfInBounds_toArray, List.set_cons_zero, List.set_cons_succ]
  refine anyH_one 0 (by kernel_rfl) ?_
  refine wpOp_step rfl (fun Kc hKc => ?_)
  go_simp
  refine hKc _ _ ⟨SF.out _ (B1d.out.alloc B1d.out.size _), ?_⟩
  clear hKc Kc
  try simp only [Act.put, List.setIfInBounds_toArray, List.set_cons_zero, List.set_cons_succ]
  refine anyH_one 1 (by kernel_rfl) ?_
  refine wpOp_step rfl (fun Kc hKc => ?_)
  go_simp
  refine hKc _ _ ⟨SF.out _ (B1d.out.alloc B1d.out.size rowK), ?_⟩
  clear hKc Kc
  try simp only [Act.put, List.setIfInBounds_toArray, List.set_cons_zero, List.set_cons_succ]
  refine anyH_one 2 (by kernel_rfl) ?_
  refine wpOp_step rfl (fun Kc hKc => ?_)
  go_simp
  refine (HNB.out z (B0.out.trans (B1d.out.mono B0.out.size))).mono ?_
  rintro e2 w2 ⟨gb, rfl, G2, b2⟩
  have B2 : Hid (Below w1.heap.size w1 w2) := Z1.out.trans ((((Below.refl _ z).alloc (Nat.le_refl _) rowK).trans (b2.mono (by simp))).mono Z1.out.size)
  have B23 : Hid (w1.heap.size ≤ w2.heap.size) := B2.out.size
  have B2w : Hid (Below w0.heap.size w0 w2) := B1.out.trans (B2.out.mono B1.out.size)
  dsimp only
  refine hKc _ _ ⟨SF.out _ B2w.out, ?_⟩
  clear hKc Kc TD
  have TE := SF.out _ B2w.out
  try simp only [Act.put, List.setIfInBounds_toArray, List.set_cons_zero, List.set_cons_succ]
  refine anyH_take 3 21 (.iface 26 (.pointer (some ⟨gb, 0, none⟩))) TE rfl (by kernel_rfl) (by kernel_rfl) (by kernel_rfl) (fun _ _ _ h => h) (by rfl) (by intro x hx; obtain ⟨y0, y1, y2, y3, y4⟩ := hx; go_simp; try (intro h; omega)) ?_
  try simp only [Act.put, List.setIfInBounds_toArray, List.set_cons_zero, List.set_cons_succ]
  refine anyH_one 5 (by kernel_rfl) ?_
  refine wpOp_step rfl (fun Kc hKc => ?_)
  go_simp
  refine (HPB.out _ gb _ _ (B0.out.trans (B2w.out.mono B0.out.size)) G2.out (P0.out.old B2w.out)).mono ?_
  rintro e3 w3 ⟨u3, d3, rfl, O3, H3, b3⟩
  have B3 : Hid (Below w0.heap.size w0 w3) := B2w.out.trans (b3.out.mono B2w.out.size)
  dsimp only
  refine hKc _ _ ⟨SF.out _ B3.out, ?_⟩
  clear hKc Kc TE
  have TG := SF.out _ B3.out
  try simp only [Act.put, List.setIfInBounds_toArray, List.set_cons_zero, List.set_cons_succ]
  refine anyH_take 6 17 (.tuple #[.slice u3 54 d3, .int .i64 0]) TG rfl (by kernel_rfl) (by kernel_rfl) (by kernel_rfl) (fun _ _ _ h => h) (by rfl) (by intro x hx; obtain ⟨y0, y1, y2, y3, y4⟩ := hx; go_simp; try (intro h; omega)) ?_
  try simp only [Act.put, List.setIfInBounds_toArray, List.set_cons_zero, List.set_cons_succ]
  refine anyH_take 7 24 (.slice u3 54 d3) TG rfl (by kernel_rfl) (by kernel_rfl) (by kernel_rfl) (fun _ _ _ h => h) (by rfl) (by intro x hx; obtain ⟨y0, y1, y2, y3, y4⟩ := hx; go_simp; try (intro h; omega)) ?_
  try simp only [Act.put, List.setIfInBounds_toArray, List.set_cons_zero, List.set_cons_succ]
  refine anyH_take 8 25 (.int .i64 0) TG rfl (by kernel_rfl) (by kernel_rfl) (by kernel_rfl) (fun _ _ _ h => h) (by rfl) (by intro x hx; obtain ⟨y0, y1, y2, y3, y4⟩ := hx; go_simp; try (intro h; omega)) ?_
  try simp only [Act.put, List.setIfInBounds_toArray, List.set_cons_zero, List.set_cons_succ]
  refine anyH_take 9 3 (.slice u3 54 d3) TG rfl (by kernel_rfl) (by kernel_rfl) (by kernel_rfl) (fun _ _ _ h => h) (by rfl) (by intro x hx; obtain ⟨y0, y1, y2, y3, y4⟩ := hx; go_simp; try (intro h; omega)) ?_
  try simp only [Act.put, List.setIfInBounds_toArray, List.set_cons_zero, List.set_cons_succ]
  refine anyH_take 10 4 (.int .i64 0) TG rfl (by kernel_rfl) (by kernel_rfl) (by kernel_rfl) (fun _ _ _ h => h) (by rfl) (by intro x hx; obtain ⟨y0, y1, y2, y3, y4⟩ := hx; go_simp; try (intro h; omega)) ?_
  try simp only [Act.put, List.setIfInBounds_toArray, List.set_cons_zero, List.set_cons_succ]
  refine anyH_done (by kernel_rfl) ?_ _
  clear TG SF Z1
  all_goals
    have St3 : Hid (StAt w3 g b cc Nm.St.none) := (St1.out.old B2.out).old b3.out
    obtain ⟨x0, x1, x2, x3, x4⟩ := HK.out _ B3.out
    clear HNW HPB B1d B2 b2 G2
    go_upto_region 5 with (go_at_call 11; refine (HPN.out _ g b cc _ _ St3.out (P0.out.old B3.out)).mono ?_; rintro e4 w4 ⟨u4, d4, rfl, O4, H4, F4⟩)
    have B4 : Hid (Below w0.heap.size w0 w4) := F4.out.2.below B3.out L1.out.2.1 B3.out.size
    have H34 : Hid (Bs w4 u3 d3 X) := bs_own_only H3.out O3.out F4.out.2 (by have := St1.out.lt.2.1; have := B2w.out.size; have h := St3.out.lt.2.1; have q := (Nat.lt_of_lt_of_le St1.out.lt.2.1 B23.out); exact q)
    clear HPN St3 H3 O3 b3 B3 x0 x1 x2 x3 x4
    have B4w : Hid (Below w.heap.size w w4) := B0.out.trans (B4.out.mono B0.out.size)
    have HNB4 : Hid (Calls Tryd.prog 9 #[.slice (some ⟨w4.heap.size, 0, none⟩) 3 3] (w4.alloc rowK) (NewBox Seal.keyL (w4.alloc rowK))) := HNB.out w4 B4w.out
    go_upto_region 6 with (first
      | (go_at_call 9; refine HNB4.out.mono ?_; rintro e5 w5 ⟨gc, rfl, G5, b5⟩; have B5 : Hid (Below w4.heap.size w4 w5) := ((Below.refl _ w4).alloc (Nat.le_refl _) rowK).trans (b5.mono (by simp)))
      | (go_at_call 13; refine (HGB.out _ gc _ _ (B4w.out.trans (B5.out.mono B4w.out.size)) G5.out (H34.out.old B5.out)).mono ?_; rintro e6 w6 ⟨u6, d6, rfl, H6, b6⟩; have B6 : Hid (Below w4.heap.size w4 w6) := B5.out.trans (b6.out.mono B5.out.size)))
    change Code.wp _ _ _ _ (w6.alloc (SO 4 1 2 3 u6 5 d6))
    have A6 : Hid (∀ y, Below (w6.alloc (SO 4 1 2 3 u6 5 d6)).heap.size (w6.alloc (SO 4 1 2 3 u6 5 d6)) y → SAt y w6.heap.size 4 1 2 3 u6 5 d6) := fun y hy => (SAt.new w6 _ _ _ _ _ _ _).old hy
    have B7 : Hid (Below w4.heap.size w4 (w6.alloc (SO 4 1 2 3 u6 5 d6))) := B6.out.alloc B6.out.size _
    have H7 : Hid (Bs (w6.alloc (SO 4 1 2 3 u6 5 d6)) u6 d6 Seal.plainL) := H6.out.old ((Below.refl _ _).alloc (Nat.le_refl _) _)
    obtain ⟨w7, hw7⟩ : ∃ x, x = w6.alloc (SO 4 1 2 3 u6 5 d6) := ⟨_, rfl⟩
    rw [← hw7] at A6 B7 H7 ⊢
    clear hw7 HNB4 HNB HGB H34 B5 b5 G5 B6 b6 H6
    go_upto_region 7 with (go_at_call 13; refine (HGN.out _ g b cc _ _ (F4.out.1.old B7.out) (H4.out.old B7.out)).mono ?_; rintro e8 w8 ⟨u8, d8, rfl, H8, b8⟩)
    change Code.wp _ _ _ _ (w8.alloc (SO 4 1 2 3 u8 5 d8))
    have A8 : Hid (∀ y, Below (w8.alloc (SO 4 1 2 3 u8 5 d8)).heap.size (w8.alloc (SO 4 1 2 3 u8 5 d8)) y → SAt y w8.heap.size 4 1 2 3 u8 5 d8) := fun y hy => (SAt.new w8 _ _ _ _ _ _ _).old hy
    have B9 : Hid (Below w7.heap.size w7 (w8.alloc (SO 4 1 2 3 u8 5 d8))) := b8.out.alloc b8.out.size _
    have H9 : Hid (Bs (w8.alloc (SO 4 1 2 3 u8 5 d8)) u8 d8 Seal.plainL) := H8.out.old ((Below.refl _ _).alloc (Nat.le_refl _) _)
    obtain ⟨w9, hw9⟩ : ∃ x, x = w8.alloc (SO 4 1 2 3 u8 5 d8) := ⟨_, rfl⟩
    rw [← hw9] at A8 B9 H9 ⊢
    clear hw9 HGN b8 H8
    have B49 : Hid (Below w4.heap.size w4 w9) := B7.out.trans (B9.out.mono B7.out.size)
    go_upto_region 8 with (go_at_call 13; refine (HGZ.out _ g b cc _ _ (F4.out.1.old B49.out) (H4.out.old B49.out)).mono ?_; rintro e10 w10 ⟨u10, d10, rfl, H10, b10⟩)
    change Code.wp _ _ _ _ (w10.alloc (SO 0 0 0 0 u10 0 d10))
    have B11 : Hid (Below w9.heap.size w9 (w10.alloc (SO 0 0 0 0 u10 0 d10))) := b10.out.alloc b10.out.size _
    obtain ⟨w11, hw11⟩ : ∃ x, x = w10.alloc (SO 0 0 0 0 u10 0 d10) := ⟨_, rfl⟩
    rw [← hw11] at B11 ⊢
    clear hw11 HGZ b10 H10 H4 F4 O4 St1 L1
    have HS : Hid (∀ y, Below w11.heap.size w11 y → SAt y (w.heap.size + 1) 4 1 2 3 (some ⟨w.heap.size, 0, none⟩) 5 5 ∧ SAt y w6.heap.size 4 1 2 3 u6 5 d6 ∧ SAt y w8.heap.size 4 1 2 3 u8 5 d8 ∧ Bs y (some ⟨w.heap.size, 0, none⟩) 5 Seal.plainL ∧ Bs y u6 d6 Seal.plainL ∧ Bs y u8 d8 Seal.plainL) := fun y hy => by
      have h1 : Below w9.heap.size w9 y := B11.out.trans (hy.mono B11.out.size)
      have h2 : Below w7.heap.size w7 y := B9.out.trans (h1.mono B9.out.size)
      have h3 : Below w4.heap.size w4 y := B7.out.trans (h2.mono B7.out.size)
      have h4 : Below w0.heap.size w0 y := B4.out.trans (h3.mono B4.out.size)
      exact ⟨S0.out.old h4, A6.out y h2, A8.out y h1, P0.out.old h4, H7.out.old h2, H9.out.old h1⟩
    have B12 : Hid (Below w.heap.size w w11) := B4w.out.trans ((B49.out.trans (B11.out.mono B49.out.size)).mono B4w.out.size)
    clear S0 P0 A6 A8 H7 H9 HK B2w B23 B4 B7 B9 B11 B49 B4w B0 B1
    obtain ⟨q1, q2, q3, _⟩ := HS.out _ (Below.refl _ _)
    obtain ⟨x0, x1, x2, x3, x4⟩ := q1.all
    obtain ⟨y0, y1, y2, y3, y4⟩ := q2.all
    obtain ⟨z0, z1, z2, z3, z4⟩ := q3.all
    clear q1 q2 q3
    have TK : Hid (0 = 0) := rfl
    go_wp2_with (first
      | (go_at_call 14; have TT := TK.out; clear TK; refine (HSS.out _ _ _ _ _ (HS.out _ (Below.refl _ _)).2.2.2.2.1 (HS.out _ (Below.refl _ _)).2.2.2.1).mono ?_; rintro e12 w12 ⟨rfl, b12⟩; obtain ⟨q1, q2, q3, q4, q5, q6⟩ := HS.out _ b12; obtain ⟨x0, x1, x2, x3, x4⟩ := q1.all; obtain ⟨z0, z1, z2, z3, z4⟩ := q3.all; have R4 := Lib.hid q4; have R6 := Lib.hid q6; clear q1 q2 q3 q4 q5 q6)
      | (go_at_call 14; refine (HSS.out _ _ _ _ _ R6.out R4.out).mono ?_; rintro e13 w13 ⟨rfl, b13⟩))
    go_ret
    exact ⟨rfl, B12.out.trans ((b12.trans (b13.mono b12.size)).mono B12.out.size)⟩
end Go.Proofs.YtkjfhbmdogmecaaDoor
