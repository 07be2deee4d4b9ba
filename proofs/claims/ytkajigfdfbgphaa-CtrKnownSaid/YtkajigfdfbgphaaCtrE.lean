/-
  Contract: ctr.Xor.
-/
import Derived.Test.YtkajigfdfbgphaaCtrD
import Derived.Test.YtkajigfdfbgphaaAnyC
import Derived.Test.YtkajigfdfbgphaaTurL
import Derived.RangeFuncWrites
import Derived.Laws.EntriesVeiled
namespace Go.Proofs.Ytkajigfdfbgphaa
open Go.RowKit Go.Shelf
attribute [local go_sem] Oper.semAt_some

theorem chunk_stops (bs bn g len cap : Nat) (p : Option Addr) (hp : 0 < len → p = some ⟨g, 0, none⟩) (hlen : len ≤ 1000000000) (hcap : len ≤ cap) (hcm : cap ≤ 9223372036854775807) (w : World)
    (hbs : w.heap[bs]? = some (.cells #[.slice p len cap] 22 (0, 0))) (hbn : w.heap[bn]? = some (.cells #[.int .i64 16] 3 (0, 0))) :
    SeqStopsK Fence.wide 2 Try.prog 52 #[.pointer (some ⟨bs, 0, none⟩), .pointer (some ⟨bn, 0, none⟩)] (Ctr.encs g len) (fun W W' => W'.heap[bs]? = W.heap[bs]? ∧ W'.heap[bn]? = W.heap[bn]?) (fun ys => ys = List.range (Ctr.nch len)) (fun _ => True) (Ctr.nch len) w :=
  fun l J Jx W hW hJ _ hY h0 =>
    chunk1_in l bs bn g len cap p hp hlen hcap hcm J Jx hY W ((hW.block _ (lt_of_block hbs)).trans hbs) ((hW.block _ (lt_of_block hbn)).trans hbn) h0
      (fun pre x hx => hJ pre x x.drew none hx ⟨rfl, rfl, rfl, Nat.le_refl _, fun _ _ _ => rfl⟩ (fun r e => by cases e))

/-- What no round's book-keeping turns. -/
theorem cells_kept {W W' : World} {row : Option Nat} (hg : W.grownBy W' row) (hr : ∀ r, row = some r → ∃ o : Obj, W.heap[r]? = some o ∧ o.isCells = false) {k : Nat} {A : Array Value} {t : TypeId} {fr : Nat × Nat} (h : W.heap[k]? = some (.cells A t fr)) : W'.heap[k]? = some (.cells A t fr) :=
  (grownBy_keeps_cells hg hr h rfl).trans h
theorem own_kept {W W' : World} {row : Option Nat} (hg : W.grownBy W' row) (hr : ∀ r, row = some r → ∃ o : Obj, W.heap[r]? = some o ∧ o.isCells = false) {B n s : Nat} {v : Value} {xs : List Value} {e : TypeId} (h : W.ownsRow B e s v n xs) : W'.ownsRow B e s v n xs := by
  refine ⟨h.1, ?_⟩
  rcases h.2 with h' | ⟨g', cap, cur, hv, q0, q1, q2⟩
  · exact Or.inl h'
  · exact Or.inr ⟨g', cap, cur, hv, q0, cells_kept hg hr q1, q2⟩
theorem Ciph.kept {W W' : World} {row : Option Nat} (hg : W.grownBy W' row) (hr : ∀ r, row = some r → ∃ o : Obj, W.heap[r]? = some o ∧ o.isCells = false) {c : Nat} {T ks : List Int} (h : Ciph W c T ks) : Ciph W' c T ks := by
  obtain ⟨kb, n, cap, base, hc, hlen, hown⟩ := h
  exact ⟨kb, n, cap, base, cells_kept hg hr hc, hlen, own_kept hg hr hown⟩
theorem Strm.kept {W W' : World} {row : Option Nat} (hg : W.grownBy W' row) (hr : ∀ r, row = some r → ∃ o : Obj, W.heap[r]? = some o ∧ o.isCells = false) {gb gi gc c : Nat} {ks : List Int} {e n : Int} {i : Nat} (h : Strm W gb gi gc c ks e n i) : Strm W' gb gi gc c ks e n i := by
  obtain ⟨z, hz⟩ := h.blk
  exact ⟨⟨z, cells_kept hg hr hz⟩, cells_kept hg hr h.ctr, cells_kept hg hr h.box, h.cip.kept hg hr, h.ne⟩
theorem others_only2 {a b : Nat} {w w' : World} (h : Only2 a b w w') (ha : ∃ A t f, w.heap[a]? = some (.cells A t f)) (hb : ∃ A t f, w.heap[b]? = some (.cells A t f)) : KeepsOthers w w' :=
  ⟨h.size, fun k o hk ho => by
    obtain ⟨A, t, f, ha⟩ := ha
    obtain ⟨A', t', f', hb⟩ := hb
    refine (h.block k (lt_of_block hk) (fun e => ?_) (fun e => ?_)).trans hk
    · subst e; rw [ha] at hk; cases hk; cases ho
    · subst e; rw [hb] at hk; cases hk; cases ho⟩
theorem others_chg {g : Nat} {w w' : World} (h : Chg g w w') (hg : ∃ A t f, w.heap[g]? = some (.cells A t f)) : KeepsOthers w w' :=
  ⟨by rw [h.size]; exact Nat.le_refl _, fun k o hk ho => by
    obtain ⟨A, t, f, hg⟩ := hg
    refine (h.block k (fun e => ?_)).trans hk
    subst e; rw [hg] at hk; cases hk; cases ho⟩
theorem own_only2 {w w' : World} {B n a b : Nat} {v : Value} {xs : List Value} {A A' : Array Value} {ta tb : TypeId} {fa fb : Nat × Nat} (h : w.ownsRow B 5 1 v n xs) (ho : Only2 a b w w') (ha : w.heap[a]? = some (.cells A ta fa)) (hta : ta ≠ 5) (hb : w.heap[b]? = some (.cells A' tb fb)) (htb : tb ≠ 5) : w'.ownsRow B 5 1 v n xs := by
  refine ⟨h.1, ?_⟩
  rcases h.2 with h' | ⟨g', cap, cur, hv, q0, q1, q2⟩
  · exact Or.inl h'
  · refine Or.inr ⟨g', cap, cur, hv, q0, (ho.block _ (lt_of_block q1) (fun e => ?_) (fun e => ?_)).trans q1, q2⟩
    · subst e
      rw [ha] at q1
      simp only [Option.some.injEq, Obj.cells.injEq] at q1
      exact hta q1.2.1
    · subst e
      rw [hb] at q1
      simp only [Option.some.injEq, Obj.cells.injEq] at q1
      exact htb q1.2.1
theorem Strm.only {w x : World} {g gb gi gc c : Nat} {ks : List Int} {e n : Int} {i : Nat} {A : Array Value} {fr : Nat × Nat} (h : Strm w gb gi gc c ks e n i) (hg : w.heap[g]? = some (.cells A 5 fr)) (ho : Only g w x) : Strm x gb gi gc c ks e n i := by
  obtain ⟨z, hz⟩ := h.blk
  have ne : ∀ (k : Nat) (A' : Array Value) (t : TypeId) (f : Nat × Nat), w.heap[k]? = some (.cells A' t f) → t ≠ 5 → k ≠ g := fun k A' t f hk ht e => by
    subst e
    rw [hk] at hg
    simp only [Option.some.injEq, Obj.cells.injEq] at hg
    exact ht hg.2.1
  exact ⟨⟨z, (ho.block _ (lt_of_block hz) (ne _ _ _ _ hz (by decide))).trans hz⟩, (ho.block _ (lt_of_block h.ctr) (ne _ _ _ _ h.ctr (by decide))).trans h.ctr, (ho.block _ (lt_of_block h.box) (ne _ _ _ _ h.box (by decide))).trans h.box, h.cip.only hg ho, h.ne⟩
theorem others_only {g : Nat} {w w' : World} (h : Only g w w') (hg : ∃ A t f, w.heap[g]? = some (.cells A t f)) : KeepsOthers w w' :=
  ⟨h.size, fun k o hk ho => by
    obtain ⟨A, t, f, hg⟩ := hg
    refine (h.block k (lt_of_block hk) (fun e => ?_)).trans hk
    subst e; rw [hg] at hk; cases hk; cases ho⟩
/-- A whole row into a block that is known whole, inside a fence. -/
theorem row_storeIn {F : Fence} {n : Nat} {P : Program} {ops : Array Oper} {rest : List Oper} {a : Act} {w : World} {Q : Exit → Act → World → Prop} {T : TypeId} {ps : String} {af : Array Edge} (ty : TypeId) (x y : Operand) (g : Nat) (t : TypeId) (old cells : Array Value) (hx : a.eval x = .pointer (some ⟨g, 0, none⟩)) (hy : a.eval y = .agg cells) (hg : w.heap[g]? = some (.cells old t (0, 0)))
    (hi : (P.info? ty).map (·.size) = some cells.size) (hs : cells.size = old.size) (h1 : cells.all (·.oneCell') = true)
    (h : ∀ w', Hid (w'.heap[g]? = some (.cells cells t (0, 0))) → Chg g w w' → wpListIn F n P ops Q rest a w') :
    wpListIn F n P ops Q ({ dst := none, op := .store ty x y, type := T, pos := ps, after := af, guard := none } :: rest) a w :=
  wpListIn_plain rfl fun _ hK => by
    have hst := run_storeCells_at P g 0 t cells.toList 0 old w hg (by simp; omega) (fun v hv => (Array.all_eq_true_iff_forall_mem.1 h1) v (by simpa using hv))
    have hsv : (storeVar ty ⟨g, 0, none⟩ (.agg cells)).run P w = .ok () (w.setRow g (old.toList.take 0 ++ cells.toList ++ old.toList.drop (0 + cells.size)).toArray) := by
      cases hq : P.info? ty with
      | none => simp [hq] at hi
      | some i =>
        have hs : cells.size = i.size := by simp [hq] at hi; omega
        simp only [Nat.add_zero, Array.length_toList] at hst
        simp [storeVar, sizeOf, typeInfo, hq, Value.cells, hs] at hst ⊢
        rw [hst]
    have he : (old.toList.take 0 ++ cells.toList ++ old.toList.drop (0 + cells.size)).toArray = cells := by
      rw [hs]
      apply Array.ext'
      simp
    unfold Oper.wpIn
    refine ⟨fun f hf => by simp [Oper.about] at hf, ?_⟩
    rw [Oper.semAt_plain F _ _ (by intro c hc; cases hc)]
    unfold execOp
    simp only [hx, hy, Instr.storeAt, Instr.sureAddr, Sem.run_bind, Sem.run_pure, Result.andThen_ok, hsv]
    refine hK _ _ (h _ ?_ (Chg.setRow w g _))
    show _ = _
    rw [he]
    exact setRow_heap w g old cells t (0, 0) hg

/-- A slice of the call's own, as a value. -/
theorem own_slice {w : World} {B n s : Nat} {v : Value} {e : TypeId} {xs : List Value} (h : w.ownsRow B e s v n xs) : ∃ (p : Option Addr) (g c : Nat), v = .slice p n c ∧ (0 < n → p = some ⟨g, 0, none⟩) ∧ n ≤ c ∧ c ≤ 9223372036854775807 := by
  rcases h.2 with ⟨rfl, rfl⟩ | ⟨g, cap, cur, rfl, _, _, h1, h2, _⟩
  · exact ⟨none, 0, 0, rfl, fun h0 => by omega, Nat.le_refl _, by omega⟩
  · exact ⟨_, g, cap, rfl, fun _ => rfl, h1, by unfold maxLen at h2; omega⟩
def XI (w0 : World) (gn gb gi gc c : Nat) (ks : List Int) (S : Nat → List Int) (e n : Int) (L : List Int) (v FV : Value) (pre : List Nat) (W : World) : Prop :=
  Strm W gb gi gc c ks e n pre.length ∧ W.heap[gn]? = some (.cells #[FV] 46 (0, 0)) ∧ W.ownsRow w0.heap.size 5 1 v L.length (U8s (Ctr.st S L pre).1) ∧ Below w0.heap.size w0 W ∧ gn + 1 + 1 < W.heap.size
theorem xi_from {w0 : World} {gn gb gi gc c : Nat} {ks : List Int} {S : Nat → List Int} {e n : Int} {L : List Int} {v FV : Value} {B : Nat} (hB : w0.heap.size ≤ B) : OwnFrom B (XI w0 gn gb gi gc c ks S e n L v FV) := fun pre A A' row hs hg hr => by
  obtain ⟨h1, h2, h3, h4, h5⟩ := hs
  have hr' := fun r e => (hr r e).2
  exact ⟨h1.kept hg hr', cells_kept hg hr' h2, own_kept hg hr' h3, h4.grown hg h4.size (fun k e => Nat.le_trans hB (hr k e).1), Nat.lt_of_lt_of_le h5 hg.size⟩

theorem U8s_set (l : List Int) (i : Nat) (x : Int) : U8s (l.set i x) = (U8s l).set i (.int .u8 x) := by unfold U8s; rw [List.map_set]
def XorSay (L X : List Int) (w : World) (r : Ending) (w' : World) : Prop :=
  ∃ v, r = .returned v ∧ w'.ownsRow w.heap.size 5 1 v L.length (U8s X) ∧ Below w.heap.size w w'

set_option maxRecDepth 100000 in
set_option maxHeartbeats 8000000 in
theorem xor_any (c : Nat) (ks : List Int) (N : Nat) (e n : Int) (L : List Int) (p : Option Addr) (cap : Nat) (hL : L.length ≤ 1000000000) (hp0 : p = none → L = [] ∧ cap = 0) (hn : ks.length = 4 * (N + 2)) (hN : N ≤ 100) (w : World) (hp : BAt w p L) (hC : Ciph w c Aes.TB ks) :
    Calls Try.prog 18 #[.pointer (some ⟨c, 0, none⟩), .int .i64 e, .int .i64 n, .slice p L.length cap] w (XorSay L (Ctr.xs (Ctr.sblk ks N (e % 18446744073709551616) (n % 18446744073709551616)) L) w) := by
  have Hp := Lib.hid hp; clear hp
  have Hp0 := Lib.hid hp0; clear hp0
  have HC := Lib.hid hC; clear hC
  have HNN := Lib.hid (And.intro hn hN); clear hn hN
  refine (callsIn_wide (n := 3)).1 ?_
  refine callsIn_of_wp_marks Try.func18 rfl trivial ?_ rfl
  simp only [Try.ntmps18, List.size_toArray, List.length_cons, List.length_nil, Nat.reduceAdd, Nat.reduceSub, Array.replicate_succ, Array.replicate_zero, List.push_toArray, List.append_toArray, List.nil_append, List.cons_append]
  gi_wp2_with (first
    | (refine ⟨trivial, ?_⟩; gi_at_call 38; refine (callsIn_wide.2 (clone_any L p cap hL Hp0.out _ Hp.out)).mono ?_; rintro r w1 ⟨v, rfl, ho1, hb1⟩; obtain ⟨pv, g, cv, rfl, hpv, hcv1, hcv2⟩ := own_slice ho1; have HPV := Lib.hid (And.intro hpv (And.intro hcv1 hcv2)); have HO1 := Lib.hid ho1; have HB1 := Lib.hid hb1; clear ho1 hb1 hpv hcv1 hcv2)
    | (refine ⟨trivial, ?_⟩; gi_at_call 39; refine (callsIn_wide.2 (stream_any c ks e n _ (HC.out.below HB1.out (Nat.le_refl _)))).mono ?_; rintro r w2 ⟨gb, gi, gc, rfl, hgb, hgi, hgc, hs2, hb2⟩; have HS2 := Lib.hid hs2; have HB2 : Hid (Below w.heap.size w w2) := HB1.out.trans (hb2.mono HB1.out.size); have HO2 : Hid (w2.ownsRow w.heap.size 5 1 (.slice pv L.length cv) L.length (U8s L)) := own_keepX HO1.out hb2; clear hs2 hb2 HO1)
    | (refine ⟨trivial, ?_⟩; gi_at_call 40; refine (callsIn_wide.2 (chunk_any _ _ _ _)).mono ?_; rintro r w4 ⟨rfl, rfl⟩))
  obtain ⟨FV, hFV⟩ : ∃ FV, FV = Value.func (.func 51) #[] #[.pointer (some ⟨gb, 0, none⟩), .pointer (some ⟨gi, 0, none⟩), .pointer (some ⟨gc, 0, none⟩)] := ⟨_, rfl⟩
  rw [← hFV]
  have HFN : Hid ((((w2.alloc (.cells #[FV] 46)).alloc (.cells #[.slice pv L.length cv] 22)).alloc (.cells #[.int .i64 16] 3)).heap[w2.heap.size]? = some (.cells #[FV] 46 (0, 0))) := heap3_0 w2 _ _ _
  have HBS : Hid ((((w2.alloc (.cells #[FV] 46)).alloc (.cells #[.slice pv L.length cv] 22)).alloc (.cells #[.int .i64 16] 3)).heap[w2.heap.size + 1]? = some (.cells #[.slice pv L.length cv] 22 (0, 0))) := heap3_1 w2 _ _ _
  have HBN : Hid ((((w2.alloc (.cells #[FV] 46)).alloc (.cells #[.slice pv L.length cv] 22)).alloc (.cells #[.int .i64 16] 3)).heap[w2.heap.size + 2]? = some (.cells #[.int .i64 16] 3 (0, 0))) := heap3_2 w2 _ _ _
  have HB3 : Hid (Below w2.heap.size w2 (((w2.alloc (.cells #[FV] 46)).alloc (.cells #[.slice pv L.length cv] 22)).alloc (.cells #[.int .i64 16] 3))) := (((Below.refl _ w2).alloc (Nat.le_refl _) _).alloc (by simp) _).alloc (by simp; omega) _
  have HSl := Lib.hid (HS2.out.keep HB3.out)
  have HOl := Lib.hid (own_keepX HO2.out HB3.out)
  have HBl : Hid (Below w.heap.size w (((w2.alloc (.cells #[FV] 46)).alloc (.cells #[.slice pv L.length cv] 22)).alloc (.cells #[.int .i64 16] 3))) := HB2.out.trans (HB3.out.mono HB2.out.size)
  have HNUM : Hid (gb < w2.heap.size ∧ gi < w2.heap.size ∧ gc < w2.heap.size ∧ w.heap.size ≤ gb ∧ w.heap.size ≤ gi) := ⟨lt_of_block HS2.out.blk.choose_spec, lt_of_block HS2.out.ctr, lt_of_block HS2.out.box, Nat.le_trans HB1.out.size hgb, Nat.le_trans HB1.out.size hgi⟩
  have HGN : Hid (∀ j, w2.heap.size ≤ j → j ≤ w2.heap.size + 1 + 1 → Value.ownBlock (.slice pv L.length cv) ≠ some j) := fun j h1 _ e => by have := (HO2.out.lt j e).2; omega
  have HFV := Lib.hid hFV
  clear hFV HS2 HO2 HB2 HB3 HB1 hgb hgi hgc HC Hp Hp0
  generalize ((w2.alloc (.cells #[FV] 46)).alloc (.cells #[.slice pv L.length cv] 22)).alloc (.cells #[.int .i64 16] 3) = wl at *
  generalize w2.heap.size = gn at *
  have hi0 : 0 ≤ e % 18446744073709551616 := by omega
  generalize e % 18446744073709551616 = e2 at *
  generalize n % 18446744073709551616 = n2 at *
  refine wpIn_rangeFunc_ownG (F := Fence.wide) (n := 3) rfl (by omega) (gf := 52) (lb := #[.pointer (some ⟨gn + 1, 0, none⟩), .pointer (some ⟨gn + 1 + 1, 0, none⟩)]) rfl trivial (enters_of Try.func52 (by kernel_rfl) rfl)
    (chunk_stops (gn + 1) (gn + 1 + 1) g L.length cv pv HPV.out.1 hL HPV.out.2.1 HPV.out.2.2 wl HBS.out HBN.out)
    (fun h k => ⟨k.1.trans h.1, k.2.trans h.2⟩)
    (fun W l o o' hl ho hc _ => ⟨World.putObj_heap_other (by have := lt_of_block HBS.out; omega), World.putObj_heap_other (by have := lt_of_block HBN.out; omega)⟩) (Below.refl _ _) (fun _ => rfl)
    (XI w gn gb gi gc c ks (Ctr.sblk ks N e2 n2) e2 n2 L (.slice pv L.length cv) FV) (fun _ _ _ => False) (xi_from (HBl.out.size)) (fun _ _ _ _ _ hs _ _ => hs)
    ⟨HSl.out, HFN.out, by rw [Ctr.st_nil]; exact HOl.out, HBl.out, lt_of_block HBN.out⟩
    (fun x => { tmps := #[.pointer (some ⟨c, 0, none⟩), .int .i64 e, .int .i64 n, .slice p L.length cap, undef, undef, undef, undef, .slice none 0 0, .slice pv L.length cv, .pointer (some ⟨gn, 0, none⟩), .slice (some ⟨g, 16 * x, none⟩) (min 16 (L.length - 16 * x)) (min 16 (L.length - 16 * x)), undef, undef, .slice p L.length cap, .slice pv L.length cv, .pointer (some ⟨c, 0, none⟩), .int .i64 e, .int .i64 n, FV, .slice pv L.length cv, .func (.func 52) #[] #[.pointer (some ⟨gn + 1, 0, none⟩), .pointer (some ⟨gn + 1 + 1, 0, none⟩)], .slice (some ⟨g, 16 * x, none⟩) (min 16 (L.length - 16 * x)) (min 16 (L.length - 16 * x)), undef, undef, undef, undef, undef, undef, undef, undef, undef, undef, undef, undef, undef, undef, undef, undef, undef, undef], defers := [] }) ?assign ?body ?done ?stop
  case assign =>
    intro l x W K hK
    unfold Ctr.encs
    gi_wp2
    exact hK
  case body =>
    rintro l pre x W ⟨hS, hF, hO, hB, hG⟩ hlen
    have HS := Lib.hid hS; have HF := Lib.hid hF; have HO := Lib.hid hO; have HB := Lib.hid hB; have HG := Lib.hid hG
    clear hS hF hO hB hG
    obtain ⟨m, hm⟩ : ∃ m, m = min 16 (L.length - 16 * x) := ⟨_, rfl⟩
    rw [← hm]
    have hm16 : m ≤ 16 := by omega
    have hmL : 0 < m → 16 * x + m ≤ L.length := by omega
    have HST : Hid ((Ctr.st (Ctr.sblk ks N e2 n2) L (pre ++ [x])).1 = Ctr.xr (Ctr.st (Ctr.sblk ks N e2 n2) L pre).1 (Ctr.sblk ks N e2 n2 pre.length) (16 * x) m) := by
      show _ = _
      rw [Ctr.st_snoc, Ctr.step, Ctr.st_two, hm]
    have hpre : pre.length < 4294967296 := by unfold Ctr.nch at hlen; omega
    have HLL : Hid ((Ctr.st (Ctr.sblk ks N e2 n2) L pre).1.length = L.length) := Ctr.st_len _ _ _
    generalize (Ctr.st (Ctr.sblk ks N e2 n2) L pre).1 = L1 at *
    have HM := Lib.hid hm; clear hm
    have HLEN := Lib.hid hlen; clear hlen
    have cF : W.cell? ⟨gn, 0, none⟩ = some FV := by rw [cell_of_row W gn 0 _ _ _ HF.out]; rfl
    rw [HFV.out] at cF
    obtain ⟨X, HX1, HX2, HX3⟩ : ∃ X : Array Value, Hid (X = ((Ctr.sblk ks N e2 n2 pre.length).map (Value.int .u8)).toArray) ∧ Hid (X.size = 16) ∧ Hid (X.all (·.oneCell') = true) := ⟨_, rfl, by show _ = _; simp [sblk_len], u8_all _⟩
    have HNX : Hid (Calls Try.prog 51 #[.pointer (some ⟨gb, 0, none⟩), .pointer (some ⟨gi, 0, none⟩), .pointer (some ⟨gc, 0, none⟩)] W fun r w' => r = .returned (.agg X) ∧ Strm w' gb gi gc c ks e2 n2 (pre.length + 1) ∧ Only2 gb gi W w') := by
      have h := next_any gb gi gc c ks N e2 n2 pre.length HNN.out.1 HNN.out.2 hpre W HS.out
      unfold NextSay Bk at h
      rw [← HX1.out] at h
      exact h
    gi_wp2_with (first
      | (refine ⟨trivial, ?_⟩; gi_at_call 51; refine (CallsIn.inRound l (callsIn_wide.2 HNX.out)).mono ?_; rintro r W1 ⟨rfl, hs1, ho1⟩; have HS1 := Lib.hid hs1; have HO1 := Lib.hid ho1; clear hs1 ho1; have HZ1 : Hid ((W1.alloc (.cells #[.int .u8 0, .int .u8 0, .int .u8 0, .int .u8 0, .int .u8 0, .int .u8 0, .int .u8 0, .int .u8 0, .int .u8 0, .int .u8 0, .int .u8 0, .int .u8 0, .int .u8 0, .int .u8 0, .int .u8 0, .int .u8 0] 35)).heap[W1.heap.size]? = some (.cells #[.int .u8 0, .int .u8 0, .int .u8 0, .int .u8 0, .int .u8 0, .int .u8 0, .int .u8 0, .int .u8 0, .int .u8 0, .int .u8 0, .int .u8 0, .int .u8 0, .int .u8 0, .int .u8 0, .int .u8 0, .int .u8 0] 35 (0, 0))) := heap_alloc_new _ _)
      | ((with_reducible refine row_storeIn _ _ _ _ _ _ _ ?_ ?_ HZ1.out (row_size Try.size16 HX2) ?_ HX3.out ?_); (exact rfl); (exact rfl); (rw [HX2.out]; rfl); intro W2 G2 ch2))
    obtain ⟨z0, hz0⟩ := HS.out.blk
    have HO1' := Lib.hid (own_only2 HO.out HO1.out hz0 (by decide) HS.out.ctr (by decide))
    have HB1 : Hid (Below w.heap.size w W1) := HO1.out.below HB.out HNUM.out.2.2.2.1 HNUM.out.2.2.2.2 HB.out.size
    have HF1 : Hid (W1.heap[gn]? = some (.cells #[FV] 46 (0, 0))) := (HO1.out.block _ (lt_of_block HF.out) (by have := HNUM.out; omega) (by have := HNUM.out; omega)).trans HF.out
    have HK1 : Hid (KeepsOthers W W1) := others_only2 HO1.out ⟨_, _, _, hz0⟩ ⟨_, _, _, HS.out.ctr⟩
    have HP1 : Hid (W1.heap[gn + 1]? = W.heap[gn + 1]? ∧ W1.heap[gn + 1 + 1]? = W.heap[gn + 1 + 1]?) := ⟨HO1.out.block _ (by have := HG.out; omega) (by have := HNUM.out; omega) (by have := HNUM.out; omega), HO1.out.block _ HG.out (by have := HNUM.out; omega) (by have := HNUM.out; omega)⟩
    have HG1 : Hid (gn + 1 + 1 < W1.heap.size) := Nat.lt_of_lt_of_le HG.out HO1.out.size
    have HB12 : Hid (Below W1.heap.size W1 W2) := ch2.below ((Below.refl _ W1).alloc (Nat.le_refl _) _) (Nat.le_refl _)
    have HK2 : Hid (KeepsOthers W W2) := HK1.out.trans ((KeepsOthers.alloc W1 _).trans (others_chg ch2 ⟨_, _, _, HZ1.out⟩))
    have HS2 := Lib.hid (HS1.out.keep HB12.out)
    have HO2 := Lib.hid (own_keepX HO1'.out HB12.out)
    have HF2 : Hid (W2.heap[gn]? = some (.cells #[FV] 46 (0, 0))) := (HB12.out.block _ (lt_of_block HF1.out)).trans HF1.out
    have HB2 : Hid (Below w.heap.size w W2) := HB1.out.trans (HB12.out.mono HB1.out.size)
    have HP2 : Hid (W2.heap[gn + 1]? = W.heap[gn + 1]? ∧ W2.heap[gn + 1 + 1]? = W.heap[gn + 1 + 1]?) := ⟨(HB12.out.block _ (by have := HG1.out; omega)).trans HP1.out.1, (HB12.out.block _ HG1.out).trans HP1.out.2⟩
    have HG2 : Hid (gn + 1 + 1 < W2.heap.size) := Nat.lt_of_lt_of_le HG1.out HB12.out.size
    have HGX : Hid (∀ j, j < 16 → W2.cell? ⟨W1.heap.size, j, none⟩ = some (.int .u8 ((Ctr.sblk ks N e2 n2 pre.length).getD j 0))) := fun j hj => by
      have h := G2.out
      rw [HX1.out] at h
      exact u8_cell h j (by rw [sblk_len]; exact hj)
    have HNE : Hid (∀ k, Value.ownBlock (.slice pv L.length cv) = some k → k < W1.heap.size) := fun k hk => (HO1'.out.lt k hk).2
    clear HS HF HO HB HG HS1 HO1 HO1' HB1 HF1 HK1 HP1 HG1 HB12 HZ1 ch2 G2 HNX HX1 HX2 HX3 cF hz0
    generalize W1.heap.size = gx at *
    gi_loopw [27] (fun v27 wr => ∃ k : Nat, k ≤ m ∧ v27 = .int .i64 k ∧ Hid (wr.ownsRow w.heap.size 5 1 (.slice pv L.length cv) L.length (U8s (Ctr.xr L1 (Ctr.sblk ks N e2 n2 pre.length) (16 * x) k))) ∧ Hid (Only g W2 wr) ∧ Hid (m = 0 → wr = W2)) (fun v27 _ => m - (intOf v27).toNat)
    case atStart => exact ⟨0, Nat.zero_le _, rfl, by rw [Ctr.xr]; exact HO2.out, Only.refl _ _, fun _ => rfl⟩
    case round =>
      obtain ⟨k, hk, rfl, HO, HC, HKM⟩ := hrel
      by_cases hlt : k < m
      · have hin := hmL (by omega)
        obtain rfl := HPV.out.1 (by omega)
        have hgx : g < gx := HNE.out g rfl
        have c0 := u8_at HO.out (16 * x + k) (by omega)
        have f0 := HO.out.frozenAt (16 * x + k)
        have c1 := HC.out.cell (by omega) (HGX.out k (by omega))
        have HXR : Hid (Ctr.xr L1 (Ctr.sblk ks N e2 n2 pre.length) (16 * x) (k + 1) = (Ctr.xr L1 (Ctr.sblk ks N e2 n2 pre.length) (16 * x) k).set (16 * x + k) (bits .xor .u8 ((Ctr.xr L1 (Ctr.sblk ks N e2 n2 pre.length) (16 * x) k).getD (16 * x + k) 0) ((Ctr.sblk ks N e2 n2 pre.length).getD k 0))) := by
          show _ = _
          rw [Ctr.xr]
        generalize (Ctr.sblk ks N e2 n2 pre.length).getD k 0 = y1 at *
        generalize (Ctr.xr L1 (Ctr.sblk ks N e2 n2 pre.length) (16 * x) k).getD (16 * x + k) 0 = y0 at *
        have hk0 : (0 : Int) ≤ (k : Int) := by omega
        have hk1 : (k : Int) < (m : Int) := by omega
        have hk2 : (k : Int) < 16 := by omega
        have hk3 : k < 16 := by omega
        gi_wp2
        refine wpIn_region_any (by kernel_rfl) ?_
        change wpAnyIn _ _ _ _ _ _ _ _ _ (World.drew _)
        have HSd : Hid (wr.drew.cell? ⟨g, 16 * x + k, none⟩ = some (.int .u8 y0) ∧ wr.drew.cell? ⟨gx, k, none⟩ = some (.int .u8 y1) ∧ wr.drew.frozen? ⟨g, 16 * x + k, none⟩ = false) := ⟨c0, c1, f0⟩
        have HOd : Hid (wr.drew.ownsRow w.heap.size 5 1 (.slice (some ⟨g, 0, none⟩) L.length cv) L.length (U8s (Ctr.xr L1 (Ctr.sblk ks N e2 n2 pre.length) (16 * x) k))) := HO.out.drew
        have HCd : Hid (Only g W2 wr.drew) := HC.out.drew
        clear c0 c1 f0 HO HC HKM
        generalize wr.drew = wd at *
        refine anyC_in (S := fun z : World => z.cell? ⟨g, 16 * x + k, none⟩ = some (.int .u8 y0) ∧ z.cell? ⟨gx, k, none⟩ = some (.int .u8 y1) ∧ z.frozen? ⟨g, 16 * x + k, none⟩ = false) (k := 9) (by kernel_rfl) _ _ _ _ ?_
        refine anyC_take (by kernel_rfl) 9 0 30 (.slice (some ⟨g, 16 * x, none⟩) m m) HSd.out rfl (by kernel_rfl) (by kernel_rfl) (by kernel_rfl) (by intro z hz; obtain ⟨s0, s1, s2⟩ := hz; go_simp; try (intro h; omega)) ?_
        try simp only [Act.put, List.setIfInBounds_toArray, List.set_cons_zero, List.set_cons_succ]
        refine anyC_take (by kernel_rfl) 9 1 31 (.int .i64 (k : Int)) HSd.out rfl (by kernel_rfl) (by kernel_rfl) (by kernel_rfl) (by intro z hz; obtain ⟨s0, s1, s2⟩ := hz; go_simp; try (intro h; omega)) ?_
        try simp only [Act.put, List.setIfInBounds_toArray, List.set_cons_zero, List.set_cons_succ]
        refine anyC_take (by kernel_rfl) 9 2 32 (.pointer (some ⟨g, 16 * x + k, none⟩)) HSd.out rfl (by kernel_rfl) (by kernel_rfl) (by kernel_rfl) (by intro z hz; obtain ⟨s0, s1, s2⟩ := hz; go_simp; try (intro h; omega)) ?_
        try simp only [Act.put, List.setIfInBounds_toArray, List.set_cons_zero, List.set_cons_succ]
        refine anyC_take (by kernel_rfl) 9 3 33 (.int .u8 y0) HSd.out rfl (by kernel_rfl) (by kernel_rfl) (by kernel_rfl) (by intro z hz; obtain ⟨s0, s1, s2⟩ := hz; go_simp; try (intro h; omega)) ?_
        try simp only [Act.put, List.setIfInBounds_toArray, List.set_cons_zero, List.set_cons_succ]
        refine anyC_take (by kernel_rfl) 9 4 34 (.int .i64 (k : Int)) HSd.out rfl (by kernel_rfl) (by kernel_rfl) (by kernel_rfl) (by intro z hz; obtain ⟨s0, s1, s2⟩ := hz; go_simp; try (intro h; omega)) ?_
        try simp only [Act.put, List.setIfInBounds_toArray, List.set_cons_zero, List.set_cons_succ]
        refine anyC_take (by kernel_rfl) 9 5 35 (.pointer (some ⟨gx, k, none⟩)) HSd.out rfl (by kernel_rfl) (by kernel_rfl) (by kernel_rfl) (by intro z hz; obtain ⟨s0, s1, s2⟩ := hz; go_simp; try (intro h; omega)) ?_
        try simp only [Act.put, List.setIfInBounds_toArray, List.set_cons_zero, List.set_cons_succ]
        refine anyC_take (by kernel_rfl) 9 6 36 (.int .u8 y1) HSd.out rfl (by kernel_rfl) (by kernel_rfl) (by kernel_rfl) (by intro z hz; obtain ⟨s0, s1, s2⟩ := hz; go_simp; try (intro h; omega)) ?_
        try simp only [Act.put, List.setIfInBounds_toArray, List.set_cons_zero, List.set_cons_succ]
        refine anyC_take (by kernel_rfl) 9 7 37 (.int .u8 (bits .xor .u8 y0 y1)) HSd.out rfl (by kernel_rfl) (by kernel_rfl) (by kernel_rfl) (by intro z hz; obtain ⟨s0, s1, s2⟩ := hz; go_simp; try (intro h; omega)) ?_
        try simp only [Act.put, List.setIfInBounds_toArray, List.set_cons_zero, List.set_cons_succ]
        refine anyC_take (by kernel_rfl) 9 8 38 (.pointer (some ⟨g, 16 * x + k, none⟩)) HSd.out rfl (by kernel_rfl) (by kernel_rfl) (by kernel_rfl) (by intro z hz; obtain ⟨s0, s1, s2⟩ := hz; go_simp; try (intro h; omega)) ?_
        try simp only [Act.put, List.setIfInBounds_toArray, List.set_cons_zero, List.set_cons_succ]
        obtain ⟨s0, s1, s2⟩ := HSd.out
        refine anyC_one 9 9 rfl (by kernel_rfl) ?_
        refine opC_store (w' := wd.setCell ⟨g, 16 * x + k, none⟩ (.int .u8 (bits .xor .u8 y0 y1))) (by go_simp) ⟨fun h => absurd rfl h, ?_⟩
        try simp only [Act.put]
        refine anyC_done (by kernel_rfl) ?_ _
        have HO3 : Hid ((wd.setCell ⟨g, 16 * x + k, none⟩ (.int .u8 (bits .xor .u8 y0 y1))).ownsRow w.heap.size 5 1 (.slice (some ⟨g, 0, none⟩) L.length cv) L.length (U8s (Ctr.xr L1 (Ctr.sblk ks N e2 n2 pre.length) (16 * x) (k + 1)))) := by
          have h := (HOd.out.stored (16 * x + k) (.int .u8 (bits .xor .u8 y0 y1))).1
          rw [HXR.out, U8s_set]
          exact h
        have HC3 : Hid (Only g W2 (wd.setCell ⟨g, 16 * x + k, none⟩ (.int .u8 (bits .xor .u8 y0 y1)))) := HCd.out.trans (Chg.setCell wd ⟨g, 16 * x + k, none⟩ _).only
        clear s0 s1 s2 HSd HOd HCd HXR
        generalize wd.setCell ⟨g, 16 * x + k, none⟩ (.int .u8 (bits .xor .u8 y0 y1)) = w5 at *
        gi_wp2
        go_roundw
        case rel => exact ⟨k + 1, by omega, by go_num, HO3.out, HC3.out, fun h => by omega⟩
        case measure => simp [intOf]; omega
      · obtain rfl : k = m := by omega
        have hge : (k : Int) ≤ (k : Int) := Int.le_refl _
        gi_wp2
        have hlen2 : (pre ++ [x]).length = pre.length + 1 := by simp
        by_cases h0 : k = 0
        · obtain rfl := HKM.out h0
          refine ⟨HK2.out.from _, HP2.out, ?_, HF2.out, ?_, HB2.out, HG2.out⟩
          · rw [hlen2]; exact HS2.out
          · rw [HST.out]; exact HO.out
        · obtain rfl := HPV.out.1 (by have := hmL (by omega); omega)
          obtain ⟨A, hA⟩ : ∃ A, W2.heap[g]? = some (.cells A 5 (0, 0)) := by
            rcases HO2.out.2 with ⟨h', _⟩ | ⟨g', cap', cur', hv, _, hg', _⟩
            · cases h'
            · simp only [Value.slice.injEq, Option.some.injEq, Addr.mk.injEq, and_true, true_and] at hv
              obtain ⟨rfl, rfl⟩ := hv
              exact ⟨_, hg'⟩
          have hgl := HO2.out.lt g rfl
          have hgn : ∀ j, gn ≤ j → j ≤ gn + 1 + 1 → j ≠ g := fun j h1 h2 e => HGN.out j h1 h2 (by rw [e]; rfl)
          have hc := HC.out
          refine ⟨(HK2.out.trans (others_only hc ⟨_, _, _, hA⟩)).from _, ⟨(hc.block _ (by have := HG2.out; omega) (hgn _ (by omega) (by omega))).trans HP2.out.1, (hc.block _ HG2.out (hgn _ (by omega) (by omega))).trans HP2.out.2⟩, ?_, (hc.block _ (lt_of_block HF2.out) (hgn _ (by omega) (by omega))).trans HF2.out, ?_, hc.below HB2.out hgl.1 HB2.out.size, Nat.lt_of_lt_of_le HG2.out hc.size⟩
          · rw [hlen2]; exact HS2.out.only hA hc
          · rw [HST.out]; exact HO.out
  case done =>
    rintro D ys W hD rfl ⟨hS, hF, hO, hB, _⟩ hK
    gi_wp2
    refine ⟨by simp, .inl ⟨_, _, rfl, run_takeDeferred hK, ?_⟩⟩
    refine ⟨_, results_tmp rfl _ _ _, _, rfl, ?_, ?_⟩
    · rw [← Ctr.st_all]
      exact own_kept (grownBy_putObj' W D _) (fun r e => by cases e; exact ⟨_, hK, rfl⟩) hO
    · exact hB.grown (grownBy_putObj' W D _) hB.size (fun k e => by cases e; exact Nat.le_trans HBl.out.size hD)
  case stop =>
    rintro D c pre W _ _ h _
    exact h.elim
end Go.Proofs.Ytkajigfdfbgphaa
