/-
  rilllaw03.AesUnlike walked.
-/
import Derived.Test.YtjidkkehhglahaaAesX
import Derived.Test.YtjidkkehhglahaaAesP
namespace Go.Proofs.Ytjidkkehhglahaa
open Go.RowKit

section
variable {P : Program} {md : Region.Mode} {ops : Array Oper} {Q : Exit → Act → World → Prop} {S : World → Prop}
/-- A guarded operation that is wanted, taken first. -/
theorem anyL_take_g (k i D : Nat) (v : Value) {fuel : Nat} {listed : Array Bool} {a : Act} {w : World} {op : Op} {T : TypeId} {ps : String} {af : Array Edge} {gd : Option (Nat × Bool)} (hS : S w) (ho : ops[i]? = some { dst := some D, op := op, type := T, pos := ps, after := af, guard := gd })
    (hs : Region.noSelect ops = true) (hf : Region.free md ops listed i = true) (hr : (Region.ready md ops listed).contains i = true) (hk : Region.waitsFor md ops k i = true)
    (hQ : ∀ c a w, Q (.panic c) (a.put (some D) v) w → Q (.panic c) a w) (hw : Region.wanted { dst := some D, op := op, type := T, pos := ps, after := af, guard := gd } (yielded ops a.tmps) = true) (hy : ∀ w, S w → (execOp a.eval { dst := some D, op := op, type := T, pos := ps, after := af, guard := gd }).run P w = .ok (.value v) w)
    (h : wpAnyL P md ops Q S k fuel (listed.setIfInBounds i true) (a.put (some D) v) w) : wpAnyL P md ops Q S k (fuel + 1) listed a w :=
  wpAnyL_first ho (Region.noSelect_spec hs) hk hQ fuel listed a w (Region.free_spec ho hf) (by simpa using hr) (Or.inl ⟨hw, hy⟩) hS h
end

set_option maxHeartbeats 4000000 in
set_option maxRecDepth 100000 in
theorem unlike_16 (p : Option Addr) (cap : Nat) (A B X Y : Array Value) (r : Bool) (AS : Hid (A.size = 16)) (BS : Hid (B.size = 16)) (XS : Hid (X.size = 16)) (YS : Hid (Y.size = 16)) (XO : Hid (X.all (·.oneCell') = true)) (YO : Hid (Y.all (·.oneCell') = true)) (KC : World → Nat → Prop) (w : World)
    (HNW : Hid (∀ x, Below w.heap.size w x → Calls Try.prog 9 #[.slice p 16 cap] x fun e x' => ∃ c, e = .returned (.tuple #[.pointer (some ⟨c, 0, none⟩), .int .i64 0]) ∧ Hid (KC x' c) ∧ Hid (Below x.heap.size x x')))
    (HKP : Hid (∀ x x' c, KC x c → Below x.heap.size x x' → KC x' c))
    (HBA : Hid (∀ c x, KC x c → Calls Try.prog 13 #[.pointer (some ⟨c, 0, none⟩), .agg A] x fun e x' => e = .returned (.agg X) ∧ Below x.heap.size x x'))
    (HBB : Hid (∀ c x, KC x c → Calls Try.prog 13 #[.pointer (some ⟨c, 0, none⟩), .agg B] x fun e x' => e = .returned (.agg Y) ∧ Below x.heap.size x x'))
    (HXY : ∀ x, (Op.equalIn 10000 35 (.agg X) (.agg Y)).run Try.prog x = .ok r x) (HAB : ∀ x, (Op.equalIn 10000 35 (.agg A) (.agg B)).run Try.prog x = .ok r x) (HXX : ∀ x, (Op.equalIn 10000 35 (.agg X) (.agg X)).run Try.prog x = .ok true x) :
    Calls Try.prog 4 #[.slice p 16 cap, .agg A, .agg B] w (YesSay w) := by
  have hng := Try.noGuard
  have ZS : Hid ((#[.int .u8 0, .int .u8 0, .int .u8 0, .int .u8 0, .int .u8 0, .int .u8 0, .int .u8 0, .int .u8 0, .int .u8 0, .int .u8 0, .int .u8 0, .int .u8 0, .int .u8 0, .int .u8 0, .int .u8 0, .int .u8 0] : Array Value).size = 16) := rfl
  go_enter Try.func4, Try.ntmps4
  go_upto_region 1 with fail
  have HA1 : Hid (((w.alloc (.cells A 35)).alloc (.cells B 35)).heap[w.heap.size]? = some (.cells A 35 (0, 0))) := heap_alloc2_old w _ _
  have HB1 : Hid (((w.alloc (.cells A 35)).alloc (.cells B 35)).heap[w.heap.size + 1]? = some (.cells B 35 (0, 0))) := heap_alloc2_new w _ _
  have HW1 : Hid (Below w.heap.size w ((w.alloc (.cells A 35)).alloc (.cells B 35))) := ((Below.refl _ w).alloc (Nat.le_refl _) _).alloc (by simp) _
  generalize (w.alloc (.cells A 35)).alloc (.cells B 35) = w1 at *
  have HAW : Hid (∀ x, Below w1.heap.size w1 x → x.heap[w.heap.size]? = some (.cells A 35 (0, 0))) := fun x hx => (hx.block _ (lt_of_block HA1.out)).trans HA1.out
  have HBW : Hid (∀ x, Below w1.heap.size w1 x → x.heap[w.heap.size + 1]? = some (.cells B 35 (0, 0))) := fun x hx => (hx.block _ (lt_of_block HB1.out)).trans HB1.out
  have R0 : Hid (Below w1.heap.size w1 w1) := Below.refl _ _
  clear HA1 HB1
  go_upto_region 8 with (first
    | ((with_reducible refine row_store _ _ _ _ _ _ _ ?_ ?_ (heap_alloc_new _ _) (row_size Try.size16 YS) ?_ YO.out ?_); (exact rfl); (exact rfl); (rw [YS.out]; exact ZS.out.symm); intro x5 G5 ch5; have R5 : Hid (Below w1.heap.size w1 x5) := ch5.below (R4.out.alloc R4.out.size _) R4.out.size; have HX5 : Hid (x5.heap[g9]? = some (.cells X 35 (0, 0))) := (ch5.block _ (by have := lt_of_block HX4.out; omega)).trans ((heap_alloc_old _ _ (lt_of_block HX4.out)).trans HX4.out); have HK5 : Hid (KC x5 c) := HKP.out _ _ _ HK4.out (ch5.below ((Below.refl _ x4).alloc (Nat.le_refl _) _) (Nat.le_refl _)); have HY5 := Lib.hid G5.out; clear R4 HX4 HK4 ch5 G5)
    | (go_at_call 13; have R := R3.out; refine (HBB.out c _ HK3.out).mono ?_; rintro e x4 ⟨rfl, hb⟩; have R4 : Hid (Below w1.heap.size w1 x4) := R.trans (hb.mono R.size); have HX4 : Hid (x4.heap[g9]? = some (.cells X 35 (0, 0))) := (hb.block _ (lt_of_block HX3.out)).trans HX3.out; have HK4 : Hid (KC x4 c) := HKP.out _ _ _ HK3.out hb; clear R3 HX3 HK3 hb R)
    | ((with_reducible refine row_load _ _ _ _ B _ _ ?_ (HBW.out _ R3.out) Try.underlying35 ?_ (row_size Try.size16 BS) ?_); (exact rfl); (exact rfl))
    | ((with_reducible refine row_store _ _ _ _ _ _ _ ?_ ?_ (heap_alloc_new _ _) (row_size Try.size16 XS) ?_ XO.out ?_); (exact rfl); (exact rfl); (rw [XS.out]; exact ZS.out.symm); intro x3 G3 ch3; have R3 : Hid (Below w1.heap.size w1 x3) := ch3.below (R2.out.alloc R2.out.size _) R2.out.size; have HK3 : Hid (KC x3 c) := HKP.out _ _ _ HK2.out (ch3.below ((Below.refl _ x2).alloc (Nat.le_refl _) _) (Nat.le_refl _)); have HX3 := Lib.hid G3.out; clear R2 HK2 ch3 G3; generalize x2.heap.size = g9 at *)
    | (go_at_call 13; have R := R1.out; refine (HBA.out c _ HK1.out).mono ?_; rintro e x2 ⟨rfl, hb⟩; have R2 : Hid (Below w1.heap.size w1 x2) := R.trans (hb.mono R.size); have HK2 : Hid (KC x2 c) := HKP.out _ _ _ HK1.out hb; clear R1 HK1 hb R)
    | ((with_reducible refine row_load _ _ _ _ A _ _ ?_ (HAW.out _ R1.out) Try.underlying35 ?_ (row_size Try.size16 AS) ?_); (exact rfl); (exact rfl))
    | (go_at_call 9; have R := R0.out; refine (HNW.out _ HW1.out).mono ?_; rintro e x1 ⟨c, rfl, HK1, HQ⟩; have R1 : Hid (Below w1.heap.size w1 x1) := R.trans (HQ.out.mono R.size); clear R0 HQ R))
  generalize x4.heap.size = g10 at *
  refine wp_region_any (by kernel_rfl) ?_
  change wpAny _ _ _ _ _ _ _ (World.drew _)
  have HA8 : Hid (x5.drew.heap[w.heap.size]? = some (.cells A 35 (0, 0))) := HAW.out _ R5.out.drew
  have HB8 : Hid (x5.drew.heap[w.heap.size + 1]? = some (.cells B 35 (0, 0))) := HBW.out _ R5.out.drew
  have HX8 : Hid (x5.drew.heap[g9]? = some (.cells X 35 (0, 0))) := HX5.out
  have HY8 : Hid (x5.drew.heap[g10]? = some (.cells Y 35 (0, 0))) := HY5.out
  have HKC8 : Hid (KC x5.drew c) := HKP.out _ _ _ HK5.out (Below.refl _ _).drew
  have HW8 : Hid (Below w.heap.size w x5.drew) := (HW1.out.trans (R5.out.mono HW1.out.size)).drew
  clear HAW HBW R5 HX5 HY5 HK5 HW1
  generalize x5.drew = w8 at *
  have Sz0 : Hid (Below w8.heap.size w8 w8) := Below.refl _ _
  refine wpAny_of_L (S := fun x : World => Below w8.heap.size w8 x) (k := 17) _ _ _ _ ?_
  refine anyL_take 17 0 50 (.agg X) Sz0.out rfl (by kernel_rfl) (by kernel_rfl) (by kernel_rfl) (by kernel_rfl) (fun _ _ _ h => h) (fun x hx => exec_row _ _ g9 _ X _ _ rfl ((hx.block _ (lt_of_block HX8.out)).trans HX8.out) Try.underlying35 rfl (row_size Try.size16 XS)) ?_
  try simp only [Act.put, List.setIfInBounds_toArray, List.set_cons_zero, List.set_cons_succ]
  refine anyL_take 17 1 51 (.agg Y) Sz0.out rfl (by kernel_rfl) (by kernel_rfl) (by kernel_rfl) (by kernel_rfl) (fun _ _ _ h => h) (fun x hx => exec_row _ _ g10 _ Y _ _ rfl ((hx.block _ (lt_of_block HY8.out)).trans HY8.out) Try.underlying35 rfl (row_size Try.size16 YS)) ?_
  try simp only [Act.put, List.setIfInBounds_toArray, List.set_cons_zero, List.set_cons_succ]
  refine anyL_take 17 2 52 (.bool r) Sz0.out rfl (by kernel_rfl) (by kernel_rfl) (by kernel_rfl) (by kernel_rfl) (fun _ _ _ h => h) (by intro x hx; go_simp) ?_
  try simp only [Act.put, List.setIfInBounds_toArray, List.set_cons_zero, List.set_cons_succ]
  refine anyL_take 17 3 53 (.agg A) Sz0.out rfl (by kernel_rfl) (by kernel_rfl) (by kernel_rfl) (by kernel_rfl) (fun _ _ _ h => h) (fun x hx => exec_row _ _ w.heap.size _ A _ _ rfl ((hx.block _ (lt_of_block HA8.out)).trans HA8.out) Try.underlying35 rfl (row_size Try.size16 AS)) ?_
  try simp only [Act.put, List.setIfInBounds_toArray, List.set_cons_zero, List.set_cons_succ]
  refine anyL_take 17 4 54 (.agg B) Sz0.out rfl (by kernel_rfl) (by kernel_rfl) (by kernel_rfl) (by kernel_rfl) (fun _ _ _ h => h) (fun x hx => exec_row _ _ (w.heap.size + 1) _ B _ _ rfl ((hx.block _ (lt_of_block HB8.out)).trans HB8.out) Try.underlying35 rfl (row_size Try.size16 BS)) ?_
  try simp only [Act.put, List.setIfInBounds_toArray, List.set_cons_zero, List.set_cons_succ]
  refine anyL_take 17 5 55 (.bool r) Sz0.out rfl (by kernel_rfl) (by kernel_rfl) (by kernel_rfl) (by kernel_rfl) (fun _ _ _ h => h) (by intro x hx; go_simp) ?_
  try simp only [Act.put, List.setIfInBounds_toArray, List.set_cons_zero, List.set_cons_succ]
  refine anyL_take 17 6 56 (.bool true) Sz0.out rfl (by kernel_rfl) (by kernel_rfl) (by kernel_rfl) (by kernel_rfl) (fun _ _ _ h => h) (by intro x hx; go_simp) ?_
  try simp only [Act.put, List.setIfInBounds_toArray, List.set_cons_zero, List.set_cons_succ]
  refine anyL_take 17 7 57 (.bool true) Sz0.out rfl (by kernel_rfl) (by kernel_rfl) (by kernel_rfl) (by kernel_rfl) (fun _ _ _ h => h) (by intro x hx; go_simp) ?_
  try simp only [Act.put, List.setIfInBounds_toArray, List.set_cons_zero, List.set_cons_succ]
  refine anyL_take_g 17 8 58 (.pointer (some ⟨c, 0, none⟩)) Sz0.out rfl (by kernel_rfl) (by kernel_rfl) (by kernel_rfl) (by kernel_rfl) (fun _ _ _ h => h) (by rfl) (by intro x hx; go_simp) ?_
  try simp only [Act.put, List.setIfInBounds_toArray, List.set_cons_zero, List.set_cons_succ]
  refine anyL_take_g 17 9 59 (.agg A) Sz0.out rfl (by kernel_rfl) (by kernel_rfl) (by kernel_rfl) (by kernel_rfl) (fun _ _ _ h => h) (by rfl) (fun x hx => exec_row _ _ w.heap.size _ A _ _ rfl ((hx.block _ (lt_of_block HA8.out)).trans HA8.out) Try.underlying35 rfl (row_size Try.size16 AS)) ?_
  try simp only [Act.put, List.setIfInBounds_toArray, List.set_cons_zero, List.set_cons_succ]
  refine anyL_take_g 17 11 61 (.agg X) Sz0.out rfl (by kernel_rfl) (by kernel_rfl) (by kernel_rfl) (by kernel_rfl) (fun _ _ _ h => h) (by rfl) (fun x hx => exec_row _ _ g9 _ X _ _ rfl ((hx.block _ (lt_of_block HX8.out)).trans HX8.out) Try.underlying35 rfl (row_size Try.size16 XS)) ?_
  try simp only [Act.put, List.setIfInBounds_toArray, List.set_cons_zero, List.set_cons_succ]
  refine anyL_one 17 10 (by kernel_rfl) ?_
  refine wpOp_step rfl (fun Kc hKc => ?_)
  go_simp
  refine (HBA.out c _ (HKC8.out)).mono ?_
  rintro e z1 ⟨rfl, hb⟩
  have Sz1 : Hid (Below w8.heap.size w8 z1) := hb
  clear hb
  dsimp only
  refine hKc _ _ ⟨fun _ => Sz1.out, ?_⟩
  clear hKc Kc
  try simp only [Act.put, List.setIfInBounds_toArray, List.set_cons_zero, List.set_cons_succ]
  refine anyL_take_g 17 12 62 (.bool true) Sz1.out rfl (by kernel_rfl) (by kernel_rfl) (by kernel_rfl) (by kernel_rfl) (fun _ _ _ h => h) (by rfl) (by intro x hx; go_simp) ?_
  try simp only [Act.put, List.setIfInBounds_toArray, List.set_cons_zero, List.set_cons_succ]
  refine anyL_take 17 13 63 (.bool true) Sz1.out rfl (by kernel_rfl) (by kernel_rfl) (by kernel_rfl) (by kernel_rfl) (fun _ _ _ h => h) (by intro x hx; go_simp) ?_
  try simp only [Act.put, List.setIfInBounds_toArray, List.set_cons_zero, List.set_cons_succ]
  refine anyL_take 17 14 64 (.bool true) Sz1.out rfl (by kernel_rfl) (by kernel_rfl) (by kernel_rfl) (by kernel_rfl) (fun _ _ _ h => h) (by intro x hx; go_simp) ?_
  try simp only [Act.put, List.setIfInBounds_toArray, List.set_cons_zero, List.set_cons_succ]
  refine anyL_one 17 15 (by kernel_rfl) ?_
  refine wpOp_step rfl (fun Kc hKc => ?_)
  go_simp
  refine (known_any _).mono ?_
  rintro e z2 ⟨rfl, hb⟩
  have Sz2 : Hid (Below w8.heap.size w8 z2) := Sz1.out.trans (hb.mono Sz1.out.size)
  clear hb
  dsimp only
  refine hKc _ _ ⟨fun _ => Sz2.out, ?_⟩
  clear hKc Kc
  try simp only [Act.put, List.setIfInBounds_toArray, List.set_cons_zero, List.set_cons_succ]
  refine anyL_take 17 16 66 (.bool true) Sz2.out rfl (by kernel_rfl) (by kernel_rfl) (by kernel_rfl) (by kernel_rfl) (fun _ _ _ h => h) (by intro x hx; go_simp) ?_
  try simp only [Act.put, List.setIfInBounds_toArray, List.set_cons_zero, List.set_cons_succ]
  refine anyL_one 17 17 (by kernel_rfl) ?_
  refine wpOp_step rfl (fun Kc hKc => ?_)
  go_simp
  refine hKc _ _ ⟨fun h => absurd rfl h, ?_⟩
  clear hKc Kc
  try simp only [Act.put, List.setIfInBounds_toArray, List.set_cons_zero, List.set_cons_succ]
  refine anyL_done (by kernel_rfl) ?_ _
  have FIN : Hid (Below w.heap.size w z2) := HW8.out.trans (Sz2.out.mono HW8.out.size)
  clear HA8 HB8 HX8 HY8 HKC8 HBA HBB HNW
  go_wp2
  go_ret
  exact ⟨rfl, FIN.out⟩

set_option maxHeartbeats 4000000 in
set_option maxRecDepth 100000 in
theorem unlike_24 (p : Option Addr) (cap : Nat) (A B X Y : Array Value) (r : Bool) (AS : Hid (A.size = 16)) (BS : Hid (B.size = 16)) (XS : Hid (X.size = 16)) (YS : Hid (Y.size = 16)) (XO : Hid (X.all (·.oneCell') = true)) (YO : Hid (Y.all (·.oneCell') = true)) (KC : World → Nat → Prop) (w : World)
    (HNW : Hid (∀ x, Below w.heap.size w x → Calls Try.prog 9 #[.slice p 24 cap] x fun e x' => ∃ c, e = .returned (.tuple #[.pointer (some ⟨c, 0, none⟩), .int .i64 0]) ∧ Hid (KC x' c) ∧ Hid (Below x.heap.size x x')))
    (HKP : Hid (∀ x x' c, KC x c → Below x.heap.size x x' → KC x' c))
    (HBA : Hid (∀ c x, KC x c → Calls Try.prog 13 #[.pointer (some ⟨c, 0, none⟩), .agg A] x fun e x' => e = .returned (.agg X) ∧ Below x.heap.size x x'))
    (HBB : Hid (∀ c x, KC x c → Calls Try.prog 13 #[.pointer (some ⟨c, 0, none⟩), .agg B] x fun e x' => e = .returned (.agg Y) ∧ Below x.heap.size x x'))
    (HXY : ∀ x, (Op.equalIn 10000 35 (.agg X) (.agg Y)).run Try.prog x = .ok r x) (HAB : ∀ x, (Op.equalIn 10000 35 (.agg A) (.agg B)).run Try.prog x = .ok r x) (HXX : ∀ x, (Op.equalIn 10000 35 (.agg X) (.agg X)).run Try.prog x = .ok true x) :
    Calls Try.prog 4 #[.slice p 24 cap, .agg A, .agg B] w (YesSay w) := by
  have hng := Try.noGuard
  have ZS : Hid ((#[.int .u8 0, .int .u8 0, .int .u8 0, .int .u8 0, .int .u8 0, .int .u8 0, .int .u8 0, .int .u8 0, .int .u8 0, .int .u8 0, .int .u8 0, .int .u8 0, .int .u8 0, .int .u8 0, .int .u8 0, .int .u8 0] : Array Value).size = 16) := rfl
  go_enter Try.func4, Try.ntmps4
  go_upto_region 1 with fail
  have HA1 : Hid (((w.alloc (.cells A 35)).alloc (.cells B 35)).heap[w.heap.size]? = some (.cells A 35 (0, 0))) := heap_alloc2_old w _ _
  have HB1 : Hid (((w.alloc (.cells A 35)).alloc (.cells B 35)).heap[w.heap.size + 1]? = some (.cells B 35 (0, 0))) := heap_alloc2_new w _ _
  have HW1 : Hid (Below w.heap.size w ((w.alloc (.cells A 35)).alloc (.cells B 35))) := ((Below.refl _ w).alloc (Nat.le_refl _) _).alloc (by simp) _
  generalize (w.alloc (.cells A 35)).alloc (.cells B 35) = w1 at *
  have HAW : Hid (∀ x, Below w1.heap.size w1 x → x.heap[w.heap.size]? = some (.cells A 35 (0, 0))) := fun x hx => (hx.block _ (lt_of_block HA1.out)).trans HA1.out
  have HBW : Hid (∀ x, Below w1.heap.size w1 x → x.heap[w.heap.size + 1]? = some (.cells B 35 (0, 0))) := fun x hx => (hx.block _ (lt_of_block HB1.out)).trans HB1.out
  have R0 : Hid (Below w1.heap.size w1 w1) := Below.refl _ _
  clear HA1 HB1
  go_upto_region 8 with (first
    | ((with_reducible refine row_store _ _ _ _ _ _ _ ?_ ?_ (heap_alloc_new _ _) (row_size Try.size16 YS) ?_ YO.out ?_); (exact rfl); (exact rfl); (rw [YS.out]; exact ZS.out.symm); intro x5 G5 ch5; have R5 : Hid (Below w1.heap.size w1 x5) := ch5.below (R4.out.alloc R4.out.size _) R4.out.size; have HX5 : Hid (x5.heap[g9]? = some (.cells X 35 (0, 0))) := (ch5.block _ (by have := lt_of_block HX4.out; omega)).trans ((heap_alloc_old _ _ (lt_of_block HX4.out)).trans HX4.out); have HK5 : Hid (KC x5 c) := HKP.out _ _ _ HK4.out (ch5.below ((Below.refl _ x4).alloc (Nat.le_refl _) _) (Nat.le_refl _)); have HY5 := Lib.hid G5.out; clear R4 HX4 HK4 ch5 G5)
    | (go_at_call 13; have R := R3.out; refine (HBB.out c _ HK3.out).mono ?_; rintro e x4 ⟨rfl, hb⟩; have R4 : Hid (Below w1.heap.size w1 x4) := R.trans (hb.mono R.size); have HX4 : Hid (x4.heap[g9]? = some (.cells X 35 (0, 0))) := (hb.block _ (lt_of_block HX3.out)).trans HX3.out; have HK4 : Hid (KC x4 c) := HKP.out _ _ _ HK3.out hb; clear R3 HX3 HK3 hb R)
    | ((with_reducible refine row_load _ _ _ _ B _ _ ?_ (HBW.out _ R3.out) Try.underlying35 ?_ (row_size Try.size16 BS) ?_); (exact rfl); (exact rfl))
    | ((with_reducible refine row_store _ _ _ _ _ _ _ ?_ ?_ (heap_alloc_new _ _) (row_size Try.size16 XS) ?_ XO.out ?_); (exact rfl); (exact rfl); (rw [XS.out]; exact ZS.out.symm); intro x3 G3 ch3; have R3 : Hid (Below w1.heap.size w1 x3) := ch3.below (R2.out.alloc R2.out.size _) R2.out.size; have HK3 : Hid (KC x3 c) := HKP.out _ _ _ HK2.out (ch3.below ((Below.refl _ x2).alloc (Nat.le_refl _) _) (Nat.le_refl _)); have HX3 := Lib.hid G3.out; clear R2 HK2 ch3 G3; generalize x2.heap.size = g9 at *)
    | (go_at_call 13; have R := R1.out; refine (HBA.out c _ HK1.out).mono ?_; rintro e x2 ⟨rfl, hb⟩; have R2 : Hid (Below w1.heap.size w1 x2) := R.trans (hb.mono R.size); have HK2 : Hid (KC x2 c) := HKP.out _ _ _ HK1.out hb; clear R1 HK1 hb R)
    | ((with_reducible refine row_load _ _ _ _ A _ _ ?_ (HAW.out _ R1.out) Try.underlying35 ?_ (row_size Try.size16 AS) ?_); (exact rfl); (exact rfl))
    | (go_at_call 9; have R := R0.out; refine (HNW.out _ HW1.out).mono ?_; rintro e x1 ⟨c, rfl, HK1, HQ⟩; have R1 : Hid (Below w1.heap.size w1 x1) := R.trans (HQ.out.mono R.size); clear R0 HQ R))
  generalize x4.heap.size = g10 at *
  refine wp_region_any (by kernel_rfl) ?_
  change wpAny _ _ _ _ _ _ _ (World.drew _)
  have HA8 : Hid (x5.drew.heap[w.heap.size]? = some (.cells A 35 (0, 0))) := HAW.out _ R5.out.drew
  have HB8 : Hid (x5.drew.heap[w.heap.size + 1]? = some (.cells B 35 (0, 0))) := HBW.out _ R5.out.drew
  have HX8 : Hid (x5.drew.heap[g9]? = some (.cells X 35 (0, 0))) := HX5.out
  have HY8 : Hid (x5.drew.heap[g10]? = some (.cells Y 35 (0, 0))) := HY5.out
  have HKC8 : Hid (KC x5.drew c) := HKP.out _ _ _ HK5.out (Below.refl _ _).drew
  have HW8 : Hid (Below w.heap.size w x5.drew) := (HW1.out.trans (R5.out.mono HW1.out.size)).drew
  clear HAW HBW R5 HX5 HY5 HK5 HW1
  generalize x5.drew = w8 at *
  have Sz0 : Hid (Below w8.heap.size w8 w8) := Below.refl _ _
  refine wpAny_of_L (S := fun x : World => Below w8.heap.size w8 x) (k := 17) _ _ _ _ ?_
  refine anyL_take 17 0 50 (.agg X) Sz0.out rfl (by kernel_rfl) (by kernel_rfl) (by kernel_rfl) (by kernel_rfl) (fun _ _ _ h => h) (fun x hx => exec_row _ _ g9 _ X _ _ rfl ((hx.block _ (lt_of_block HX8.out)).trans HX8.out) Try.underlying35 rfl (row_size Try.size16 XS)) ?_
  try simp only [Act.put, List.setIfInBounds_toArray, List.set_cons_zero, List.set_cons_succ]
  refine anyL_take 17 1 51 (.agg Y) Sz0.out rfl (by kernel_rfl) (by kernel_rfl) (by kernel_rfl) (by kernel_rfl) (fun _ _ _ h => h) (fun x hx => exec_row _ _ g10 _ Y _ _ rfl ((hx.block _ (lt_of_block HY8.out)).trans HY8.out) Try.underlying35 rfl (row_size Try.size16 YS)) ?_
  try simp only [Act.put, List.setIfInBounds_toArray, List.set_cons_zero, List.set_cons_succ]
  refine anyL_take 17 2 52 (.bool r) Sz0.out rfl (by kernel_rfl) (by kernel_rfl) (by kernel_rfl) (by kernel_rfl) (fun _ _ _ h => h) (by intro x hx; go_simp) ?_
  try simp only [Act.put, List.setIfInBounds_toArray, List.set_cons_zero, List.set_cons_succ]
  refine anyL_take 17 3 53 (.agg A) Sz0.out rfl (by kernel_rfl) (by kernel_rfl) (by kernel_rfl) (by kernel_rfl) (fun _ _ _ h => h) (fun x hx => exec_row _ _ w.heap.size _ A _ _ rfl ((hx.block _ (lt_of_block HA8.out)).trans HA8.out) Try.underlying35 rfl (row_size Try.size16 AS)) ?_
  try simp only [Act.put, List.setIfInBounds_toArray, List.set_cons_zero, List.set_cons_succ]
  refine anyL_take 17 4 54 (.agg B) Sz0.out rfl (by kernel_rfl) (by kernel_rfl) (by kernel_rfl) (by kernel_rfl) (fun _ _ _ h => h) (fun x hx => exec_row _ _ (w.heap.size + 1) _ B _ _ rfl ((hx.block _ (lt_of_block HB8.out)).trans HB8.out) Try.underlying35 rfl (row_size Try.size16 BS)) ?_
  try simp only [Act.put, List.setIfInBounds_toArray, List.set_cons_zero, List.set_cons_succ]
  refine anyL_take 17 5 55 (.bool r) Sz0.out rfl (by kernel_rfl) (by kernel_rfl) (by kernel_rfl) (by kernel_rfl) (fun _ _ _ h => h) (by intro x hx; go_simp) ?_
  try simp only [Act.put, List.setIfInBounds_toArray, List.set_cons_zero, List.set_cons_succ]
  refine anyL_take 17 6 56 (.bool true) Sz0.out rfl (by kernel_rfl) (by kernel_rfl) (by kernel_rfl) (by kernel_rfl) (fun _ _ _ h => h) (by intro x hx; go_simp) ?_
  try simp only [Act.put, List.setIfInBounds_toArray, List.set_cons_zero, List.set_cons_succ]
  refine anyL_take 17 7 57 (.bool true) Sz0.out rfl (by kernel_rfl) (by kernel_rfl) (by kernel_rfl) (by kernel_rfl) (fun _ _ _ h => h) (by intro x hx; go_simp) ?_
  try simp only [Act.put, List.setIfInBounds_toArray, List.set_cons_zero, List.set_cons_succ]
  refine anyL_take_g 17 8 58 (.pointer (some ⟨c, 0, none⟩)) Sz0.out rfl (by kernel_rfl) (by kernel_rfl) (by kernel_rfl) (by kernel_rfl) (fun _ _ _ h => h) (by rfl) (by intro x hx; go_simp) ?_
  try simp only [Act.put, List.setIfInBounds_toArray, List.set_cons_zero, List.set_cons_succ]
  refine anyL_take_g 17 9 59 (.agg A) Sz0.out rfl (by kernel_rfl) (by kernel_rfl) (by kernel_rfl) (by kernel_rfl) (fun _ _ _ h => h) (by rfl) (fun x hx => exec_row _ _ w.heap.size _ A _ _ rfl ((hx.block _ (lt_of_block HA8.out)).trans HA8.out) Try.underlying35 rfl (row_size Try.size16 AS)) ?_
  try simp only [Act.put, List.setIfInBounds_toArray, List.set_cons_zero, List.set_cons_succ]
  refine anyL_take_g 17 11 61 (.agg X) Sz0.out rfl (by kernel_rfl) (by kernel_rfl) (by kernel_rfl) (by kernel_rfl) (fun _ _ _ h => h) (by rfl) (fun x hx => exec_row _ _ g9 _ X _ _ rfl ((hx.block _ (lt_of_block HX8.out)).trans HX8.out) Try.underlying35 rfl (row_size Try.size16 XS)) ?_
  try simp only [Act.put, List.setIfInBounds_toArray, List.set_cons_zero, List.set_cons_succ]
  refine anyL_one 17 10 (by kernel_rfl) ?_
  refine wpOp_step rfl (fun Kc hKc => ?_)
  go_simp
  refine (HBA.out c _ (HKC8.out)).mono ?_
  rintro e z1 ⟨rfl, hb⟩
  have Sz1 : Hid (Below w8.heap.size w8 z1) := hb
  clear hb
  dsimp only
  refine hKc _ _ ⟨fun _ => Sz1.out, ?_⟩
  clear hKc Kc
  try simp only [Act.put, List.setIfInBounds_toArray, List.set_cons_zero, List.set_cons_succ]
  refine anyL_take_g 17 12 62 (.bool true) Sz1.out rfl (by kernel_rfl) (by kernel_rfl) (by kernel_rfl) (by kernel_rfl) (fun _ _ _ h => h) (by rfl) (by intro x hx; go_simp) ?_
  try simp only [Act.put, List.setIfInBounds_toArray, List.set_cons_zero, List.set_cons_succ]
  refine anyL_take 17 13 63 (.bool true) Sz1.out rfl (by kernel_rfl) (by kernel_rfl) (by kernel_rfl) (by kernel_rfl) (fun _ _ _ h => h) (by intro x hx; go_simp) ?_
  try simp only [Act.put, List.setIfInBounds_toArray, List.set_cons_zero, List.set_cons_succ]
  refine anyL_take 17 14 64 (.bool true) Sz1.out rfl (by kernel_rfl) (by kernel_rfl) (by kernel_rfl) (by kernel_rfl) (fun _ _ _ h => h) (by intro x hx; go_simp) ?_
  try simp only [Act.put, List.setIfInBounds_toArray, List.set_cons_zero, List.set_cons_succ]
  refine anyL_one 17 15 (by kernel_rfl) ?_
  refine wpOp_step rfl (fun Kc hKc => ?_)
  go_simp
  refine (known_any _).mono ?_
  rintro e z2 ⟨rfl, hb⟩
  have Sz2 : Hid (Below w8.heap.size w8 z2) := Sz1.out.trans (hb.mono Sz1.out.size)
  clear hb
  dsimp only
  refine hKc _ _ ⟨fun _ => Sz2.out, ?_⟩
  clear hKc Kc
  try simp only [Act.put, List.setIfInBounds_toArray, List.set_cons_zero, List.set_cons_succ]
  refine anyL_take 17 16 66 (.bool true) Sz2.out rfl (by kernel_rfl) (by kernel_rfl) (by kernel_rfl) (by kernel_rfl) (fun _ _ _ h => h) (by intro x hx; go_simp) ?_
  try simp only [Act.put, List.setIfInBounds_toArray, List.set_cons_zero, List.set_cons_succ]
  refine anyL_one 17 17 (by kernel_rfl) ?_
  refine wpOp_step rfl (fun Kc hKc => ?_)
  go_simp
  refine hKc _ _ ⟨fun h => absurd rfl h, ?_⟩
  clear hKc Kc
  try simp only [Act.put, List.setIfInBounds_toArray, List.set_cons_zero, List.set_cons_succ]
  refine anyL_done (by kernel_rfl) ?_ _
  have FIN : Hid (Below w.heap.size w z2) := HW8.out.trans (Sz2.out.mono HW8.out.size)
  clear HA8 HB8 HX8 HY8 HKC8 HBA HBB HNW
  go_wp2
  go_ret
  exact ⟨rfl, FIN.out⟩

set_option maxHeartbeats 4000000 in
set_option maxRecDepth 100000 in
theorem unlike_32 (p : Option Addr) (cap : Nat) (A B X Y : Array Value) (r : Bool) (AS : Hid (A.size = 16)) (BS : Hid (B.size = 16)) (XS : Hid (X.size = 16)) (YS : Hid (Y.size = 16)) (XO : Hid (X.all (·.oneCell') = true)) (YO : Hid (Y.all (·.oneCell') = true)) (KC : World → Nat → Prop) (w : World)
    (HNW : Hid (∀ x, Below w.heap.size w x → Calls Try.prog 9 #[.slice p 32 cap] x fun e x' => ∃ c, e = .returned (.tuple #[.pointer (some ⟨c, 0, none⟩), .int .i64 0]) ∧ Hid (KC x' c) ∧ Hid (Below x.heap.size x x')))
    (HKP : Hid (∀ x x' c, KC x c → Below x.heap.size x x' → KC x' c))
    (HBA : Hid (∀ c x, KC x c → Calls Try.prog 13 #[.pointer (some ⟨c, 0, none⟩), .agg A] x fun e x' => e = .returned (.agg X) ∧ Below x.heap.size x x'))
    (HBB : Hid (∀ c x, KC x c → Calls Try.prog 13 #[.pointer (some ⟨c, 0, none⟩), .agg B] x fun e x' => e = .returned (.agg Y) ∧ Below x.heap.size x x'))
    (HXY : ∀ x, (Op.equalIn 10000 35 (.agg X) (.agg Y)).run Try.prog x = .ok r x) (HAB : ∀ x, (Op.equalIn 10000 35 (.agg A) (.agg B)).run Try.prog x = .ok r x) (HXX : ∀ x, (Op.equalIn 10000 35 (.agg X) (.agg X)).run Try.prog x = .ok true x) :
    Calls Try.prog 4 #[.slice p 32 cap, .agg A, .agg B] w (YesSay w) := by
  have hng := Try.noGuard
  have ZS : Hid ((#[.int .u8 0, .int .u8 0, .int .u8 0, .int .u8 0, .int .u8 0, .int .u8 0, .int .u8 0, .int .u8 0, .int .u8 0, .int .u8 0, .int .u8 0, .int .u8 0, .int .u8 0, .int .u8 0, .int .u8 0, .int .u8 0] : Array Value).size = 16) := rfl
  go_enter Try.func4, Try.ntmps4
  go_upto_region 1 with fail
  have HA1 : Hid (((w.alloc (.cells A 35)).alloc (.cells B 35)).heap[w.heap.size]? = some (.cells A 35 (0, 0))) := heap_alloc2_old w _ _
  have HB1 : Hid (((w.alloc (.cells A 35)).alloc (.cells B 35)).heap[w.heap.size + 1]? = some (.cells B 35 (0, 0))) := heap_alloc2_new w _ _
  have HW1 : Hid (Below w.heap.size w ((w.alloc (.cells A 35)).alloc (.cells B 35))) := ((Below.refl _ w).alloc (Nat.le_refl _) _).alloc (by simp) _
  generalize (w.alloc (.cells A 35)).alloc (.cells B 35) = w1 at *
  have HAW : Hid (∀ x, Below w1.heap.size w1 x → x.heap[w.heap.size]? = some (.cells A 35 (0, 0))) := fun x hx => (hx.block _ (lt_of_block HA1.out)).trans HA1.out
  have HBW : Hid (∀ x, Below w1.heap.size w1 x → x.heap[w.heap.size + 1]? = some (.cells B 35 (0, 0))) := fun x hx => (hx.block _ (lt_of_block HB1.out)).trans HB1.out
  have R0 : Hid (Below w1.heap.size w1 w1) := Below.refl _ _
  clear HA1 HB1
  go_upto_region 8 with (first
    | ((with_reducible refine row_store _ _ _ _ _ _ _ ?_ ?_ (heap_alloc_new _ _) (row_size Try.size16 YS) ?_ YO.out ?_); (exact rfl); (exact rfl); (rw [YS.out]; exact ZS.out.symm); intro x5 G5 ch5; have R5 : Hid (Below w1.heap.size w1 x5) := ch5.below (R4.out.alloc R4.out.size _) R4.out.size; have HX5 : Hid (x5.heap[g9]? = some (.cells X 35 (0, 0))) := (ch5.block _ (by have := lt_of_block HX4.out; omega)).trans ((heap_alloc_old _ _ (lt_of_block HX4.out)).trans HX4.out); have HK5 : Hid (KC x5 c) := HKP.out _ _ _ HK4.out (ch5.below ((Below.refl _ x4).alloc (Nat.le_refl _) _) (Nat.le_refl _)); have HY5 := Lib.hid G5.out; clear R4 HX4 HK4 ch5 G5)
    | (go_at_call 13; have R := R3.out; refine (HBB.out c _ HK3.out).mono ?_; rintro e x4 ⟨rfl, hb⟩; have R4 : Hid (Below w1.heap.size w1 x4) := R.trans (hb.mono R.size); have HX4 : Hid (x4.heap[g9]? = some (.cells X 35 (0, 0))) := (hb.block _ (lt_of_block HX3.out)).trans HX3.out; have HK4 : Hid (KC x4 c) := HKP.out _ _ _ HK3.out hb; clear R3 HX3 HK3 hb R)
    | ((with_reducible refine row_load _ _ _ _ B _ _ ?_ (HBW.out _ R3.out) Try.underlying35 ?_ (row_size Try.size16 BS) ?_); (exact rfl); (exact rfl))
    | ((with_reducible refine row_store _ _ _ _ _ _ _ ?_ ?_ (heap_alloc_new _ _) (row_size Try.size16 XS) ?_ XO.out ?_); (exact rfl); (exact rfl); (rw [XS.out]; exact ZS.out.symm); intro x3 G3 ch3; have R3 : Hid (Below w1.heap.size w1 x3) := ch3.below (R2.out.alloc R2.out.size _) R2.out.size; have HK3 : Hid (KC x3 c) := HKP.out _ _ _ HK2.out (ch3.below ((Below.refl _ x2).alloc (Nat.le_refl _) _) (Nat.le_refl _)); have HX3 := Lib.hid G3.out; clear R2 HK2 ch3 G3; generalize x2.heap.size = g9 at *)
    | (go_at_call 13; have R := R1.out; refine (HBA.out c _ HK1.out).mono ?_; rintro e x2 ⟨rfl, hb⟩; have R2 : Hid (Below w1.heap.size w1 x2) := R.trans (hb.mono R.size); have HK2 : Hid (KC x2 c) := HKP.out _ _ _ HK1.out hb; clear R1 HK1 hb R)
    | ((with_reducible refine row_load _ _ _ _ A _ _ ?_ (HAW.out _ R1.out) Try.underlying35 ?_ (row_size Try.size16 AS) ?_); (exact rfl); (exact rfl))
    | (go_at_call 9; have R := R0.out; refine (HNW.out _ HW1.out).mono ?_; rintro e x1 ⟨c, rfl, HK1, HQ⟩; have R1 : Hid (Below w1.heap.size w1 x1) := R.trans (HQ.out.mono R.size); clear R0 HQ R))
  generalize x4.heap.size = g10 at *
  refine wp_region_any (by kernel_rfl) ?_
  change wpAny _ _ _ _ _ _ _ (World.drew _)
  have HA8 : Hid (x5.drew.heap[w.heap.size]? = some (.cells A 35 (0, 0))) := HAW.out _ R5.out.drew
  have HB8 : Hid (x5.drew.heap[w.heap.size + 1]? = some (.cells B 35 (0, 0))) := HBW.out _ R5.out.drew
  have HX8 : Hid (x5.drew.heap[g9]? = some (.cells X 35 (0, 0))) := HX5.out
  have HY8 : Hid (x5.drew.heap[g10]? = some (.cells Y 35 (0, 0))) := HY5.out
  have HKC8 : Hid (KC x5.drew c) := HKP.out _ _ _ HK5.out (Below.refl _ _).drew
  have HW8 : Hid (Below w.heap.size w x5.drew) := (HW1.out.trans (R5.out.mono HW1.out.size)).drew
  clear HAW HBW R5 HX5 HY5 HK5 HW1
  generalize x5.drew = w8 at *
  have Sz0 : Hid (Below w8.heap.size w8 w8) := Below.refl _ _
  refine wpAny_of_L (S := fun x : World => Below w8.heap.size w8 x) (k := 17) _ _ _ _ ?_
  refine anyL_take 17 0 50 (.agg X) Sz0.out rfl (by kernel_rfl) (by kernel_rfl) (by kernel_rfl) (by kernel_rfl) (fun _ _ _ h => h) (fun x hx => exec_row _ _ g9 _ X _ _ rfl ((hx.block _ (lt_of_block HX8.out)).trans HX8.out) Try.underlying35 rfl (row_size Try.size16 XS)) ?_
  try simp only [Act.put, List.setIfInBounds_toArray, List.set_cons_zero, List.set_cons_succ]
  refine anyL_take 17 1 51 (.agg Y) Sz0.out rfl (by kernel_rfl) (by kernel_rfl) (by kernel_rfl) (by kernel_rfl) (fun _ _ _ h => h) (fun x hx => exec_row _ _ g10 _ Y _ _ rfl ((hx.block _ (lt_of_block HY8.out)).trans HY8.out) Try.underlying35 rfl (row_size Try.size16 YS)) ?_
  try simp only [Act.put, List.setIfInBounds_toArray, List.set_cons_zero, List.set_cons_succ]
  refine anyL_take 17 2 52 (.bool r) Sz0.out rfl (by kernel_rfl) (by kernel_rfl) (by kernel_rfl) (by kernel_rfl) (fun _ _ _ h => h) (by intro x hx; go_simp) ?_
  try simp only [Act.put, List.setIfInBounds_toArray, List.set_cons_zero, List.set_cons_succ]
  refine anyL_take 17 3 53 (.agg A) Sz0.out rfl (by kernel_rfl) (by kernel_rfl) (by kernel_rfl) (by kernel_rfl) (fun _ _ _ h => h) (fun x hx => exec_row _ _ w.heap.size _ A _ _ rfl ((hx.block _ (lt_of_block HA8.out)).trans HA8.out) Try.underlying35 rfl (row_size Try.size16 AS)) ?_
  try simp only [Act.put, List.setIfInBounds_toArray, List.set_cons_zero, List.set_cons_succ]
  refine anyL_take 17 4 54 (.agg B) Sz0.out rfl (by kernel_rfl) (by kernel_rfl) (by kernel_rfl) (by kernel_rfl) (fun _ _ _ h => h) (fun x hx => exec_row _ _ (w.heap.size + 1) _ B _ _ rfl ((hx.block _ (lt_of_block HB8.out)).trans HB8.out) Try.underlying35 rfl (row_size Try.size16 BS)) ?_
  try simp only [Act.put, List.setIfInBounds_toArray, List.set_cons_zero, List.set_cons_succ]
  refine anyL_take 17 5 55 (.bool r) Sz0.out rfl (by kernel_rfl) (by kernel_rfl) (by kernel_rfl) (by kernel_rfl) (fun _ _ _ h => h) (by intro x hx; go_simp) ?_
  try simp only [Act.put, List.setIfInBounds_toArray, List.set_cons_zero, List.set_cons_succ]
  refine anyL_take 17 6 56 (.bool true) Sz0.out rfl (by kernel_rfl) (by kernel_rfl) (by kernel_rfl) (by kernel_rfl) (fun _ _ _ h => h) (by intro x hx; go_simp) ?_
  try simp only [Act.put, List.setIfInBounds_toArray, List.set_cons_zero, List.set_cons_succ]
  refine anyL_take 17 7 57 (.bool true) Sz0.out rfl (by kernel_rfl) (by kernel_rfl) (by kernel_rfl) (by kernel_rfl) (fun _ _ _ h => h) (by intro x hx; go_simp) ?_
  try simp only [Act.put, List.setIfInBounds_toArray, List.set_cons_zero, List.set_cons_succ]
  refine anyL_take_g 17 8 58 (.pointer (some ⟨c, 0, none⟩)) Sz0.out rfl (by kernel_rfl) (by kernel_rfl) (by kernel_rfl) (by kernel_rfl) (fun _ _ _ h => h) (by rfl) (by intro x hx; go_simp) ?_
  try simp only [Act.put, List.setIfInBounds_toArray, List.set_cons_zero, List.set_cons_succ]
  refine anyL_take_g 17 9 59 (.agg A) Sz0.out rfl (by kernel_rfl) (by kernel_rfl) (by kernel_rfl) (by kernel_rfl) (fun _ _ _ h => h) (by rfl) (fun x hx => exec_row _ _ w.heap.size _ A _ _ rfl ((hx.block _ (lt_of_block HA8.out)).trans HA8.out) Try.underlying35 rfl (row_size Try.size16 AS)) ?_
  try simp only [Act.put, List.setIfInBounds_toArray, List.set_cons_zero, List.set_cons_succ]
  refine anyL_take_g 17 11 61 (.agg X) Sz0.out rfl (by kernel_rfl) (by kernel_rfl) (by kernel_rfl) (by kernel_rfl) (fun _ _ _ h => h) (by rfl) (fun x hx => exec_row _ _ g9 _ X _ _ rfl ((hx.block _ (lt_of_block HX8.out)).trans HX8.out) Try.underlying35 rfl (row_size Try.size16 XS)) ?_
  try simp only [Act.put, List.setIfInBounds_toArray, List.set_cons_zero, List.set_cons_succ]
  refine anyL_one 17 10 (by kernel_rfl) ?_
  refine wpOp_step rfl (fun Kc hKc => ?_)
  go_simp
  refine (HBA.out c _ (HKC8.out)).mono ?_
  rintro e z1 ⟨rfl, hb⟩
  have Sz1 : Hid (Below w8.heap.size w8 z1) := hb
  clear hb
  dsimp only
  refine hKc _ _ ⟨fun _ => Sz1.out, ?_⟩
  clear hKc Kc
  try simp only [Act.put, List.setIfInBounds_toArray, List.set_cons_zero, List.set_cons_succ]
  refine anyL_take_g 17 12 62 (.bool true) Sz1.out rfl (by kernel_rfl) (by kernel_rfl) (by kernel_rfl) (by kernel_rfl) (fun _ _ _ h => h) (by rfl) (by intro x hx; go_simp) ?_
  try simp only [Act.put, List.setIfInBounds_toArray, List.set_cons_zero, List.set_cons_succ]
  refine anyL_take 17 13 63 (.bool true) Sz1.out rfl (by kernel_rfl) (by kernel_rfl) (by kernel_rfl) (by kernel_rfl) (fun _ _ _ h => h) (by intro x hx; go_simp) ?_
  try simp only [Act.put, List.setIfInBounds_toArray, List.set_cons_zero, List.set_cons_succ]
  refine anyL_take 17 14 64 (.bool true) Sz1.out rfl (by kernel_rfl) (by kernel_rfl) (by kernel_rfl) (by kernel_rfl) (fun _ _ _ h => h) (by intro x hx; go_simp) ?_
  try simp only [Act.put, List.setIfInBounds_toArray, List.set_cons_zero, List.set_cons_succ]
  refine anyL_one 17 15 (by kernel_rfl) ?_
  refine wpOp_step rfl (fun Kc hKc => ?_)
  go_simp
  refine (known_any _).mono ?_
  rintro e z2 ⟨rfl, hb⟩
  have Sz2 : Hid (Below w8.heap.size w8 z2) := Sz1.out.trans (hb.mono Sz1.out.size)
  clear hb
  dsimp only
  refine hKc _ _ ⟨fun _ => Sz2.out, ?_⟩
  clear hKc Kc
  try simp only [Act.put, List.setIfInBounds_toArray, List.set_cons_zero, List.set_cons_succ]
  refine anyL_take 17 16 66 (.bool true) Sz2.out rfl (by kernel_rfl) (by kernel_rfl) (by kernel_rfl) (by kernel_rfl) (fun _ _ _ h => h) (by intro x hx; go_simp) ?_
  try simp only [Act.put, List.setIfInBounds_toArray, List.set_cons_zero, List.set_cons_succ]
  refine anyL_one 17 17 (by kernel_rfl) ?_
  refine wpOp_step rfl (fun Kc hKc => ?_)
  go_simp
  refine hKc _ _ ⟨fun h => absurd rfl h, ?_⟩
  clear hKc Kc
  try simp only [Act.put, List.setIfInBounds_toArray, List.set_cons_zero, List.set_cons_succ]
  refine anyL_done (by kernel_rfl) ?_ _
  have FIN : Hid (Below w.heap.size w z2) := HW8.out.trans (Sz2.out.mono HW8.out.size)
  clear HA8 HB8 HX8 HY8 HKC8 HBA HBB HNW
  go_wp2
  go_ret
  exact ⟨rfl, FIN.out⟩

end Go.Proofs.Ytjidkkehhglahaa
