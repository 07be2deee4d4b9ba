/-
  The laws' helpers; rilllaw01.ShaOf walked.
-/
import Derived.Test.YtamdmkknaobgcaaDoorKitA
namespace Go.Proofs.YtamdmkknaobgcaaDoor
open Go.RowKit

def BigOk (cap : Nat) : Prop := cap ≤ 9223372036854775807

set_option maxHeartbeats 1000000 in
set_option maxRecDepth 100000 in
theorem shaof_long (hT : TakeSaid) (p : Option Addr) (n cap : Nat) (w : World) (hn : 65536 < n) (ht : Tab w 1) :
    Calls Tryd.prog 3 #[.slice p n cap] w (YesSay w) := by
  have HT := Lib.hid hT; clear hT
  have Ht := Lib.hid ht; clear ht
  go_enter Tryd.func3, Tryd.ntmps3
  go_wp2_with (go_at_call 14; refine (known_any HT.out _ Ht.out).mono ?_; rintro e w1 ⟨rfl, hb1⟩)
  go_ret
  exact ⟨rfl, hb1⟩

set_option maxHeartbeats 2000000 in
set_option maxRecDepth 100000 in
theorem shaof_short (hT : TakeSaid) (L : List Int) (p : Option Addr) (cap : Nat) (w : World) (hn : L.length ≤ 65536) (hp : BAt w p L) (hc : L.length ≤ cap) (hcm : cap ≤ 9223372036854775807)
    (ht : Tab w 1) (htk : Tab w 0) :
    Calls Tryd.prog 3 #[.slice p L.length cap] w (YesSay w) := by
  have HT := Lib.hid hT; clear hT
  have Ht := Lib.hid ht; clear ht
  have Hk := Lib.hid htk; clear htk
  have Hp := Lib.hid hp; clear hp
  have Hc := Lib.hid (And.intro hc hcm); clear hc hcm
  obtain ⟨A, HA⟩ : ∃ A : Array Value, Hid (A = ((Sha.dg L).map (Value.int .u8)).toArray) := ⟨_, rfl⟩
  have HEQ : ∀ w, (Op.equalIn 10000 26 (.agg A) (.agg A)).run Tryd.prog w = .ok true w := fun w => by rw [HA.out]; exact sum_same _ (dg_len _) w
  have hng := Tryd.noGuard
  go_enter Tryd.func3, Tryd.ntmps3
  go_upto_region 4 with (go_at_call 15; refine (lent_any L p cap _ Hp.out (by omega)).mono ?_; rintro e w1 ⟨g, rfl, hg, hheap, hb1⟩)
  have HH1 := Lib.hid hheap
  have HB1 := Lib.hid hb1
  have HM1 : Hid (BAt w1 (some ⟨g, 0, none⟩) (mk5 L)) := bat_row hheap (mk5_byt Hp.out.1)
  have HL1 : Hid (BAt w1 (some ⟨g, 0, none⟩) L) := by
    have h := HM1.out
    unfold mk5 at h
    exact h.pre
  have HT1 : Hid (Tab w1 1) := Ht.out.below hb1 Ht.out.lt
  clear hheap hb1
  go_wp2_with (first
    | (go_at_call 16; refine (of_any HT.out L _ _ _ (fun g' hg' => HL1.out.bytes g' hg') (by omega) (by omega) HT1.out).mono ?_; rintro e w2 ⟨rfl, hb2⟩; rw [← HA.out]; have HB2 : Hid (Below w.heap.size w w2) := HB1.out.trans (hb2.mono HB1.out.size); have HM2 : Hid (BAt w2 (some ⟨g, 0, none⟩) (mk5 L)) := HM1.out.old hb2; clear hb2)
    | (go_at_call 17; refine (ref_of_any L _ _ _ (fun g' hg' => (Hp.out.old HB2.out).bytes g' hg') (by omega) (Hk.out.below HB2.out Hk.out.lt)).mono ?_; rintro e w3 ⟨rfl, hb3⟩; rw [← HA.out]; have HB3 : Hid (Below w.heap.size w w3) := HB2.out.trans (hb3.mono HB2.out.size); have HM3 : Hid (BAt w3 (some ⟨g, 0, none⟩) (mk5 L)) := HM2.out.old hb3; clear hb3)
    | (go_at_call 18; refine (kept_any L g _ _ _ _ HM3.out (Hp.out.old HB3.out) (by omega) (by omega)).mono ?_; rintro e w4 ⟨rfl, hb4⟩; have HB4 : Hid (Below w.heap.size w w4) := HB3.out.trans (hb4.mono HB3.out.size); clear hb4))
  go_ret
  exact ⟨rfl, HB4.out⟩

end Go.Proofs.YtamdmkknaobgcaaDoor
