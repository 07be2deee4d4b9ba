/-
  Contracts: remember (texts, fours); ending.
-/
import Derived.Test.YtdmnlooghamngaaNaN
namespace Go.Proofs.Ytdmnlooghamngaa
open Go.RowKit

/-- What remember says. -/
def RemSay {α : Type} [DecidableEq α] (kv : α → Value) (ok : α → Prop) (b : Nat) (l : List α) (x : α) (w : World) (e : Ending) (w' : World) : Prop :=
  e = .returned (.int .i64 (Nm.num x l : Nat)) ∧ MpAt kv ok w' b (Nm.put x l) ∧ Only b w w'

set_option maxHeartbeats 1000000 in
set_option maxRecDepth 100000 in
theorem rem_text (l : List (List Int)) (x : List Int) (b : Nat) (w : World) (h : MpAt Nm.kvs Nm.okt w b l) (hx : Nm.okt x) (hl : l.length ≤ 1000000) :
    Calls Try.prog 38 #[.map (some b), .string (Nm.bts x)] w (RemSay Nm.kvs Nm.okt b l x w) := by
  have H := Lib.hid h; clear h
  have HX := Lib.hid hx; clear hx
  by_cases h0 : Nm.place x l = 0
  · have hd : decide (0 < Nm.place x l) = false := by rw [h0]; rfl
    have HN := Lib.hid (Nm.num_new h0)
    have HP := Lib.hid (Nm.put_new h0)
    have H0 := Lib.hid h0; clear h0
    go_enter Try.func38, Try.ntmps38
    go_wp2_with (first
      | ((with_reducible refine at_look _ _ _ _ b l x kd_text Try.underlying60 ?_ ?_ H.out HX.out ?_); (exact rfl); (exact rfl))
      | ((with_reducible refine at_len_map _ _ _ b l Try.underlying60 ?_ H.out ?_); (exact rfl))
      | ((with_reducible refine at_put _ _ _ _ _ b l x kd_text Try.underlying60 ?_ ?_ ?_ H.out HX.out H0.out ?_); (exact rfl); (exact rfl); (exact rfl); intro w1 m1 c1; have M1 := Lib.hid m1; have C1 := Lib.hid c1; clear m1 c1))
    go_ret
    exact ⟨by rw [HN.out]; rfl, by rw [HP.out]; exact M1.out, C1.out.only⟩
  · have h1 : 0 < Nm.place x l := by omega
    have HN := Lib.hid (Nm.num_same h0)
    have HP := Lib.hid (Nm.put_same h0)
    clear h0
    go_enter Try.func38, Try.ntmps38
    go_wp2_with ((with_reducible refine at_look _ _ _ _ b l x kd_text Try.underlying60 ?_ ?_ H.out HX.out ?_); (exact rfl); (exact rfl))
    go_ret
    exact ⟨by rw [HN.out]; rfl, by rw [HP.out]; exact H.out, Only.refl _ _⟩

set_option maxHeartbeats 1000000 in
set_option maxRecDepth 100000 in
theorem rem_four (l : List Nm.Four) (x : Nm.Four) (b : Nat) (w : World) (h : MpAt Nm.kv4 Nm.ok4 w b l) (hx : Nm.ok4 x) (hl : l.length ≤ 1000000) :
    Calls Try.prog 33 #[.map (some b), .agg #[.int .i64 x.1, .int .i64 x.2.1, .string (Nm.bts x.2.2.1), .string (Nm.bts x.2.2.2)]] w (RemSay Nm.kv4 Nm.ok4 b l x w) := by
  have H := Lib.hid h; clear h
  have HX := Lib.hid hx; clear hx
  obtain ⟨O, HO⟩ : ∃ O : Obj, Hid (O = .cells #[.int .i64 x.1, .int .i64 x.2.1, .string (Nm.bts x.2.2.1), .string (Nm.bts x.2.2.2)] 70) := ⟨_, rfl⟩
  have HA : Hid (MpAt Nm.kv4 Nm.ok4 (w.alloc O) b l) := H.out.old ((Below.refl _ w).alloc (Nat.le_refl _) _)
  have HOW : Hid (Only b w (w.alloc O)) := (Only.refl b w).alloc O
  rw [HO.out] at HA HOW
  by_cases h0 : Nm.place x l = 0
  · have hd : decide (0 < Nm.place x l) = false := by rw [h0]; rfl
    have HN := Lib.hid (Nm.num_new h0)
    have HP := Lib.hid (Nm.put_new h0)
    have H0 := Lib.hid h0; clear h0
    go_enter Try.func33, Try.ntmps33
    go_wp2_with (first
      | ((with_reducible refine at_look _ _ _ _ b l x kd_four Try.underlying59 ?_ ?_ HA.out HX.out ?_); (exact rfl); (exact rfl))
      | ((with_reducible refine at_len_map _ _ _ b l Try.underlying59 ?_ HA.out ?_); (exact rfl))
      | ((with_reducible refine at_put _ _ _ _ _ b l x kd_four Try.underlying59 ?_ ?_ ?_ HA.out HX.out H0.out ?_); (exact rfl); (exact rfl); (exact rfl); intro w1 m1 c1; have M1 := Lib.hid m1; have C1 := Lib.hid c1; clear m1 c1))
    go_ret
    exact ⟨by rw [HN.out]; rfl, by rw [HP.out]; exact M1.out, HOW.out.trans C1.out.only⟩
  · have h1 : 0 < Nm.place x l := by omega
    have HN := Lib.hid (Nm.num_same h0)
    have HP := Lib.hid (Nm.put_same h0)
    clear h0
    go_enter Try.func33, Try.ntmps33
    go_wp2_with ((with_reducible refine at_look _ _ _ _ b l x kd_four Try.underlying59 ?_ ?_ HA.out HX.out ?_); (exact rfl); (exact rfl))
    go_ret
    exact ⟨by rw [HN.out]; rfl, by rw [HP.out]; exact HA.out, HOW.out⟩
end Go.Proofs.Ytdmnlooghamngaa
