/-
  Contract: Sum.
-/
import Derived.Test.YtdmnlooghamngaaNaO
namespace Go.Proofs.Ytdmnlooghamngaa
open Go.RowKit

/-- What Sum says: of what was there only the texts' map may have turned. -/
def SumSay (g b c : Nat) (S : Nm.St) (x : List Int) (w : World) (e : Ending) (w' : World) : Prop :=
  e = .returned (A32 (Nm.sm S x)) ∧ Hid (StAt w' g b c (Nm.smd S x)) ∧ Only c w w'
theorem okt_bs {w : World} {p : Option Addr} {c : Nat} {L : List Int} (h : Bs w p c L) : Nm.okt L := ⟨h.bat.1, Nat.le_trans h.cap.1 h.cap.2⟩

theorem sum_size {l : List Int} (h : l.length = 32) : (Try.prog.info? 42).map (fun x => x.size) = some (l.map (Value.int .u8)).length := by
  rw [List.length_map, h]
  exact Try.sizeSum
theorem sum_there {w : World} {g : Nat} {t : TypeId} {l : List Int} (h : w.heap[g]? = some (.cells (List.replicate 32 (Value.int .u8 0)).toArray t (0, 0))) (hl : l.length = 32) : w.there g 0 (l.map (Value.int .u8)).length := by
  intro j hj
  rw [List.length_map, hl] at hj
  refine ⟨?_, frozen_of_row w g (0 + j) _ _ h⟩
  rw [cell_of_row w g (0 + j) _ _ _ h]
  simp [hj]
set_option maxHeartbeats 1000000 in
set_option maxRecDepth 100000 in
theorem sum_any (S : Nm.St) (x : List Int) (g b c : Nat) (p : Option Addr) (n cap : Nat) (hn : x.length = n) (w : World) (hs : StAt w g b c S) (hp : Bs w p cap x) (hl : S.ts.length ≤ 100000) :
    Calls Try.prog 22 #[.pointer (some ⟨g, 0, none⟩), .slice p n cap] w (SumSay g b c S x w) := by
  subst hn
  have hc0 : w.heap.size ≠ c := by have := hs.lt; omega
  have B0 : Hid (Below w.heap.size w (w.alloc (.cells (List.replicate 32 (Value.int .u8 0)).toArray 42))) := (Below.refl _ w).alloc (Nat.le_refl _) _
  have S0 := Lib.hid (hs.old B0.out)
  have P0 := Lib.hid (hp.old B0.out)
  have HT := Lib.hid (okt_bs hp)
  have HCV : Hid (∀ y, Bs y p cap x → (convert 30 9 (.slice p x.length cap)).run Try.prog y = .ok (.string (Nm.bts x)) y) := fun y hy => text_of hy
  have R0 : Hid ((w.alloc (.cells (List.replicate 32 (Value.int .u8 0)).toArray 42)).heap[w.heap.size]? = some (.cells (List.replicate 32 (Value.int .u8 0)).toArray 42 (0, 0))) := heap_alloc_new w _
  have C0 : (w.alloc (.cells (List.replicate 32 (Value.int .u8 0)).toArray 42)).cell? ⟨g, 1, none⟩ = some (.map (some c)) := by rw [cell_of_row _ g 1 _ _ _ S0.out.row]; rfl
  have HC0 := Lib.hid C0
  have HV0 := Lib.hid (HCV.out _ P0.out.drew)
  have HP := Lib.hid hp
  have HGW : Hid (g ≠ w.heap.size) := by show _ ≠ _; have := hs.lt; omega
  have HGB : Hid (b ≠ w.heap.size ∧ c ≠ w.heap.size) := by show _ ∧ _; have := hs.lt; omega
  have hone := bytes_one (Nm.tg 1 (Nm.num x S.ts))
  have hsz := sum_size (Nm.tg_len 1 (Nm.num x S.ts))
  clear hs hp C0
  go_enter Try.func22, Try.ntmps22
  go_upto_region 1 with (fail)
  go_region_held3 (fun y => y.cell? ⟨g, 1, none⟩ = some (.map (some c)) ∧ (convert 30 9 (.slice p x.length cap)).run Try.prog y = .ok (.string (Nm.bts x)) y)
    (exact ⟨Hid.out (by assumption), Hid.out (by assumption)⟩)
    (first
      | (go_at_call 38; refine Calls.mono (rem_text S.ts x c _ ?_ HT.out (by omega)) ?_; exact S0.out.ts; rintro e1 w1 ⟨rfl, m1, o1⟩; have M1 := Lib.hid m1; have O1 := Lib.hid o1; have HC1 : Hid (w1.cell? ⟨g, 1, none⟩ = some (.map (some c))) := o1.cell S0.out.apart.2.2 HC0.out; have R1 : Hid (w1.heap[w.heap.size]? = some (.cells (List.replicate 32 (Value.int .u8 0)).toArray 42 (0, 0))) := (o1.block _ (lt_of_block R0.out) hc0).trans R0.out; have BS1 := Lib.hid (bs_only P0.out.drew o1 (bs_map P0.out S0.out.ts)); have HV1 := Lib.hid (HCV.out w1 BS1.out); clear m1 o1)
      | (go_at_call 32; refine (ending_any _ _ _).mono ?_; rintro e2 w2 ⟨rfl, b2⟩; have B2 := Lib.hid b2; have HC2 : Hid (w2.cell? ⟨g, 1, none⟩ = some (.map (some c))) := (b2.cell (World.block_lt_of_cell? _ _ HC1.out)).trans HC1.out; have BS2 := Lib.hid (BS1.out.old b2); have HV2 := Lib.hid (HCV.out w2 BS2.out); have R2 : Hid (w2.heap[w.heap.size]? = some (.cells (List.replicate 32 (Value.int .u8 0)).toArray 42 (0, 0))) := (b2.block _ (lt_of_block R1.out)).trans R1.out; have hth := sum_there R2.out (Nm.tg_len 1 (Nm.num x S.ts)); have K3 := Lib.hid (Chg.setCells w.heap.size ((Nm.tg 1 (Nm.num x S.ts)).map (Value.int .u8)) 0 w2); have HC3 : Hid ((w2.setCells w.heap.size 0 ((Nm.tg 1 (Nm.num x S.ts)).map (Value.int .u8))).cell? ⟨g, 1, none⟩ = some (.map (some c))) := K3.out.only.cell HGW.out HC2.out; have HV3 := Lib.hid (HCV.out _ (bs_new HP.out BS2.out K3.out.only (Nat.le_refl _))); clear b2))
  have R3 : Hid ((w2.setCells w.heap.size 0 ((Nm.tg 1 (Nm.num x S.ts)).map (Value.int .u8))).heap[w.heap.size]? = some (.cells ((Nm.tg 1 (Nm.num x S.ts)).map (Value.int .u8)).toArray 42 (0, 0))) := by
    have h := heap_setCells w.heap.size 42 ((Nm.tg 1 (Nm.num x S.ts)).map (Value.int .u8)) 0 _ w2 R2.out (by simp [Nm.tg_len])
    show _ = _
    rw [h]
    congr 2
    simp [splice, Nm.tg_len]
  have SF : Hid (StAt (w2.setCells w.heap.size 0 ((Nm.tg 1 (Nm.num x S.ts)).map (Value.int .u8))) g b c (Nm.smd S x)) := by
    have h1 : StAt w1 g b c (Nm.smd S x) := ⟨(O1.out.block _ S0.out.drew.lt.1 S0.out.apart.2.2).trans S0.out.row, S0.out.drew.ss.keep (O1.out.block _ S0.out.drew.lt.2.1 S0.out.apart.1), M1.out, S0.out.apart⟩
    exact (h1.old B2.out).only K3.out.only HGW.out HGB.out.1 HGB.out.2
  have OF : Hid (Only c w (w2.setCells w.heap.size 0 ((Nm.tg 1 (Nm.num x S.ts)).map (Value.int .u8)))) := by
    have h1 : Only c w w2 := ((only_of_below B0.out).drew.trans O1.out).trans (only_of_below B2.out)
    exact ⟨K3.out.os.trans h1.os, K3.out.tape.trans h1.tape, K3.out.output.trans h1.output, by rw [K3.out.size]; exact h1.size, fun k hk hkc => (K3.out.block k (by omega)).trans (h1.block k hk hkc)⟩
  have H32 : Hid (((Nm.tg 1 (Nm.num x S.ts)).map (Value.int .u8)).toArray.size = 32) := by show _ = _; simp [Nm.tg_len]
  go_wp2
  refine bodyPost_ret (results_cell_row rfl _ _ w.heap.size 42 _ (0, 0) _ rfl R3.out Try.underlying42 rfl (row_size Try.sizeSum H32)) rfl ⟨rfl, SF, OF.out⟩
end Go.Proofs.Ytdmnlooghamngaa
