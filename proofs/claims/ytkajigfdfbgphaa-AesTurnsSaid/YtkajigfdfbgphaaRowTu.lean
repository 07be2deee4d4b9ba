/-
  For every input, in whatever memory and on every schedule, AesTurns returns true, and its arguments read afterwards as they read before: under any key, that may be one or not, any blocks (the first 20) are turned as the document's answer turns them, also once the key's bytes are written over. No condition.
-/
import Derived.Test.YtkajigfdfbgphaaAesZ
import Derived.Test.YtkajigfdfbgphaaTurP
import Derived.OpenShut
import Derived.Deep.Slices
namespace Go.Proofs.Ytkajigfdfbgphaa
open Go.ChangeShapes Go.WideShapes Go.RowKit

/-- Sixteen cells that read as an array of bytes. -/
theorem blk_of_trod {H : Type} {enc : TypeId × Value → H} {W : World} {fuel : Nat} {cs : List Value} {x : DataW H × List MemPlace} {sp : Nat → Bool} {hd : Bool}
    (hf : DataW.trod enc Try.prog W 0 sp hd fuel 35 cs = some x) : ∃ l : List Int, cs = l.map (Value.int .u8) ∧ l.length = 16 ∧ Sha.Byt l := by
  obtain ⟨xs, m, _, _, hcl, hlx, hel⟩ := DataW.trod_array Try.underlying35 hf
  have hc16 : Try.prog.cellsOf 35 = 16 := by kernel_rfl
  rw [hc16] at hcl
  have each : ∀ i, i < 16 → ∃ n : Int, cs[i]? = some (.int .u8 n) ∧ 0 ≤ n ∧ n ≤ 255 := fun i hi => by
    have h1 := hel i hi
    rw [Try.cells5, Nat.mul_one, List.getElem?_eq_getElem (by omega)] at h1
    obtain ⟨n, e, _, hw⟩ := DataW.trod_int Try.underlying5 h1
    refine ⟨n, ?_, ?_⟩
    · have h2 := congrArg (fun z : List Value => z[0]?) e
      simpa [List.getElem?_take, List.getElem?_drop] using h2
    · simp [Lit.wf, IntKind.min, IntKind.max, IntKind.signed, IntKind.bits] at hw
      omega
  refine ⟨cs.map intOf, ?_, by simpa using hcl, fun x hx => ?_⟩
  · rw [List.map_map]
    apply List.ext_getElem?
    intro i
    by_cases hi : i < 16
    · obtain ⟨n, h1, _⟩ := each i hi
      rw [List.getElem?_map, h1]
      rfl
    · rw [List.getElem?_eq_none (by omega), List.getElem?_eq_none (by rw [List.length_map]; omega)]
  · rw [List.mem_map] at hx
    obtain ⟨y, hy, rfl⟩ := hx
    obtain ⟨i, hi, rfl⟩ := List.mem_iff_getElem.1 hy
    obtain ⟨n, h1, h2⟩ := each i (by omega)
    rw [List.getElem?_eq_getElem hi] at h1
    have h3 := Option.some.inj h1
    rw [h3]
    exact h2
/-- A slice of blocks that came in. -/
theorem open_blks {H : Type} {enc : TypeId × Value → H} {W : World} {base : Nat} {v : Value} {d : DataW H} {ps : List MemPlace} (hok : Value.okWide Try.prog W .any base 23 v)
    (h : DataW.Trod enc Try.prog W 0 (fun _ => true) true 23 v d ps) : ∃ (M : Nat → List Int) (tp : Option Addr) (len cap : Nat), v = .slice tp len cap ∧ len ≤ 9223372036854775807 ∧ BlkAt W tp len M := by
  obtain ⟨a0, len, cap, rfl⟩ := okWide_slice Try.underlying23 hok
  obtain ⟨fuel, hf⟩ := h
  rcases Go.Deep.open_slice Try.underlying23 hf with ⟨hcs, _⟩ | ⟨a, len', cap', m, n, D, Pl, hcs, _, hl, hm, hmm, _, hel⟩
  · simp [Value.cells] at hcs
    obtain ⟨rfl, rfl, rfl⟩ := hcs
    exact ⟨fun _ => [], none, 0, 0, rfl, by omega, fun i hi => by omega, fun h0 => by omega⟩
  · simp [Value.cells] at hcs
    obtain ⟨rfl, rfl, rfl⟩ := hcs
    simp only [if_true] at hmm
    subst hmm
    have hc16 : Try.prog.cellsOf 35 = 16 := by kernel_rfl
    rw [hc16] at hel
    have key : ∀ i, ∃ l : List Int, i < len → l.length = 16 ∧ Sha.Byt l ∧ ∀ j, j < 16 → W.cell? ((a.add (i * 16)).add j) = (l.map (Value.int .u8))[j]? := fun i => by
      by_cases hi : i < len
      · obtain ⟨cs', h1, h2⟩ := hel i (by omega)
        obtain ⟨l, rfl, hll, hlb⟩ := blk_of_trod h2
        obtain ⟨_, _, hc⟩ := World.cells?_some h1
        exact ⟨l, fun _ => ⟨hll, hlb, hc⟩⟩
      · exact ⟨[], fun h => absurd h hi⟩
    obtain ⟨M, hM⟩ := Classical.axiomOfChoice key
    refine ⟨M, some a, len, _, rfl, by unfold maxLen at hm; omega, fun i hi => ⟨(hM i hi).1, (hM i hi).2.1⟩, fun h0 => ?_⟩
    obtain ⟨ab, ao, spot⟩ := a
    have h00 : W.cell? (Addr.add (Addr.add ⟨ab, ao, spot⟩ (0 * 16)) 0) = some (.int .u8 ((M 0).getD 0 0)) := by
      have hh := (hM 0 h0).2.2 0 (by omega)
      rw [hh, List.getElem?_map, List.getElem?_eq_getElem (by rw [(hM 0 h0).1]; omega), List.getD_eq_getElem?_getD, List.getElem?_eq_getElem (by rw [(hM 0 h0).1]; omega)]
      rfl
    have hspot : spot = none := by simpa [Addr.add] using World.cell?_spot h00
    subst hspot
    rw [Addr.add_mid, Addr.add_mid] at h00
    refine ⟨ab, ao, rfl, World.block_lt_of_cell? W _ h00, fun i hi j v hv => ?_⟩
    have hj : j < 16 := by have hx := (List.getElem?_eq_some_iff.1 hv).1; rw [List.length_map, (hM i hi).1] at hx; exact hx
    have hh := (hM i hi).2.2 j hj
    rw [Addr.add_mid, Addr.add_mid] at hh
    rw [hh, hv]

set_option maxRecDepth 100000 in
theorem aesturns_lifted (os : Os) (started : os.Started) (H : Type) (enc : TypeId × Value → H) :
    ReturnsInHanded {} Try.checked os 3 .any (Rows.aesTurnsSpec.pre6 enc Try.prog Try.f3 Rows.aesTurnsRow.domain false) (Rows.aesTurnsSpec.post enc Try.prog Try.f3 false true false false) := by
  refine returnsInHanded_of_change_sized (C := Try.checked) Try.own started (by kernel_rfl) Try.func3
    (ChangeSpec.witness6 (enc := enc) (C := Try.checked) false ⟨#[], #[.slice none 0 0, .slice none 0 0], []⟩ 8 (by kernel_rfl) (by kernel_rfl) (by kernel_rfl) (by kernel_rfl)) ?_
  intro W base args ds gs before hval0 hW _ hsz0 _
  have hsz : (DataW.weightsEach Try.prog (Try.f3.params.toList ++ Rows.aesTurnsSpec.plain.varTypes Try.prog) (ds ++ gs)).all (· ≤ reachBytes) = true := hsz0
  clear hsz0
  have hval : ∀ (j : Nat) t v, Try.f3.params[j]? = some t → args[j]? = some v → Value.okWide Try.prog W .any base t v := hval0
  have hW' := hW
  obtain ⟨p, q, hA0, hV, rfl, _, _⟩ := hW
  have hA : DataW.TrodAll enc Try.prog W 0 (fun _ => true) true Try.f3.params.toList args.toList ds p := hA0
  rw [Try.params3] at hA hval hsz
  obtain ⟨v0, v1, d0, d1, q0, q1, rfl, rfl, rfl, h0, h1⟩ := trodAll_two hA
  obtain ⟨rfl, rfl⟩ := trodVars_none hV
  have hlt : ∀ x ∈ (q0 ++ q1 ++ [] : List MemPlace), x.block < W.heap.size := fun x hx => hW'.lt x hx
  have e1 : Rows.aesTurnsSpec.fn H ([d0, d1] ++ []) = { results := [.lit (.bool true)], args := [d0, d1] } := by simp [Rows.aesTurnsSpec]
  have fin : ∀ W', Below W.heap.size W W' → Rows.aesTurnsSpec.post enc Try.prog Try.f3 false true false false W #[v0, v1] (.bool true) W' := fun W' hb => by
    refine ⟨_, _, _, [], q0 ++ q1, [], hW', ?_, ?_, ?_, World.keptBut_mono (fun x hx => ⟨hx, ?_⟩) (hb.frame (· ∈ q0 ++ q1 ++ [])), fun h => by cases h⟩
    · rw [e1]; exact trodAll_mk1 (shut_bool Try.underlying4 true)
    · rw [e1]; exact trodAll_mk2 (trod_below_args h0 hb (fun x hx => hlt x (by simp [hx])) (by kernel_rfl) (of_decide_eq_true (by kernel_rfl))) (trod_below_args h1 hb (fun x hx => hlt x (by simp [hx])) (by kernel_rfl) (of_decide_eq_true (by kernel_rfl)))
    · rw [e1]; rfl
    · simpa using hx
  obtain ⟨L0, a0, cap0, rfl, hb0, hc0, hd0⟩ := open_bytes (hval 0 22 v0 rfl rfl) h0
  have hcap0 := bytes_cap hsz (j := 0) rfl rfl hd0
  obtain ⟨M, tp, len, tcap, rfl, hlen, hM⟩ := open_blks (hval 1 23 v1 rfl rfl) h1
  refine (turns_any L0 a0 cap0 hc0 (by omega) W hb0 tp len tcap hlen M hM).mono fun e W' ⟨he, hb⟩ => ?_
  subst he
  exact ⟨_, rfl, fin W' hb⟩

theorem aesturns_holds : Rows.AesTurnsSaid :=
  OpenClaim.holds_of_wide 3 Try.f3 rfl rfl rfl rfl rfl rfl rfl ⟨rfl, rfl, rfl, rfl, rfl⟩ rfl rfl rfl rfl rfl (by kernel_rfl) Try.func3 (by kernel_rfl)
    (of_decide_eq_true (by kernel_rfl)) (by unfold Func.isWrapper; rw [if_neg (of_decide_eq_false (by kernel_rfl))]; exact ⟨rfl, rfl⟩)
    (fun os started H enc _ => aesturns_lifted os started H enc)
end Go.Proofs.Ytkajigfdfbgphaa
