/-
  A map that only grows: what it says at a key, how it takes a new one; texts out of bytes.
-/
import Derived.Test.YtdmnlooghamngaaNaM
namespace Go.Proofs.Ytdmnlooghamngaa
open Go.ChangeShapes Go.WideShapes Go.RowKit

/-- 'string(b)'. -/
theorem text_of {w : World} {p : Option Addr} {c : Nat} {L : List Int} (h : Bs w p c L) : (convert 30 9 (.slice p L.length c)).run Try.prog w = .ok (.string (Nm.bts L)) w := by
  cases p with
  | none =>
    obtain ⟨rfl, rfl⟩ := h.nil rfl
    exact Lib.run_convert_nil_bytes w 30 9 5 0 Try.underlying30 Try.underlying5 Try.underlying9
  | some ad =>
    have hb := bs_cells h.bat
    have hr := run_convert_bytes_back (P := Try.prog) w 30 9 5 ad c (L.map fun i => UInt8.ofNat i.toNat) Try.underlying30 Try.underlying5 Try.underlying9 (fun j hj => by
      have hj' : j < L.length := by simpa using hj
      rw [hb j _ (by rw [List.getElem?_map, List.getElem?_eq_getElem hj']; rfl)]
      have hB := h.bat.1 _ (List.getElem_mem hj')
      simp only [List.getElem_map, UInt8.toNat_ofNat']
      congr 2
      omega)
    simpa [Nm.bts] using hr

section
variable {α : Type}
/-- Block b is a map of the keys l, each with its place. -/
def MpAt (kv : α → Value) (ok : α → Prop) (w : World) (b : Nat) (l : List α) : Prop :=
  l.Nodup ∧ (∀ x ∈ l, ok x) ∧ ∃ es clock, w.heap[b]? = some (.map es clock) ∧ es.toList.length = l.length ∧ ∀ (j : Nat) (e : MapEntry), es.toList[j]? = some e → ∃ x, l[j]? = some x ∧ e.key = kv x ∧ e.val = .int .i64 ((j : Int) + 1)
variable {kv : α → Value} {ok : α → Prop} {K t : TypeId} {w : World} {b : Nat} {l : List α} {x : α}
theorem MpAt.block (h : MpAt kv ok w b l) : b < w.heap.size := by
  obtain ⟨_, _, es, clock, hb, _⟩ := h
  exact (Array.getElem?_eq_some_iff.1 hb).1
theorem MpAt.keep {w' : World} (h : MpAt kv ok w b l) (hb : w'.heap[b]? = w.heap[b]?) : MpAt kv ok w' b l := by
  obtain ⟨h1, h2, es, clock, h3, h4⟩ := h
  exact ⟨h1, h2, es, clock, hb.trans h3, h4⟩
theorem MpAt.old {w' : World} (h : MpAt kv ok w b l) (hb : Below w.heap.size w w') : MpAt kv ok w' b l := h.keep (hb.block _ h.block)
/-- 'len(m)'. -/
theorem MpAt.len (ht : Try.prog.underlying t = some (.map K 3)) (h : MpAt kv ok w b l) (ty : TypeId) :
    (Builtin.len_ #[t] ty #[.map (some b)]).run Try.prog w = .ok (.int .i64 (l.length : Nat)) w := by
  obtain ⟨h1, h2, es, clock, hb, h3, h4⟩ := h
  have h5 : es.size = l.length := by simpa using h3
  simp [Builtin.len_, run_underlying ht, MapKept.run_getObj_map hb, goInt, Result.andThen, h5]
theorem mp_made (w : World) (kv : α → Value) (ok : α → Prop) : MpAt kv ok (w.alloc (.map #[] 0)) w.heap.size [] :=
  ⟨List.nodup_nil, by simp, #[], 0, (MapKept.heap_alloc w _).1, rfl, fun j e h => by simp at h⟩
variable [DecidableEq α]
theorem MpAt.find (hk : Nm.Kd kv ok K) (hx : ok x) {es : Array MapEntry} (h1 : l.Nodup) (h2 : ∀ x ∈ l, ok x) (h3 : es.toList.length = l.length) (h4 : ∀ (j : Nat) (e : MapEntry), es.toList[j]? = some e → ∃ x, l[j]? = some x ∧ e.key = kv x ∧ e.val = .int .i64 ((j : Int) + 1)) (w : World) :
    (Nm.place x l = 0 ∧ (Instr.findKey K (kv x) es.toList).run Try.prog w = .ok none w) ∨ ∃ j, Nm.place x l = j + 1 ∧ (Instr.findKey K (kv x) es.toList).run Try.prog w = .ok (some (j, .int .i64 ((j : Int) + 1))) w := by
  obtain ⟨lx, hlx⟩ := hk.reads x hx
  have hes : ∀ e ∈ es.toList, ∃ l, keyOf Try.prog K e.key = some l := fun e he => by
    obtain ⟨j, hj⟩ := List.getElem?_of_mem he
    obtain ⟨y, hy, hk1, _⟩ := h4 j e hj
    rw [hk1]
    exact hk.reads y (h2 y (List.mem_of_getElem? hy))
  rcases hk.law.find w hlx es.toList hes with ⟨f1, f2⟩ | ⟨j, e, f1, f2, f3⟩
  · refine Or.inl ⟨Nm.place_zero.2 (fun hm => ?_), f1⟩
    obtain ⟨j, hj⟩ := List.getElem?_of_mem hm
    have hlt : j < es.toList.length := by rw [h3]; exact (List.getElem?_eq_some_iff.1 hj).1
    obtain ⟨y, hy, hk1, _⟩ := h4 j _ (List.getElem?_eq_getElem hlt)
    rw [hj] at hy
    cases hy
    exact f2 _ (List.getElem_mem hlt) hk1
  · obtain ⟨y, hy, hk1, hv⟩ := h4 j e f2
    have hyx : y = x := hk.inj y x (h2 y (List.mem_of_getElem? hy)) hx (by rw [← hk1, f3])
    subst hyx
    refine Or.inr ⟨j, Nm.place_of h1 hy, ?_⟩
    rw [f1, hv]
/-- 'k, found := m[x]'. -/
theorem MpAt.look (hk : Nm.Kd kv ok K) (ht : Try.prog.underlying t = some (.map K 3)) (h : MpAt kv ok w b l) (hx : ok x) :
    (Instr.lookup t (.map (some b)) (kv x) true).run Try.prog w = .ok (.tuple #[.int .i64 (Nm.place x l : Nat), .bool (decide (0 < Nm.place x l))]) w := by
  obtain ⟨h1, h2, es, clock, hb, h3, h4⟩ := h
  obtain ⟨lx, hlx⟩ := hk.reads x hx
  have hz : (zeroValue 3).run Try.prog w = .ok (.int .i64 0) w := by kernel_rfl
  rcases MpAt.find hk hx h1 h2 h3 h4 w with ⟨p1, f1⟩ | ⟨j, p1, f1⟩
  · rw [p1]
    simp [Instr.lookup, run_underlying ht, MapKept.run_getObj_map hb, hk.law.check w _ hlx, f1, hz, Result.andThen]
  · rw [p1]
    simp [Instr.lookup, run_underlying ht, MapKept.run_getObj_map hb, hk.law.check w _ hlx, f1, Result.andThen]
/-- 'm[x] = len(m) + 1', where x is new. -/
theorem MpAt.store (hk : Nm.Kd kv ok K) (ht : Try.prog.underlying t = some (.map K 3)) (h : MpAt kv ok w b l) (hx : ok x) (h0 : Nm.place x l = 0) :
    ∃ w', (Instr.mapUpdate t (.map (some b)) (kv x) (.int .i64 ((l.length : Int) + 1))).run Try.prog w = .ok () w' ∧ MpAt kv ok w' b (l ++ [x]) ∧ Chg b w w' := by
  obtain ⟨h1, h2, es, clock, hb, h3, h4⟩ := h
  obtain ⟨lx, hlx⟩ := hk.reads x hx
  have hs : es.size = l.length := by simpa using h3
  rcases MpAt.find hk hx h1 h2 h3 h4 w with ⟨_, f1⟩ | ⟨j, p1, _⟩
  · refine ⟨{ w with heap := w.heap.setIfInBounds b (.map (es.push ⟨kv x, .int .i64 ((l.length : Int) + 1), clock⟩) (clock + 1)) }, ?_, ⟨?_, ?_, _, _, (MapKept.heap_set hb).1, by simp [hs], fun j e hj => ?_⟩, ⟨rfl, rfl, rfl, by simp, fun k hk => (MapKept.heap_set hb).2 k hk⟩⟩
    · simp [Instr.mapUpdate, run_underlying ht, MapKept.run_getObj_map hb, hk.law.check w false hlx, f1, MapKept.run_setObj_map _ hb, Result.andThen]
    · have := Nm.place_zero.1 h0
      exact List.nodup_append.2 ⟨h1, by simp, fun a ha b hb => by simp at hb; subst hb; exact fun e => this (e ▸ ha)⟩
    · intro y hy
      rcases List.mem_append.1 hy with hy | hy
      · exact h2 y hy
      · simp at hy; subst hy; exact hx
    · by_cases hlt : j < l.length
      · have hj' : es.toList[j]? = some e := by
          rw [Array.toList_push, List.getElem?_append_left (by rw [h3]; exact hlt)] at hj
          exact hj
        obtain ⟨y, hy, hr⟩ := h4 j e hj'
        exact ⟨y, by rw [List.getElem?_append_left hlt]; exact hy, hr⟩
      · rw [Array.toList_push, List.getElem?_append_right (by omega), h3] at hj
        have hj0 : j - l.length = 0 := by
          by_cases hq : j - l.length = 0
          · exact hq
          · rw [List.getElem?_eq_none (by simp; omega)] at hj; cases hj
        rw [hj0] at hj
        simp at hj
        obtain rfl : j = l.length := by omega
        subst hj
        exact ⟨x, by simp, rfl, rfl⟩
  · rw [h0] at p1; omega
end

/-- The three operations, for the walk. -/
theorem at_look {α : Type} [DecidableEq α] {kv : α → Value} {ok : α → Prop} {K : TypeId} (w : World) {ops : Array Oper} {rest : List Oper} {a : Act} {Q : Exit → Act → World → Prop} {D : Option Tmp} {T : TypeId} {ps : String} {af : Array Edge}
    (m y : Operand) (t : TypeId) (b : Nat) (l : List α) (x : α) (hk : Nm.Kd kv ok K) (ht : Try.prog.underlying t = some (.map K 3)) (hm : a.eval m = .map (some b)) (hy : a.eval y = kv x) (h : MpAt kv ok w b l) (hx : ok x)
    (hK : wpList Try.prog ops Q rest (a.put D (.tuple #[.int .i64 (Nm.place x l : Nat), .bool (decide (0 < Nm.place x l))])) w) :
    wpList Try.prog ops Q ({ dst := D, op := .lookup t m y true, type := T, pos := ps, after := af, guard := none } :: rest) a w := by
  refine wpList_plain rfl fun K' hK' => ?_
  unfold Oper.wp
  simp [execOp, hm, hy, h.look hk ht hx, Result.andThen]
  exact hK' _ _ hK
theorem at_len_map {α : Type} {kv : α → Value} {ok : α → Prop} {K : TypeId} (w : World) {ops : Array Oper} {rest : List Oper} {a : Act} {Q : Exit → Act → World → Prop} {D : Option Tmp} {T : TypeId} {ps : String} {af : Array Edge}
    (m : Operand) (t : TypeId) (b : Nat) (l : List α) (ht : Try.prog.underlying t = some (.map K 3)) (hm : a.eval m = .map (some b)) (h : MpAt kv ok w b l)
    (hK : wpList Try.prog ops Q rest (a.put D (.int .i64 (l.length : Nat))) w) :
    wpList Try.prog ops Q ({ dst := D, op := .call { callee := .builtin .len, args := #[m], argTypes := #[t] }, type := T, pos := ps, after := af, guard := none } :: rest) a w := by
  refine wpList_plain rfl fun K' hK' => ?_
  unfold Oper.wp
  simp [execOp, resolve, invoke, builtin, hm, h.len ht T, Result.andThen]
  exact hK' _ _ hK
theorem at_put {α : Type} [DecidableEq α] {kv : α → Value} {ok : α → Prop} {K : TypeId} (w : World) {ops : Array Oper} {rest : List Oper} {a : Act} {Q : Exit → Act → World → Prop} {D : Option Tmp} {T : TypeId} {ps : String} {af : Array Edge}
    (m y z : Operand) (t : TypeId) (b : Nat) (l : List α) (x : α) (hk : Nm.Kd kv ok K) (ht : Try.prog.underlying t = some (.map K 3)) (hm : a.eval m = .map (some b)) (hy : a.eval y = kv x) (hz : a.eval z = .int .i64 ((l.length : Int) + 1)) (h : MpAt kv ok w b l) (hx : ok x) (h0 : Nm.place x l = 0)
    (hK : ∀ w', MpAt kv ok w' b (l ++ [x]) → Chg b w w' → wpList Try.prog ops Q rest (a.put D undef) w') :
    wpList Try.prog ops Q ({ dst := D, op := .mapUpdate t m y z, type := T, pos := ps, after := af, guard := none } :: rest) a w := by
  refine wpList_plain rfl fun K' hK' => ?_
  obtain ⟨w', hrun, r1, r2⟩ := h.store hk ht hx h0
  unfold Oper.wp
  simp [execOp, hm, hy, hz, hrun, Result.andThen]
  exact hK' _ _ (hK w' r1 r2)
end Go.Proofs.Ytdmnlooghamngaa
