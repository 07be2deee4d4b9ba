/-
  The reference's tree: contracts: without, is; put.
-/
import Derived.Test.YtfeemeddhhgigaaTrP
namespace Go.Proofs.Ytfeemeddhhgigaa
open Go.RowKit

theorem Try.infoNd : (Try.prog.info? 70).map (fun i => (i.zero, i.size, i.bytes)) = some (some (.agg (Tr.nnA ⟨0, false, Pg.zr⟩)), 35, 56) := by kernel_rfl
theorem Try.infoMp : (Try.prog.info? 85).map (fun i => (i.zero, i.size, i.bytes)) = some (some (.agg (Tr.mpA (0, Pg.zr))), 34, 48) := by kernel_rfl
theorem Try.sizeNd : (Try.prog.info? 70).map (·.size) = some 35 := by kernel_rfl
theorem Try.sizeMp : (Try.prog.info? 85).map (·.size) = some 34 := by kernel_rfl
theorem nna_size {x : Tr.Nn} (h : Pg.Ok x.r) : (Tr.nnA x).size = 35 := by unfold Tr.nnA; rw [List.size_toArray, List.length_cons, List.length_cons, cl_len h]
theorem mpa_size {x : Nat × Pg.Rf} (h : Pg.Ok x.2) : (Tr.mpA x).size = 34 := by unfold Tr.mpA; rw [List.size_toArray, List.length_cons, cl_len h]
theorem nna_one (x : Tr.Nn) : (Tr.nnA x).all (·.oneCell') = true := by
  unfold Tr.nnA
  refine all_oneCell_toArray (fun v hv => ?_)
  rcases List.mem_cons.1 hv with rfl | hv
  · rfl
  · rcases List.mem_cons.1 hv with rfl | hv
    · rfl
    · exact cl_one _ v hv
theorem mpa_one (x : Nat × Pg.Rf) : (Tr.mpA x).all (·.oneCell') = true := by
  unfold Tr.mpA
  refine all_oneCell_toArray (fun v hv => ?_)
  rcases List.mem_cons.1 hv with rfl | hv
  · rfl
  · exact cl_one _ v hv
/-- All nodes of the list have refs (also the dirty ones, which have the zero ref). -/
def LOk (L : List Tr.Nn) : Prop := ∀ x ∈ L, Pg.Ok x.r
def WoSay (L : List Tr.Nn) (w : World) (e : Ending) (w' : World) : Prop := ∃ v, e = .returned v ∧ Hid (Fl w.heap.size 70 35 w' v (L.map Tr.nnA)) ∧ Hid (Below w.heap.size w w')
theorem wo_step (L : List Tr.Nn) (i k : Nat) (hk : k < L.length) : Tr.wo (L.take (k + 1)) i = Tr.wo (L.take k) i ++ (if (L.getD k ⟨0, false, Pg.zr⟩).i = i then [] else [L.getD k ⟨0, false, Pg.zr⟩]) := by
  unfold Tr.wo
  rw [List.take_add_one, List.filter_append, List.getD_eq_getElem?_getD, List.getElem?_eq_getElem hk]
  congr 1
  show List.filter _ [L[k]] = if L[k].i = i then [] else [L[k]]
  by_cases h : L[k].i = i
  · rw [if_pos h]; simp [h]
  · rw [if_neg h]; simp [h]
set_option maxHeartbeats 4000000 in
set_option maxRecDepth 100000 in
theorem without_any {K b : Nat} {vb vn : Value} {L : List Tr.Nn} {t : Tr.T} (i : Nat) (w : World) (h : RT K w b vb vn L t) (hl : L.length ≤ 1000) (hL : LOk L) (hi : i < 1000) :
    Calls Try.prog 62 #[.pointer (some ⟨b, 0, none⟩), .int .i64 (i : Int)] w (WoSay (Tr.wo L i) w) := by
  obtain ⟨p, c, rfl⟩ := h.lenn
  have HC : Hid (∀ y, Below w.heap.size w y → y.cell? ⟨b, 1, none⟩ = some (.slice p L.length c)) := fun y hy => (h.old hy).c1
  have c0 := HC.out w (Below.refl _ _)
  have HM : Hid (∀ y k, Below w.heap.size w y → k < L.length → ∃ q, p = some ⟨q, 0, none⟩ ∧ y.rangeAt q (k * 35) (Tr.nnA (L.getD k ⟨0, false, Pg.zr⟩)).toList) := fun y k hy hk => by
    obtain ⟨q, c', e, hr⟩ := (h.old hy).nn k hk
    injection e with e _ _
    exact ⟨q, e, hr⟩
  have HST := Lib.hid (wo_step L i)
  have HOK : Hid (∀ k, k < L.length → Pg.Ok (L.getD k ⟨0, false, Pg.zr⟩).r) := fun k hk => hL _ (by rw [List.getD_eq_getElem?_getD, List.getElem?_eq_getElem hk]; exact List.getElem_mem hk)
  have HLE : Hid (∀ k, (Tr.wo (L.take k) i).length ≤ k) := fun k => by
    unfold Tr.wo
    have h1 := List.length_filter_le (fun x : Tr.Nn => !decide (x.i = i)) (L.take k)
    have h2 := List.length_take_le k L
    omega
  have HALL : Hid (Tr.wo (L.take L.length) i = Tr.wo L i) := by show _ = _; rw [List.take_length]
  obtain ⟨n, hn⟩ : ∃ n, L.length = n := ⟨_, rfl⟩
  rw [hn] at HC c0 HM HST HOK HALL hl
  clear h hL hn
  go_enter Try.func62, Try.ntmps62
  go_wp2
  go_loopw [5, 6] (fun v5 v6 wr => ∃ k : Nat, k ≤ n ∧ v6 = .int .i64 k ∧ Hid (Fl w.heap.size 70 35 wr v5 ((Tr.wo (L.take k) i).map Tr.nnA)) ∧ Hid (Below w.heap.size w wr)) (fun _ v6 _ => n - (intOf v6).toNat)
  case atStart => exact ⟨0, Nat.zero_le _, rfl, fl_nil _ _ _ _, Below.refl _ _⟩
  case round =>
    obtain ⟨k, hk, rfl, HF, HB⟩ := hrel
    have d0 := HC.out _ HB.out
    by_cases hlt : k < n
    · obtain ⟨q, hp, hr⟩ := HM.out _ k HB.out hlt
      subst hp
      have HR := Lib.hid hr
      have d1 : wr.cell? ⟨q, k * 35, none⟩ = some (.int .i64 (((L.getD k ⟨0, false, Pg.zr⟩).i : Nat) : Int)) := hr 0 _ rfl
      have hi0 : 0 ≤ (k : Int) := by omega
      have hi1 : (k : Int) < (n : Int) := by omega
      have HS1 := Lib.hid (HST.out k hlt)
      have HAS := Lib.hid (nna_size (HOK.out k hlt))
      have HA1 := Lib.hid (nna_one (L.getD k ⟨0, false, Pg.zr⟩))
      have HLN : Hid (((Tr.wo (L.take k) i).map Tr.nnA).length ≤ k) := by show _ ≤ _; rw [List.length_map]; exact HLE.out k
      obtain ⟨A, hA⟩ : ∃ A, Hid (Tr.nnA (L.getD k ⟨0, false, Pg.zr⟩) = A) := ⟨_, rfl⟩
      rw [hA.out] at HR HAS HA1
      have HNX : Hid ((L.getD k ⟨0, false, Pg.zr⟩).i ≠ i → (Tr.wo (L.take (k + 1)) i).map Tr.nnA = (Tr.wo (L.take k) i).map Tr.nnA ++ [A]) := fun hne => by
        rw [HS1.out, if_neg hne, List.map_append]
        show _ ++ [Tr.nnA _] = _
        rw [hA.out]
      have HNO : Hid ((L.getD k ⟨0, false, Pg.zr⟩).i = i → (Tr.wo (L.take (k + 1)) i).map Tr.nnA = (Tr.wo (L.take k) i).map Tr.nnA) := fun he => by
        rw [HS1.out, if_pos he, List.append_nil]
      clear hA HS1 hr
      obtain ⟨x, hx⟩ : ∃ x, (L.getD k ⟨0, false, Pg.zr⟩).i = x := ⟨_, rfl⟩
      rw [hx] at d1 HNX HNO
      clear hx
      have hsA := row_size Try.sizeNd HAS
      by_cases he : x = i
      · have e := HNO.out he
        subst he
        go_wp2
        exact ⟨⟨k + 1, by omega, by go_num, by rw [e]; exact HF, HB⟩, by simp [intOf]; omega⟩
      · have e := HNX.out he
        have hne : ¬ (x : Int) = (i : Int) := by omega
        clear HNX HNO
        generalize (Tr.wo (L.take k) i).map Tr.nnA = M at *
        obtain ⟨N, hN⟩ : ∃ N, M.length = N := ⟨_, rfl⟩
        have HN := Lib.hid hN
        have hNl : N ≤ 100000 := by have := HLN.out; omega
        have HSZ := Lib.hid HB.out.size
        go_wp2_with (first
          | ((with_reducible refine rng_load _ _ _ _ _ _ ?_ HR.out Try.underlying70 ?_ hsA ?_); (exact rfl); (exact rfl))
          | ((with_reducible refine bs1_g _ _ _ A 35 56 Try.underlying71 Try.infoNd (nna_size pg_zr) HAS.out ?_ ?_ _ ?_ ?_); (decide); (decide); (exact rfl))
          | (at_builtin; (with_reducible refine app_fl _ _ _ A 35 56 Try.underlying71 Try.infoNd (nna_size pg_zr) HAS.out ?_ ?_ HA1.out _ _ w.heap.size _ M N ?_ ?_ HF.out HN.out ?_ HSZ.out ?_); (decide); (decide); (exact rfl); (exact rfl); (exact hNl); intro q9 d9 y9 HF9 HT9 HG9))
        exact ⟨⟨k + 1, by omega, by go_num, by rw [e]; exact HF9, Lib.hid ((HB.out.alloc HB.out.size _).grown HG9.out (by simp; have := HB.out.size; omega) (fun g hg => (HT9.out g hg).1))⟩, by simp [intOf]; omega⟩
    · have E : k = n := by omega
      subst E
      clear hlt
      rw [HALL.out] at HF
      go_wp2
      go_ret
      exact ⟨_, rfl, HF, HB⟩
end Go.Proofs.Ytfeemeddhhgigaa
