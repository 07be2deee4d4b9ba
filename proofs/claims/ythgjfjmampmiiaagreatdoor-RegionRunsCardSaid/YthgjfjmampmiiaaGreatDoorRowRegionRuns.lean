/-
  For every input, in whatever memory and on every schedule, RegionRuns returns true, and its arguments read afterwards as they read before: whatever is written into the regions, spoilt, copied, lost, under any key, it answers, and the records told are, and the sectors have, what the reference says (a disk of 4 sectors, at most 60 calls, keys of at most 2^10 bytes; beyond, the example). Condition: the package-level tables of constants hold at the call's start what their own initialisers lay (the card ties that to the program's text).
-/
import Derived.Test.YthgjfjmampmiiaaGreatDoorTie
import Derived.Test.YthgjfjmampmiiaaGreatDoorCards
import Derived.Test.YthgjfjmampmiiaaGreatDoorRz4
namespace Go.Proofs.YthgjfjmampmiiaaGreatDoor
open Go.ChangeShapes Go.WideShapes Go.RowKit
set_option maxRecDepth 100000 in
theorem rrun_lifted (os:Go.Os) (started:os.Started) (H:Type) (enc:TypeId × Value→H) :
  ReturnsInHanded {} Tryz.checked os 3 .any (fun w args=>(Rows.regionRunsSpec.pre enc Tryz.prog Tryz.f3 [] false w args∧laidMet Tryz.prog fN w)∧sizedMet enc Tryz.prog Tryz.f3 (OpenSpec.ofChange Rows.regionRunsSpec) false w args)
   (Rows.regionRunsSpec.post enc Tryz.prog Tryz.f3 false true false false):=by
 refine returnsInHanded_of_change_and (C:=Tryz.checked) (X:=fun w _=>laidMet Tryz.prog fN w) (fun _ _ _ hh h=>h.of_heap hh) Tryz.own started (by kernel_rfl) Tryz.func3
  (ChangeSpec.witness_at (enc:=enc) (C:=Tryz.checked) (os:=os) (X:=fun w _=>laidMet Tryz.prog fN w) false (laidWorld os) #[.slice none 0 0,.slice none 0 0] 8 rfl (by kernel_rfl) (by kernel_rfl) (by kernel_rfl) (by kernel_rfl) (by kernel_rfl) (lU os _)) ?_
 intro W base args ds gs before hval0 hW _ _ hL _
 have hval:∀ (j:Nat) t v,Tryz.f3.params[j]?=some t→args[j]?=some v→Value.okWide Tryz.prog W .any base t v:=hval0
 have hW':=hW
 obtain ⟨p,q,hA0,hV0,rfl,_,_⟩:=hW
 have hA:DataW.TrodAll enc Tryz.prog W 0 (fun _=>true) true Tryz.f3.params.toList args.toList ds p:=hA0
 have hV:DataW.TrodVars enc Tryz.prog W (fun _=>true) [] gs q:=hV0
 rw [Tryz.params3] at hA hval
 obtain ⟨v0,v1,d0,d1,q0,q1,rfl,rfl,rfl,h0,h1⟩:=trodAll_two hA
 obtain ⟨rfl,rfl⟩:gs = []∧q = []:=by
  cases gs with
  | nil=>exact ⟨rfl,hV⟩
  | cons g r=>exact absurd hV (by intro h;cases h)
 obtain ⟨ht,htk⟩:=qd hL
 have e1:Rows.regionRunsSpec.fn H ([d0,d1]++[]) = { results:=[.lit (.bool true)],args:=[d0,d1] }:=by simp [Rows.regionRunsSpec]
 have hlt:∀ x∈(q0++q1++[]:List MemPlace),x.block<W.heap.size:=fun x hx=>hW'.lt x hx
 have fin:∀ W',Below W.heap.size W W'→Rows.regionRunsSpec.post enc Tryz.prog Tryz.f3 false true false false W #[v0,v1] (.bool true) W':=fun W' hb=>by
  refine ⟨_,_,_,[],q0++(q1),[],hW',?_,?_,?_,World.keptBut_mono (fun x hx=>⟨hx,?_⟩) (hb.frame (· ∈ q0++q1++[])),fun h=>by cases h⟩
  ·rw [e1];exact trodAll_mk1 (shut_bool Tryz.underlying4 true)
  ·rw [e1];exact trodAll_mk2 (gO h0 hb (fun x hx=>hlt x (by simp [hx])) (by kernel_rfl) (of_decide_eq_true (by kernel_rfl))) (gO h1 hb (fun x hx=>hlt x (by simp [hx])) (by kernel_rfl) (of_decide_eq_true (by kernel_rfl)))
  ·rw [e1];rfl
  ·simpa using hx
 obtain ⟨L0,a0,cap0,rfl,hb0⟩:=adb (hval 0 22 v0 rfl rfl) h0
 obtain ⟨X1,a1,cap1,rfl,hb1⟩:=abf (hval 1 23 v1 rfl rfl) h1
 refine (yz abr L0 a0 _ cap0 rfl X1 a1 _ cap1 rfl W hb0 hb1 ht htk).mono fun e W' ⟨he,hb⟩=>?_
 subst he
 exact ⟨_,rfl,fin W' hb⟩
theorem zx:Rows.RegionRunsSaid :=
 OpenClaim.holds_of_wide 3 Tryz.f3 rfl rfl rfl rfl rfl rfl rfl ⟨rfl,rfl,rfl,rfl,rfl⟩ rfl rfl rfl rfl rfl (by kernel_rfl) Tryz.func3 (by kernel_rfl)
  (of_decide_eq_true (by kernel_rfl)) (by unfold Func.isWrapper;rw [if_neg (of_decide_eq_false (by kernel_rfl))];exact ⟨rfl,rfl⟩)
  (fun os started H enc _=>rrun_lifted os started H enc)
theorem rrun_holds:Rows.RegionRunsCardSaid :=
 Claim7.holds_tied_plain_at .later [] [.data,.data] true (true, "b3d20dd888f238c15e530ecf324838e95498aab6c853111799072cb796360850") false
  zx (fun _ h=>by cases h) (by kernel_rfl) (fun _ h=>by cases h) regionRuns_row_tie rfl ⟨rfl,rfl⟩ (by kernel_rfl) rfl
  (fun f fn hf hfn=>by
   obtain rfl:f = 3:=Option.some.inj ((show Tryz.prog.funcNamed "rill/rilllaw14.RegionRuns"=some 3 by kernel_rfl).symm.trans hf) |>.symm
   obtain rfl:fn = Tryz.f3:=(Option.some.inj (Tryz.func3.symm.trans hfn)).symm
   exact ⟨by kernel_rfl,fun j t ht=>by
    rw [Tryz.params3] at ht
    have h3:t = 22∨t = 23:=by
     rcases j with _ | _ | j
     ·left;simpa using ht.symm
     ·right;simpa using ht.symm
     ·simp at ht
    rcases h3 with rfl | rfl
    ·exact (show Tryz.prog.wantsStandIn 22=false by kernel_rfl)
    ·exact (show Tryz.prog.wantsStandIn 23=false by kernel_rfl)⟩)
  (by kernel_rfl)
end Go.Proofs.YthgjfjmampmiiaaGreatDoor
