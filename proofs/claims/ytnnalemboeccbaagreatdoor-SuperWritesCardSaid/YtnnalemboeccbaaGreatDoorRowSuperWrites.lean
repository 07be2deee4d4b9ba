/-
  For every input, in whatever memory and on every schedule, SuperWrites returns true, and its arguments read afterwards as they read before: under any key a superblock is written, and one that anybody wrote is read, as the reference says, also where the power fails (keys of at most 2^10, bytes of at most 2^11; beyond, the example). Condition: the package-level tables of constants hold at the call's start what their own initialisers lay (the card ties that to the program's text).
-/
import Derived.Test.YtnnalemboeccbaaGreatDoorTie
import Derived.Test.YtnnalemboeccbaaGreatDoorCards
import Derived.Test.YtnnalemboeccbaaGreatDoorA6
import Derived.Test.YtnnalemboeccbaaGreatDoorSc4
import Derived.Test.YtnnalemboeccbaaGreatDoorSp1
import Derived.Test.YtnnalemboeccbaaGreatDoorSpZ8
namespace Go.Proofs.YtnnalemboeccbaaGreatDoor
open Go.ChangeShapes Go.WideShapes Go.RowKit
set_option maxRecDepth 100000 in
theorem open_wn {H:Type} {enc:TypeId × Value→H} {W:World} {base:Nat} {v:Value} {d:DataW H} {ps:List MemPlace} (hok:Value.okWide Tryz.prog W .any base 69 v)
  (h:DataW.Trod enc Tryz.prog W 0 (fun _=>true) true 69 v d ps):∃ (e n:Int),In64 n∧v = .agg #[.int .i64 e,.int .i64 n]:=by
 obtain ⟨cs,rfl,hsz,_⟩:∃ cs,v = .agg cs∧cs.size = Tryz.prog.cellsOf 69∧Row.okWide Tryz.prog W .any base 69 cs:=by
  simpa [Value.okWide,Tryz.underlying69] using hok
 have hc3:Tryz.prog.cellsOf 69=2:=by kernel_rfl
 have hci:Tryz.prog.cellsOf 3=1:=by kernel_rfl
 rw [hc3] at hsz
 obtain ⟨fuel,hf⟩:=h
 obtain ⟨xs,m,_,_,_,hlx,hel⟩:=DataW.trod_struct Tryz.underlying69 hf
 obtain ⟨l⟩:=cs
 rcases l with _ | ⟨a,_ | ⟨b,_ | ⟨x,r⟩⟩⟩
 ·simp at hsz
 ·simp at hsz
 ·have hl3:xs.length=2:=by simpa using hlx
  have h0:=hel 0 _ rfl
  have h1:=hel 1 _ rfl
  rw [List.getElem?_eq_getElem (by omega)] at h0 h1
  obtain ⟨e,e1,_,_⟩:=DataW.trod_int Tryz.underlying3 h0
  obtain ⟨n,e2,_,w2⟩:=DataW.trod_int Tryz.underlying3 h1
  obtain rfl:a = .int .i64 e:=by simpa [hci,Value.cells] using e1
  obtain rfl:b = .int .i64 n:=by simpa [hci,Value.cells] using e2
  exact ⟨e,n,in64_wf w2,rfl⟩
 ·simp at hsz
set_option maxRecDepth 100000 in
theorem swr_lifted (os:Go.Os) (started:os.Started) (H:Type) (enc:TypeId × Value→H) :
  ReturnsInHanded {} Tryz.checked os 5 .any (fun w args=>(Rows.superWritesSpec.pre enc Tryz.prog Tryz.f5 [] false w args∧laidMet Tryz.prog rowLaid2 w)∧sizedMet enc Tryz.prog Tryz.f5 (OpenSpec.ofChange Rows.superWritesSpec) false w args)
   (Rows.superWritesSpec.post enc Tryz.prog Tryz.f5 false true false false):=by
 refine returnsInHanded_of_change_and (C:=Tryz.checked) (X:=fun w _=>laidMet Tryz.prog rowLaid2 w) (fun _ _ _ hh h=>h.of_heap hh) Tryz.own started (by kernel_rfl) Tryz.func5
  (ChangeSpec.witness_at (enc:=enc) (C:=Tryz.checked) (os:=os) (X:=fun w _=>laidMet Tryz.prog rowLaid2 w) false (laidWorld os) #[.slice none 0 0,.agg #[.int .i64 0,.int .i64 0,.int .i64 0],.agg #[.int .i64 0,.int .i64 0],.slice none 0 0] 8 rfl (by kernel_rfl) (by kernel_rfl) (by kernel_rfl) (by kernel_rfl) (by kernel_rfl) (laidWorld_met2 os _)) ?_
 intro W base args ds gs before hval0 hW _ _ hL _
 have hval:∀ (j:Nat) t v,Tryz.f5.params[j]?=some t→args[j]?=some v→Value.okWide Tryz.prog W .any base t v:=hval0
 have hW':=hW
 obtain ⟨p,q,hA0,hV0,rfl,_,_⟩:=hW
 have hA:DataW.TrodAll enc Tryz.prog W 0 (fun _=>true) true Tryz.f5.params.toList args.toList ds p:=hA0
 have hV:DataW.TrodVars enc Tryz.prog W (fun _=>true) [] gs q:=hV0
 rw [Tryz.params5] at hA hval
 obtain ⟨v0,v1,v2,v3,d0,d1,d2,d3,q0,q1,q2,q3,rfl,rfl,rfl,h0,h1,h2,h3⟩:=trodAll_four hA
 obtain ⟨rfl,rfl⟩:gs = []∧q = []:=by
  cases gs with
  | nil=>exact ⟨rfl,hV⟩
  | cons g r=>exact absurd hV (by intro h;cases h)
 obtain ⟨ht,htk⟩:=tab_of_laid2 hL
 have e1:Rows.superWritesSpec.fn H ([d0,d1,d2,d3]++[]) = { results:=[.lit (.bool true)],args:=[d0,d1,d2,d3] }:=by simp [Rows.superWritesSpec]
 have hlt:∀ x∈(q0++q1++q2++q3++[]:List MemPlace),x.block<W.heap.size:=fun x hx=>hW'.lt x hx
 have fin:∀ W',Below W.heap.size W W'→Rows.superWritesSpec.post enc Tryz.prog Tryz.f5 false true false false W #[v0,v1,v2,v3] (.bool true) W':=fun W' hb=>by
  refine ⟨_,_,_,[],q0++(q1++(q2++(q3))),[],hW',?_,?_,?_,World.keptBut_mono (fun x hx=>⟨hx,?_⟩) (hb.frame (· ∈ q0++q1++q2++q3++[])),fun h=>by cases h⟩
  ·rw [e1];exact trodAll_mk1 (shut_bool Tryz.underlying4 true)
  ·rw [e1];exact trodAll_mk4 (trod_below_args h0 hb (fun x hx=>hlt x (by simp [hx])) (by kernel_rfl) (of_decide_eq_true (by kernel_rfl))) (trod_below_args h1 hb (fun x hx=>hlt x (by simp [hx])) (by kernel_rfl) (of_decide_eq_true (by kernel_rfl))) (trod_below_args h2 hb (fun x hx=>hlt x (by simp [hx])) (by kernel_rfl) (of_decide_eq_true (by kernel_rfl))) (trod_below_args h3 hb (fun x hx=>hlt x (by simp [hx])) (by kernel_rfl) (of_decide_eq_true (by kernel_rfl)))
  ·rw [e1];rfl
  ·simpa using hx
 obtain ⟨L0,a0,cap0,rfl,hb0⟩:=open_bs (hval 0 22 v0 rfl rfl) h0
 obtain ⟨g1,rfl,_⟩:=open_geo (hval 1 67 v1 rfl rfl) h1
 obtain ⟨e2,n2,hn2,rfl⟩:=open_wn (hval 2 69 v2 rfl rfl) h2
 obtain ⟨L3,a3,cap3,rfl,hb3⟩:=open_bs (hval 3 22 v3 rfl rfl) h3
 refine (swrites_any take_any L0 a0 _ cap0 rfl g1 e2 n2 hn2 L3 a3 _ cap3 rfl W hb0 hb3 ht htk).mono fun e W' ⟨he,hb⟩=>?_
 subst he
 exact ⟨_,rfl,fin W' hb⟩
theorem swr_row:Rows.SuperWritesSaid :=
 OpenClaim.holds_of_wide 5 Tryz.f5 rfl rfl rfl rfl rfl rfl rfl ⟨rfl,rfl,rfl,rfl,rfl⟩ rfl rfl rfl rfl rfl (by kernel_rfl) Tryz.func5 (by kernel_rfl)
  (of_decide_eq_true (by kernel_rfl)) (by unfold Func.isWrapper;rw [if_neg (of_decide_eq_false (by kernel_rfl))];exact ⟨rfl,rfl⟩)
  (fun os started H enc _=>swr_lifted os started H enc)
theorem swr_holds:Rows.SuperWritesCardSaid :=
 Claim7.holds_tied_plain_at .later [] [.data,.data] true (true, "5a2a29979804dc0f057055e3054d44a3c82cbd249f07b6048cf378e3010b9aef") false
  swr_row (fun _ h=>by cases h) (by kernel_rfl) (fun _ h=>by cases h) superWrites_row_tie rfl ⟨rfl,rfl⟩ (by kernel_rfl) rfl
  (fun f fn hf hfn=>by
   obtain rfl:f = 5:=Option.some.inj ((show Tryz.prog.funcNamed "rill/rilllaw15.SuperWrites"=some 5 by kernel_rfl).symm.trans hf) |>.symm
   obtain rfl:fn = Tryz.f5:=(Option.some.inj (Tryz.func5.symm.trans hfn)).symm
   exact ⟨by kernel_rfl,fun j t ht=>by
    rw [Tryz.params5] at ht
    have h3:t = 22∨t = 67∨t = 69:=by
     rcases j with _ | _ | _ | _ | j
     ·left;simpa using ht.symm
     ·right;left;simpa using ht.symm
     ·right;right;simpa using ht.symm
     ·left;simpa using ht.symm
     ·simp at ht
    rcases h3 with rfl | rfl | rfl
    ·exact (show Tryz.prog.wantsStandIn 22=false by kernel_rfl)
    ·exact (show Tryz.prog.wantsStandIn 67=false by kernel_rfl)
    ·exact (show Tryz.prog.wantsStandIn 69=false by kernel_rfl)⟩)
  (by kernel_rfl)
end Go.Proofs.YtnnalemboeccbaaGreatDoor
