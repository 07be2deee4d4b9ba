/-
  SeI, SeJ (merged)
-/
import Derived.Test.YtnnalemboeccbaaGreatDoorSe2
import Derived.Laws.Cover3
namespace Go.Proofs.YtnnalemboeccbaaGreatDoor

/-! SeI:  -/
section
open Go.RowKit
theorem opensay_some {K:List Int} {e n:Int} {X:List Int} {w x w':World} {q:Option Addr} {cq k:Nat} (hX:X.length=k) (hb:Below w.heap.size w x) (h:XorGot X (Seal.ct K e n X) x q cq w'):OpenSay (some (Seal.ct K e n X)) w (.returned (.tuple #[.slice q k cq,.bool true])) w':=by
 subst hX
 refine ⟨q,cq,X.length,rfl,Seal.ct_len _ _ _ _,?_,bs_xor h,hb.trans (h.below.mono hb.size)⟩
 show World.ownsRow _ _ _ _ _ _ _
 have ho:=h.own
 refine ⟨ho.1,?_⟩
 rcases ho.2 with h1 | ⟨g,cap,cur,h1,h2,h3⟩
 ·exact Or.inl h1
 ·exact Or.inr ⟨g,cap,cur,h1,Nat.le_trans hb.size h2,h3⟩
set_option maxHeartbeats 4000000 in
set_option maxRecDepth 100000 in
theorem open_good (hT:TakeSaid) (K h S:List Int) (g:Nat) (e n:Int) (ph:Option Addr) (ab ao nh nS ch cS k:Nat) (hnh:h.length=nh) (hnS:S.length=nS) (hk:nS=k+32) (he:inR e=true) (hn:inR n=true)
  (w:World) (hg:BoxAt w g K) (hh:Bs w ph ch h) (hS:Bs w (some ⟨ab,ao,none⟩) cS S) (hs:nh+nS≤200000) (ht:Tab w 1) :
  Calls Tryz.prog 240 #[.pointer (some ⟨g,0,none⟩),.int .i64 e,.int .i64 n,.slice ph nh ch,.slice (some ⟨ab,ao,none⟩) nS cS] w (OpenSay (Seal.op K e n h S) w):=by
 subst hnh
 obtain ⟨c,hg1,hg2⟩:=hg
 have HT:=Lib.hid hT;clear hT
 have Ht:=Lib.hid ht;clear ht
 have HG1:=Lib.hid hg1;clear hg1
 have HG2:=Lib.hid hg2;clear hg2
 have Hh:=Lib.hid hh;clear hh
 have HSS:=Lib.hid hS;clear hS
 have Hs:=Lib.hid hs;clear hs
 have HnS:=Lib.hid hnS;clear hnS
 have he2:0≤e∧e≤1099511627776:=by unfold inR at he;simpa using he
 have hn2:0≤n∧n≤1099511627776:=by unfold inR at hn;simpa using hn
 have HE:Hid (∀ x,Calls Tryz.prog 243 #[.int .i64 e] x fun r x'=>r = .returned (.bool true)∧x=x'):=fun x=>by have h:=inRange_any e x;rw [he] at h;exact h.mono fun _ _ q=>⟨q.1,q.2.symm⟩
 have HN:Hid (∀ x,Calls Tryz.prog 243 #[.int .i64 n] x fun r x'=>r = .returned (.bool true)∧x=x'):=fun x=>by have h:=inRange_any n x;rw [hn] at h;exact h.mono fun _ _ q=>⟨q.1,q.2.symm⟩
 obtain ⟨X,HX⟩:∃ X,Hid (X=S.take k):=⟨_,rfl⟩
 have HXL:Hid (X.length=k):=by show _=_;rw [HX.out,List.length_take];have:=HnS.out;omega
 obtain ⟨G,HGT⟩:∃ G,Hid (G=S.drop k):=⟨_,rfl⟩
 have HGL:Hid (G.length=32):=by show _=_;rw [HGT.out,List.length_drop];have:=HnS.out;omega
 have HGB:Hid (Sha.Byt G):=by show Sha.Byt G;rw [HGT.out];exact fun x hx=>HSS.out.byt x (List.mem_of_mem_drop hx)
 have HXB:Hid (Sha.Byt X):=by show Sha.Byt X;rw [HX.out];exact fun x hx=>HSS.out.byt x (List.mem_of_mem_take hx)
 have HBX:Hid (Bs w (some ⟨ab,ao,none⟩) cS X):=⟨by rw [HX.out];exact HSS.out.bat.take k,⟨by have:=HSS.out.cap;have:=HXL.out;have:=HnS.out;omega,HSS.out.cap.2⟩,fun h=>by cases h⟩
 have HXR:Hid (∀ x,Below w.heap.size w x→Calls Tryz.prog 246 #[.pointer (some ⟨c,0,none⟩),.int .i64 e,.int .i64 n,.slice (some ⟨ab,ao,none⟩) k cS] x fun r x'=>∃ q cq,r = .returned (.slice q k cq)∧Hid (XorGot X (Seal.ct K e n X) x q cq x')):=fun x hx=>by
  unfold Seal.ct
  exact xor_key (Seal.ks_len K) (by omega) c e n X k HXL.out (some ⟨ab,ao,none⟩) cS (by have:=Hs.out;omega) (fun h=>by cases h) x (HBX.out.old hx).bat (HG2.out.below hx (Nat.le_refl _))
 obtain ⟨T,HTT⟩:∃ T,Hid (T=Seal.tg K e n h X):=⟨_,rfl⟩
 have HTL:Hid (T.length=32):=by show _=_;rw [HTT.out,Seal.tg_len]
 have HTB:Hid (Sha.Byt T):=by show Sha.Byt T;rw [HTT.out];exact Seal.tg_byt _ _ _ _ _
 have HTG:Hid (∀ x,Below w.heap.size w x→Calls Tryz.prog 245 #[.pointer (some ⟨g,0,none⟩),.int .i64 e,.int .i64 n,.slice ph h.length ch,.slice (some ⟨ab,ao,none⟩) k cS] x (RowSay T x)):=fun x hx=>by
  have h1:=tag_any HT.out (Seal.k2 K) (Seal.k2_len K) (Seal.k2_byt K) g c e n (by omega) (by omega) h X ph (some ⟨ab,ao,none⟩) h.length k ch cS rfl HXL.out x (HG1.out.old hx) (Hh.out.old hx) (HBX.out.old hx) (by have:=Hs.out;omega) (Ht.out.below hx Ht.out.lt)
  rw [HTT.out]
  unfold Seal.tg
  exact h1
 have HOP:Hid (Seal.op K e n h S=if decide (G=T) then some (Seal.ct K e n X) else none):=by
  show _=_
  unfold Seal.op
  rw [HnS.out,show nS-32=k by omega,← HX.out,← HGT.out,← HTT.out,he,hn,show decide (32≤nS)=true by simp;omega]
  simp
 rw [HOP.out]
 obtain ⟨AG,HAG1,HAG2,HAG3⟩:∃ A:Array Value,Hid (A=(G.map (Value.int .u8)).toArray)∧Hid (A.size=32)∧Hid (A.all (·.oneCell')=true) :=
  ⟨_,rfl,by show _=_;simp [HGL.out],all_oneCell_toArray (bytes_one _)⟩
 obtain ⟨AT,HAT⟩:∃ A:Array Value,Hid (A=(T.map (Value.int .u8)).toArray):=⟨_,rfl⟩
 have HSM:Hid (∀ x,Calls Tryz.prog 244 #[.agg AG,.agg AT] x fun r x'=>r = .returned (.bool (decide (G=T)))∧Below x.heap.size x x'):=fun x=>by
  rw [HAG1.out,HAT.out]
  exact Same.same_sums G T HGL.out HTL.out HGB.out HTB.out x
 have HRG:Hid (∀ x,Below w.heap.size w x→x.rangeAt ab (ao+k) AG.toList):=fun x hx j v hv=>by
  obtain ⟨ab',ao',h1,h2⟩:=(HSS.out.old hx).bat.2 (by have:=HnS.out;omega)
  cases h1
  rw [HAG1.out,HGT.out] at hv
  have hj:j<32:=by
   have:=(List.getElem?_eq_some_iff.1 hv).1
   simp at this
   have:=HnS.out
   omega
  rw [Nat.add_assoc,h2 (k+j) (by have:=HnS.out;omega)]
  have hv2:(S.drop k)[j]?.map (Value.int .u8)=some v:=by simpa using hv
  rw [List.getElem?_drop] at hv2
  rw [List.getD_eq_getElem?_getD]
  cases hq:S[k+j]? with
  | none=>rw [hq] at hv2;cases hv2
  | some y=>rw [hq] at hv2;simpa using hv2
 have hb0:w.cell? ⟨g,0,none⟩=some (.pointer (some ⟨c,0,none⟩)):=HG1.out.first
 have HB0:Hid (∀ x,Below w.heap.size w x→x.cell? ⟨g,0,none⟩=some (.pointer (some ⟨c,0,none⟩))):=fun x hx=>(HG1.out.old hx).first
 have hcap:=HSS.out.cap
 have hkk:k≤200000:=by have:=Hs.out;omega
 rw [HnS.out] at hcap
 generalize decide (G=T)=b at *
 clear he hn he2 hn2 HOP
 have hw0:IntKind.i64.wrap ((nS:Int)-32)=(nS:Int)-32:=IntWalk.i64_in _ ⟨by omega,by omega⟩
 have hw1:(nS:Int)-32=(k:Int):=by omega
 have hw2:¬ ((k:Int)<0):=by omega
 go_enter Tryz.func240,Tryz.ntmps240
 go_upto_region 4 with (first
  | (go_at_call 243;refine (HE.out _).mono ?_;rintro e1 w1 ⟨rfl,rfl⟩;clear HE)
  | (go_at_call 243;refine (HN.out _).mono ?_;rintro e2 w2 ⟨rfl,rfl⟩;clear HN))
 refine wp_region_any (by kernel_rfl) ?_
 change wpAny _ _ _ _ _ _ _ (World.drew _)
 have B1:Hid (Below w.heap.size w w.drew):=(Below.refl _ w).drew
 obtain ⟨w1,hw1e⟩:∃ x,x=w.drew:=⟨_,rfl⟩
 rw [← hw1e] at B1 ⊢
 clear hw1e
 have hnk:k+32-k=32:=by omega
 have hkc:k≤cS:=by omega
 have hck:¬ (cS-k=0):=by omega
 have hck2:¬ (cS=k):=by omega
 have hle:(k:Int)≤(k:Int)+32:=by omega
 have hat:∀ w,(Instr.arrayAt 39 (.slice (some ⟨ab,ao+k,none⟩) 32 (cS-k))).run Tryz.prog w = .ok (.pointer (some ⟨ab,ao+k,none⟩)) w:=fun w=>run_arrayAt _ _ _ 32 _ 32 _ Tryz.underlying39 (Nat.le_refl _)
 refine any_take_g 0 30 (.slice (some ⟨ab,ao,none⟩) (k+32) cS) rfl (by kernel_rfl) (by kernel_rfl) (by kernel_rfl) (fun _ _ _ h=>h) (by rfl) (by intro w;go_simp) ?_
 try simp only [Act.put,zq1,zq2,zq3]
 refine any_take_g 1 31 (.int .i64 (k:Int)) rfl (by kernel_rfl) (by kernel_rfl) (by kernel_rfl) (fun _ _ _ h=>h) (by rfl) (by intro w;go_simp) ?_
 try simp only [Act.put,zq1,zq2,zq3]
 refine any_take_g 2 32 (.slice (some ⟨ab,ao,none⟩) k cS) rfl (by kernel_rfl) (by kernel_rfl) (by kernel_rfl) (fun _ _ _ h=>h) (by rfl) (by intro w;go_simp) ?_
 try simp only [Act.put,zq1,zq2,zq3]
 refine any_take_g 3 33 (.slice (some ⟨ab,ao,none⟩) (k+32) cS) rfl (by kernel_rfl) (by kernel_rfl) (by kernel_rfl) (fun _ _ _ h=>h) (by rfl) (by intro w;go_simp) ?_
 try simp only [Act.put,zq1,zq2,zq3]
 refine any_take_g 4 34 (.int .i64 (k:Int)) rfl (by kernel_rfl) (by kernel_rfl) (by kernel_rfl) (fun _ _ _ h=>h) (by rfl) (by intro w;go_simp) ?_
 try simp only [Act.put,zq1,zq2,zq3]
 refine any_take_g 5 35 (.slice (some ⟨ab,ao+k,none⟩) 32 (cS-k)) rfl (by kernel_rfl) (by kernel_rfl) (by kernel_rfl) (fun _ _ _ h=>h) (by rfl) (by intro w;go_simp) ?_
 try simp only [Act.put,zq1,zq2,zq3]
 refine any_take_g 6 36 (.pointer (some ⟨ab,ao+k,none⟩)) rfl (by kernel_rfl) (by kernel_rfl) (by kernel_rfl) (fun _ _ _ h=>h) (by rfl) (by intro w;go_simp) ?_
 try simp only [Act.put,zq1,zq2,zq3]
 have BA1:Hid (∀ C,Below w.heap.size w (w1.alloc C)):=fun C=>B1.out.alloc B1.out.size C
 refine any_two 7 8 (by kernel_rfl) ?_ ?_
 ·refine op_load 7 39 (.tmp 36) rfl ab (ao+k) AG.toList _ rfl (HRG.out _ B1.out) Tryz.underlying39 rfl (by rw [Array.length_toList];exact row_size Tryz.sizeSum HAG2) ?_
  try simp only [Act.put,zq1,zq2,zq3]
  rw [Array.toArray_toList]
  refine any_one 8 (by kernel_rfl) ?_
  refine wpOp_step rfl (fun Kc hKc=>?_)
  go_simp
  refine hKc _ _ ?_
  clear hKc Kc
  try simp only [Act.put,zq1,zq2,zq3]
  refine any_take_g 9 13 (.slice (some ⟨ab,ao,none⟩) k cS) rfl (by kernel_rfl) (by kernel_rfl) (by kernel_rfl) (fun _ _ _ h=>h) (by rfl) (by intro w;go_simp) ?_
  try simp only [Act.put,zq1,zq2,zq3]
  refine any_one 10 (by kernel_rfl) ?_
  refine op_store 10 39 (.tmp 14) (.tmp 37) rfl w1.heap.size 0 39 (List.replicate 32 (Value.int .u8 0)) AG rfl rfl (heap_alloc_new w1 _) (row_size Tryz.sizeSum HAG2) (by rw [HAG2.out];simp) HAG3.out ?_
  intro w5 g5 ch5
  try simp only [Act.put,zq1,zq2,zq3]
  refine wpAny_done (by kernel_rfl) ?_ _
  skip
  have B5:Hid (Below w.heap.size w w5):=ch5.below (BA1.out _) B1.out.size
  have G5:Hid (w5.heap[w1.heap.size]?=some (.cells AG 39 (0,0))):=by
   have h:=g5.out
   have e:splice (List.replicate 32 (Value.int .u8 0)) 0 AG.toList=AG.toList:=by
    unfold splice
    rw [List.take_zero,List.nil_append,Array.length_toList,HAG2.out,List.drop_of_length_le (by simp),List.append_nil]
   rw [e,Array.toArray_toList] at h
   exact h
  clear g5 ch5 BA1 B1
  generalize w1.heap.size=g1 at *
  go_upto_region 5 with (fail)
  refine wp_region_any (by kernel_rfl) ?_
  change wpAny _ _ _ _ _ _ _ (World.drew _)
  replace B5:Hid (Below w.heap.size w w5.drew):=B5.out.drew
  replace G5:Hid (w5.drew.heap[g1]?=some (.cells AG 39 (0,0))):=G5.out
  generalize w5.drew=w6 at *
  refine any_take_g 1 39 (.pointer (some ⟨g,0,none⟩)) rfl (by kernel_rfl) (by kernel_rfl) (by kernel_rfl) (fun _ _ _ h=>h) (by rfl) (by intro w;go_simp) ?_
  try simp only [Act.put,zq1,zq2,zq3]
  refine any_take_g 2 40 (.int .i64 e) rfl (by kernel_rfl) (by kernel_rfl) (by kernel_rfl) (fun _ _ _ h=>h) (by rfl) (by intro w;go_simp) ?_
  try simp only [Act.put,zq1,zq2,zq3]
  refine any_take_g 3 41 (.int .i64 n) rfl (by kernel_rfl) (by kernel_rfl) (by kernel_rfl) (fun _ _ _ h=>h) (by rfl) (by intro w;go_simp) ?_
  try simp only [Act.put,zq1,zq2,zq3]
  refine any_take_g 4 42 (.slice ph h.length ch) rfl (by kernel_rfl) (by kernel_rfl) (by kernel_rfl) (fun _ _ _ h=>h) (by rfl) (by intro w;go_simp) ?_
  try simp only [Act.put,zq1,zq2,zq3]
  refine any_take_g 5 43 (.slice (some ⟨ab,ao,none⟩) k cS) rfl (by kernel_rfl) (by kernel_rfl) (by kernel_rfl) (fun _ _ _ h=>h) (by rfl) (by intro w;go_simp) ?_
  try simp only [Act.put,zq1,zq2,zq3]
  refine any_two 0 6 (by kernel_rfl) ?_ ?_
  ·refine op_load 0 39 (.tmp 14) rfl g1 0 AG.toList _ rfl (row_range' G5.out) Tryz.underlying39 rfl (by rw [Array.length_toList];exact row_size Tryz.sizeSum HAG2) ?_
   try simp only [Act.put,zq1,zq2,zq3]
   rw [Array.toArray_toList]
   refine any_one 6 (by kernel_rfl) ?_
   refine wpOp_step rfl (fun Kc hKc=>?_)
   go_simp
   refine (HTG.out _ B5.out).mono ?_
   rintro e7 w7 ⟨rfl,hb7⟩
   rw [← HAT.out]
   have B7:Hid (Below w.heap.size w w7):=B5.out.trans (hb7.mono B5.out.size)
   have G7:Hid (w7.heap[g1]?=some (.cells AG 39 (0,0))):=(hb7.block _ (lt_of_block G5.out)).trans G5.out
   clear hb7
   dsimp only
   refine hKc _ _ ?_
   clear hKc Kc
   try simp only [Act.put,zq1,zq2,zq3]
   refine any_one 7 (by kernel_rfl) ?_
   refine wpOp_step rfl (fun Kc hKc=>?_)
   go_simp
   refine (HSM.out _).mono ?_
   rintro e8 w8 ⟨rfl,hb8⟩
   have B8:Hid (Below w.heap.size w w8):=B7.out.trans (hb8.mono B7.out.size)
   clear hb8
   dsimp only
   refine hKc _ _ ?_
   clear hKc Kc
   try simp only [Act.put,zq1,zq2,zq3]
   refine any_take_g 8 46 (.bool (!b)) rfl (by kernel_rfl) (by kernel_rfl) (by kernel_rfl) (fun _ _ _ h=>h) (by rfl) (by intro w;go_simp) ?_
   try simp only [Act.put,zq1,zq2,zq3]
   refine wpAny_done (by kernel_rfl) ?_ _
   have hb8c:=HB0.out _ B8.out
   cases b with
   | false =>
    go_wp2
    go_ret2
    exact opensay_none B8.out
   | true =>
    go_wp2_with (go_at_call 246;refine (HXR.out _ B8.out).mono ?_;rintro e9 w9 ⟨q9,c9,rfl,HGOT⟩)
    go_ret2
    exact opensay_some HXL.out B8.out HGOT.out
  ·refine wpOp_step rfl (fun Kc hKc=>?_)
   go_simp
   refine (HTG.out _ B5.out).mono ?_
   rintro e7 w7 ⟨rfl,hb7⟩
   rw [← HAT.out]
   have B7:Hid (Below w.heap.size w w7):=B5.out.trans (hb7.mono B5.out.size)
   have G7:Hid (w7.heap[g1]?=some (.cells AG 39 (0,0))):=(hb7.block _ (lt_of_block G5.out)).trans G5.out
   clear hb7
   dsimp only
   refine hKc _ _ ?_
   clear hKc Kc
   try simp only [Act.put,zq1,zq2,zq3]
   refine any_one 0 (by kernel_rfl) ?_
   refine op_load 0 39 (.tmp 14) rfl g1 0 AG.toList _ rfl (row_range' G7.out) Tryz.underlying39 rfl (by rw [Array.length_toList];exact row_size Tryz.sizeSum HAG2) ?_
   try simp only [Act.put,zq1,zq2,zq3]
   rw [Array.toArray_toList]
   refine any_one 7 (by kernel_rfl) ?_
   refine wpOp_step rfl (fun Kc hKc=>?_)
   go_simp
   refine (HSM.out _).mono ?_
   rintro e8 w8 ⟨rfl,hb8⟩
   have B8:Hid (Below w.heap.size w w8):=B7.out.trans (hb8.mono B7.out.size)
   clear hb8
   dsimp only
   refine hKc _ _ ?_
   clear hKc Kc
   try simp only [Act.put,zq1,zq2,zq3]
   refine any_take_g 8 46 (.bool (!b)) rfl (by kernel_rfl) (by kernel_rfl) (by kernel_rfl) (fun _ _ _ h=>h) (by rfl) (by intro w;go_simp) ?_
   try simp only [Act.put,zq1,zq2,zq3]
   refine wpAny_done (by kernel_rfl) ?_ _
   have hb8c:=HB0.out _ B8.out
   cases b with
   | false =>
    go_wp2
    go_ret2
    exact opensay_none B8.out
   | true =>
    go_wp2_with (go_at_call 246;refine (HXR.out _ B8.out).mono ?_;rintro e9 w9 ⟨q9,c9,rfl,HGOT⟩)
    go_ret2
    exact opensay_some HXL.out B8.out HGOT.out
 ·refine wpOp_step rfl (fun Kc hKc=>?_)
  go_simp
  refine hKc _ _ ?_
  clear hKc Kc
  try simp only [Act.put,zq1,zq2,zq3]
  refine any_take_g 9 13 (.slice (some ⟨ab,ao,none⟩) k cS) rfl (by kernel_rfl) (by kernel_rfl) (by kernel_rfl) (fun _ _ _ h=>h) (by rfl) (by intro w;go_simp) ?_
  try simp only [Act.put,zq1,zq2,zq3]
  refine any_one 7 (by kernel_rfl) ?_
  refine op_load 7 39 (.tmp 36) rfl ab (ao+k) AG.toList _ rfl (HRG.out _ (BA1.out _)) Tryz.underlying39 rfl (by rw [Array.length_toList];exact row_size Tryz.sizeSum HAG2) ?_
  try simp only [Act.put,zq1,zq2,zq3]
  rw [Array.toArray_toList]
  refine any_one 10 (by kernel_rfl) ?_
  refine op_store 10 39 (.tmp 14) (.tmp 37) rfl w1.heap.size 0 39 (List.replicate 32 (Value.int .u8 0)) AG rfl rfl (heap_alloc_new w1 _) (row_size Tryz.sizeSum HAG2) (by rw [HAG2.out];simp) HAG3.out ?_
  intro w5 g5 ch5
  try simp only [Act.put,zq1,zq2,zq3]
  refine wpAny_done (by kernel_rfl) ?_ _
  have B5:Hid (Below w.heap.size w w5):=ch5.below (BA1.out _) B1.out.size
  have G5:Hid (w5.heap[w1.heap.size]?=some (.cells AG 39 (0,0))):=by
   have h:=g5.out
   have e:splice (List.replicate 32 (Value.int .u8 0)) 0 AG.toList=AG.toList:=by
    unfold splice
    rw [List.take_zero,List.nil_append,Array.length_toList,HAG2.out,List.drop_of_length_le (by simp),List.append_nil]
   rw [e,Array.toArray_toList] at h
   exact h
  clear g5 ch5 BA1 B1
  generalize w1.heap.size=g1 at *
  go_upto_region 5 with (fail)
  refine wp_region_any (by kernel_rfl) ?_
  change wpAny _ _ _ _ _ _ _ (World.drew _)
  replace B5:Hid (Below w.heap.size w w5.drew):=B5.out.drew
  replace G5:Hid (w5.drew.heap[g1]?=some (.cells AG 39 (0,0))):=G5.out
  generalize w5.drew=w6 at *
  refine any_take_g 1 39 (.pointer (some ⟨g,0,none⟩)) rfl (by kernel_rfl) (by kernel_rfl) (by kernel_rfl) (fun _ _ _ h=>h) (by rfl) (by intro w;go_simp) ?_
  try simp only [Act.put,zq1,zq2,zq3]
  refine any_take_g 2 40 (.int .i64 e) rfl (by kernel_rfl) (by kernel_rfl) (by kernel_rfl) (fun _ _ _ h=>h) (by rfl) (by intro w;go_simp) ?_
  try simp only [Act.put,zq1,zq2,zq3]
  refine any_take_g 3 41 (.int .i64 n) rfl (by kernel_rfl) (by kernel_rfl) (by kernel_rfl) (fun _ _ _ h=>h) (by rfl) (by intro w;go_simp) ?_
  try simp only [Act.put,zq1,zq2,zq3]
  refine any_take_g 4 42 (.slice ph h.length ch) rfl (by kernel_rfl) (by kernel_rfl) (by kernel_rfl) (fun _ _ _ h=>h) (by rfl) (by intro w;go_simp) ?_
  try simp only [Act.put,zq1,zq2,zq3]
  refine any_take_g 5 43 (.slice (some ⟨ab,ao,none⟩) k cS) rfl (by kernel_rfl) (by kernel_rfl) (by kernel_rfl) (fun _ _ _ h=>h) (by rfl) (by intro w;go_simp) ?_
  try simp only [Act.put,zq1,zq2,zq3]
  refine any_two 0 6 (by kernel_rfl) ?_ ?_
  ·refine op_load 0 39 (.tmp 14) rfl g1 0 AG.toList _ rfl (row_range' G5.out) Tryz.underlying39 rfl (by rw [Array.length_toList];exact row_size Tryz.sizeSum HAG2) ?_
   try simp only [Act.put,zq1,zq2,zq3]
   rw [Array.toArray_toList]
   refine any_one 6 (by kernel_rfl) ?_
   refine wpOp_step rfl (fun Kc hKc=>?_)
   go_simp
   refine (HTG.out _ B5.out).mono ?_
   rintro e7 w7 ⟨rfl,hb7⟩
   rw [← HAT.out]
   have B7:Hid (Below w.heap.size w w7):=B5.out.trans (hb7.mono B5.out.size)
   have G7:Hid (w7.heap[g1]?=some (.cells AG 39 (0,0))):=(hb7.block _ (lt_of_block G5.out)).trans G5.out
   clear hb7
   dsimp only
   refine hKc _ _ ?_
   clear hKc Kc
   try simp only [Act.put,zq1,zq2,zq3]
   refine any_one 7 (by kernel_rfl) ?_
   refine wpOp_step rfl (fun Kc hKc=>?_)
   go_simp
   refine (HSM.out _).mono ?_
   rintro e8 w8 ⟨rfl,hb8⟩
   have B8:Hid (Below w.heap.size w w8):=B7.out.trans (hb8.mono B7.out.size)
   clear hb8
   dsimp only
   refine hKc _ _ ?_
   clear hKc Kc
   try simp only [Act.put,zq1,zq2,zq3]
   refine any_take_g 8 46 (.bool (!b)) rfl (by kernel_rfl) (by kernel_rfl) (by kernel_rfl) (fun _ _ _ h=>h) (by rfl) (by intro w;go_simp) ?_
   try simp only [Act.put,zq1,zq2,zq3]
   refine wpAny_done (by kernel_rfl) ?_ _
   have hb8c:=HB0.out _ B8.out
   cases b with
   | false =>
    go_wp2
    go_ret2
    exact opensay_none B8.out
   | true =>
    go_wp2_with (go_at_call 246;refine (HXR.out _ B8.out).mono ?_;rintro e9 w9 ⟨q9,c9,rfl,HGOT⟩)
    go_ret2
    exact opensay_some HXL.out B8.out HGOT.out
  ·refine wpOp_step rfl (fun Kc hKc=>?_)
   go_simp
   refine (HTG.out _ B5.out).mono ?_
   rintro e7 w7 ⟨rfl,hb7⟩
   rw [← HAT.out]
   have B7:Hid (Below w.heap.size w w7):=B5.out.trans (hb7.mono B5.out.size)
   have G7:Hid (w7.heap[g1]?=some (.cells AG 39 (0,0))):=(hb7.block _ (lt_of_block G5.out)).trans G5.out
   clear hb7
   dsimp only
   refine hKc _ _ ?_
   clear hKc Kc
   try simp only [Act.put,zq1,zq2,zq3]
   refine any_one 0 (by kernel_rfl) ?_
   refine op_load 0 39 (.tmp 14) rfl g1 0 AG.toList _ rfl (row_range' G7.out) Tryz.underlying39 rfl (by rw [Array.length_toList];exact row_size Tryz.sizeSum HAG2) ?_
   try simp only [Act.put,zq1,zq2,zq3]
   rw [Array.toArray_toList]
   refine any_one 7 (by kernel_rfl) ?_
   refine wpOp_step rfl (fun Kc hKc=>?_)
   go_simp
   refine (HSM.out _).mono ?_
   rintro e8 w8 ⟨rfl,hb8⟩
   have B8:Hid (Below w.heap.size w w8):=B7.out.trans (hb8.mono B7.out.size)
   clear hb8
   dsimp only
   refine hKc _ _ ?_
   clear hKc Kc
   try simp only [Act.put,zq1,zq2,zq3]
   refine any_take_g 8 46 (.bool (!b)) rfl (by kernel_rfl) (by kernel_rfl) (by kernel_rfl) (fun _ _ _ h=>h) (by rfl) (by intro w;go_simp) ?_
   try simp only [Act.put,zq1,zq2,zq3]
   refine wpAny_done (by kernel_rfl) ?_ _
   have hb8c:=HB0.out _ B8.out
   cases b with
   | false =>
    go_wp2
    go_ret2
    exact opensay_none B8.out
   | true =>
    go_wp2_with (go_at_call 246;refine (HXR.out _ B8.out).mono ?_;rintro e9 w9 ⟨q9,c9,rfl,HGOT⟩)
    go_ret2
    exact opensay_some HXL.out B8.out HGOT.out
end

/-! SeJ:  -/
section
open Go.RowKit
theorem open_any (hT:TakeSaid) (K h S:List Int) (g:Nat) (e n:Int) (ph pS:Option Addr) (nh nS ch cS:Nat) (hnh:h.length=nh) (hnS:S.length=nS)
  (w:World) (hg:BoxAt w g K) (hh:Bs w ph ch h) (hS:Bs w pS cS S) (hs:nh+nS≤200000) (ht:Tab w 1) :
  Calls Tryz.prog 240 #[.pointer (some ⟨g,0,none⟩),.int .i64 e,.int .i64 n,.slice ph nh ch,.slice pS nS cS] w (OpenSay (Seal.op K e n h S) w):=by
 by_cases hl:nS<32
 ·exact open_bad K h S g e n _ pS nS cS hnS (by omega) (Or.inr hl) w
 ·cases h0:(inR e&&inR n) with
  | false=>exact open_bad K h S g e n _ pS nS cS hnS (by omega) (Or.inl h0) w
  | true =>
   simp only [Bool.and_eq_true] at h0
   obtain ⟨ab,ao,rfl,_⟩:=hS.bat.2 (by omega)
   exact open_good hT K h S g e n ph ab ao nh nS ch cS (nS-32) hnh hnS (by omega) h0.1 h0.2 w hg hh hS hs ht
theorem lit_one (x:World) (l:List Int) (n:Nat) (fr:Nat × Nat) (hl:l.length=n) (hn:n≤1000) (hb:Sha.Byt l):Bs (x.alloc (.cells (l.map (Value.int .u8)).toArray 5 fr)) (some ⟨x.heap.size,0,none⟩) n l :=
 bs_row (bat_row (heap_alloc_new x _) hb) ⟨by omega,by omega⟩
theorem below_two (x:World) (O O':Obj):Below x.heap.size x ((x.alloc O).alloc O'):=((Below.refl _ x).alloc (Nat.le_refl _) _).alloc (by simp) _
end
end Go.Proofs.YtnnalemboeccbaaGreatDoor
