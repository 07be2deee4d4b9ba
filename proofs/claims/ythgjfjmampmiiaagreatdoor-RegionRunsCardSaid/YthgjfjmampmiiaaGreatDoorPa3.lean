/-
  PaG, PaH, PaI, PaJ (merged)
-/
import Derived.Test.YthgjfjmampmiiaaGreatDoorPa1
namespace Go.Proofs.YthgjfjmampmiiaaGreatDoor
open Go.Proofs.Tryz
set_option maxHeartbeats 2000000
set_option maxRecDepth 100000
section
open Go.RowKit
theorem abo (place:Nat→Option (Nat × Nat)) (v:Value) (A Z:Array Value) (z:List Value) (hv:v.cells = #[v]) (h0:place 0=some (0,1)) (h1:place 1=some (1,32)) (hA:A.size=32) (hZ:Z=(Value.int .i64 0 :: z).toArray) (hz:z.length=32) :
  Instr.fill place Z [(0,v),(1,.agg A)]=some (#[v]++A):=by
 have h:=jU 1 A.toList 0 (v :: z).toArray (by simp;omega);subst hZ;unfold Instr.fill;rw [h0];dsimp only;rw [hv];split
 ·rename_i hh
  simp [hz] at hh
 ·unfold Instr.fill;rw [h1];dsimp only;split
  ·rename_i hh
   simp [Value.cells,hA,hz] at hh
  ·unfold Instr.fill;congr 1;show Array.foldl (fun (cs:Array Value) (x:Value × Nat)=>cs.setIfInBounds (1+x.2) x.1) (v :: z).toArray A.zipIdx=_;rw [← Array.foldl_toList,Array.toList_zipIdx,h];apply Array.ext'
   simp [hA,hz]
def bS:Array Value:=(Value.int .i64 0 :: List.replicate 32 (Value.int .u8 0)).toArray
theorem Tryz.adN:(prog.info? 41).map (fun i=>(i.zero,i.size))=some (some (.agg bS),33):=by kernel_rfl
theorem Tryz.x6:(match prog.underlying 41 with
  | some (.struct fields)=>fields.toList.mapM (fun f=>(prog.info? f.type).map fun i=>(f.offset,i.size))
  | _=>none)=some [(0,1),(1,32)]:=by kernel_rfl
theorem oq (a:Int) (A:Array Value) (hA:A.size=32):prog.built 41 [(0,.int .i64 a),(1,.agg A)]=some (#[.int .i64 a]++A):=by
 unfold Program.built;have hz:=Tryz.adN;have hp:=Tryz.x6;cases hi:prog.info? 41 with
 | none=>rw [hi] at hz;cases hz
 | some i =>
  rw [hi] at hz;simp only [Option.map_some,Option.some.injEq,Prod.mk.injEq] at hz;cases hu:prog.underlying 41 with
  | none=>rw [hu] at hp;cases hp
  | some d =>
   rw [hu] at hp;cases d<;>try (exact absurd hp (fun h=>by cases h))
   case struct fields =>
    dsimp only at hp ⊢;rw [hz.1,hp];dsimp only;exact abo _ (.int .i64 a) A bS (List.replicate 32 (Value.int .u8 0)) rfl rfl rfl hA rfl rfl
theorem qP {P:Program} {a:Act} {w:World} {D:Option Tmp} {T:TypeId} {ps:String} {af:Array Edge} {gd:Option (Nat × Bool)} (t:TypeId) (x y:Operand) (v u:Value) (R:Array Value) (hx:a.eval x=v) (hy:a.eval y=u) (hr:P.built t [(0,v),(1,u)]=some R) :
  (execOp a.eval { dst:=D,op:=.build t #[(0,x),(1,y)],type:=T,pos:=ps,after:=af,guard:=gd }).run P w = .ok (.value (.agg R)) w:=by
 have Am:=run_build (P:=P) w t #[(0,v),(1,u)] R hr;unfold execOp;simp only [hx,hy,List.map_toArray,List.map_cons,List.map_nil,Am,Sem.run_bind,Sem.run_pure,Result.andThen_ok]
theorem qm (k:Int) (S:List Int):fU (k,S) = .agg (#[.int .i64 k]++(S.map (Value.int .u8)).toArray):=by
 unfold fU;congr 1;apply Array.ext'
 simp
theorem y8 (L:List Int) (ab ao n c:Nat) (hn:L.length=n) (h40:n=40) (w:World) (hp:Bs w (some ⟨ab,ao,none⟩) c L) :
  qc 139 #[.slice (some ⟨ab,ao,none⟩) n c] w fun e w'=>e = .returned (fU (Pk.j4 (L.take 8),L.drop 8))∧qw w w':=by
 subst h40;have Az:=hp.cap;have HP:=qh hp;clear hp;have HN:=qh hn;have D9:Hid ((L.take 8).length=8):=by show _=_;rw [List.length_take];omega
 have PQ:Hid ((L.drop 8).length=32):=by show _=_;rw [List.length_drop];omega
 rw [hn] at Az;obtain ⟨A,An⟩:∃ A,Hid (A=((L.drop 8).map (Value.int .u8)).toArray):=⟨_,rfl⟩;have Ak:Hid (A.size=32):=by show _=_;rw [An.out,List.size_toArray,List.length_map,PQ.out]
 have Au:Hid (A.all (·.oneCell')=true):=by show _=_;rw [An.out];exact all_oneCell_toArray (aw _)
 have e33:fU (Pk.j4 (L.take 8),L.drop 8) = .agg (#[.int .i64 (Pk.j4 (L.take 8))]++A):=by rw [An.out];exact qm _ _
 have e32:Hid (dz (L.drop 8) = .agg A):=by show _=_;unfold dz;rw [An.out]
 have HI:Hid (∀ y,qw w y→qc 135 #[.slice (some ⟨ab,ao,none⟩) 8 c] y fun e w'=>e = .returned (.int .i64 (Pk.j4 (L.take 8)))∧w'=y):=fun y hy =>
  ov (L.take 8) _ 8 c D9.out (by omega) y ((HP.out.take 8).av hy)
 have HS:Hid (∀ y,qw w y→qc 137 #[.slice (some ⟨ab,ao+8,none⟩) 32 (c-8)] y fun e w'=>e = .returned (.agg A)∧qw y w'):=fun y hy=>by
  rw [← e32.out];exact oy (L.drop 8) _ 32 (c-8) PQ.out rfl y ((HP.out.oh (k:=8) (by rw [HN.out];omega)).av hy)
 clear An hn;rw [e33];clear e33;generalize Pk.j4 (L.take 8)=K at *;have KQ:=oq K A Ak.out;have Aj:Hid ((#[Value.int .i64 K]++A).size=33):=by show _=_;simp [Ak.out]
 have Ao:Hid ((#[Value.int .i64 K]++A).all (·.oneCell')=true):=by show _=_;have:=Au.out;simp_all [Value.oneCell']
 obtain ⟨R,HR⟩:∃ R,R = #[Value.int .i64 K]++A:=⟨_,rfl⟩;rw [← HR] at KQ Aj Ao ⊢;clear HR;have Ul:8≤c:=by omega
 have SQ:c ≠ 8:=by omega
 have hc8i:¬ ((c:Int)<8):=by omega
 go_enter func139,ntmps139;go_upto_region 1 with (fail)
 refine wp_region_any (by kernel_rfl) ?_;change wpAny _ _ _ _ _ _ _ (World.drew _);have B0:Hid (qw w (w.alloc (.cells bS 41)).drew):=(qb w _).drew;have R0:Hid ((w.alloc (.cells bS 41)).drew.heap[w.heap.size]?=qo bS 41):=heap_alloc_new w _;change wpAny _ _ _ _ _ _ _ (w.alloc (.cells bS 41)).drew;obtain ⟨w1,hw1e⟩:∃ x,x=(w.alloc (.cells bS 41)).drew:=⟨_,rfl⟩;have L1:Hid (w.heap.size<w1.heap.size):=by show _<_;rw [hw1e];simp
 rw [← hw1e] at B0 R0 ⊢;clear hw1e;refine wpAny_of_held (S:=fun _=>True) _ _ _ _ ?_;refine aS 0 3 (.slice (some ⟨ab,ao,none⟩) 40 c) trivial rfl (by intro x hx;go_simp) ?_;refine aS 1 4 (.slice (some ⟨ab,ao,none⟩) 8 c) trivial rfl (by intro x hx;go_simp) ?_;refine aS 3 6 (.slice (some ⟨ab,ao,none⟩) 40 c) trivial rfl (by intro x hx;go_simp) ?_;refine aS 4 7 (.slice (some ⟨ab,ao+8,none⟩) 32 (c-8)) trivial rfl (by intro x hx;go_simp) ?_;refine aD 2 (by kernel_rfl) ?_;refine wpOp_step rfl (fun Kc Af=>?_);go_simp;refine (HI.out _ B0.out).mono ?_;rintro e2 w2 ⟨rfl,rfl⟩;dsimp only;refine Af _ _ ⟨trivial,?_⟩;clear Af Kc;try simp only [Act.put,aQ,aR,aO]
 refine aD 5 (by kernel_rfl) ?_;refine wpOp_step rfl (fun Kc Af=>?_);go_simp;refine (HS.out _ B0.out).mono ?_;rintro e3 w3 ⟨rfl,As⟩;dsimp only;refine Af _ _ ⟨trivial,?_⟩;clear Af Kc;try simp only [Act.put,aQ,aR,aO]
 refine aS 6 9 (.agg R) trivial rfl (fun x hx=>qP _ _ _ _ _ R rfl rfl KQ) ?_;refine aD 7 (by kernel_rfl) ?_;have R3:=(As.block _ L1.out).trans R0.out;have B3:Hid (qw w w3):=B0.out.trans (As.mono B0.out.size);refine bD 7 41 (.tmp 2) (.tmp 9) rfl w.heap.size 0 41 bS.toList R rfl rfl (by rw [Array.toArray_toList];exact R3) (ae Tryz.bm Aj) (by rw [Aj.out];exact Nat.le_refl _) Ao.out ?_;intro w5 g5 AZ;refine ⟨trivial,?_⟩;have G5:Hid (w5.heap[w.heap.size]?=qo R 41):=by
  have h:=g5.out;have e:splice bS.toList 0 R.toList=R.toList:=by
   unfold splice;rw [List.take_zero,List.nil_append,Array.length_toList,Aj.out,List.drop_of_length_le (by exact Nat.le_refl _),List.append_nil]
  rw [e,Array.toArray_toList] at h;exact h
 refine wpAnyH_done (by kernel_rfl) ?_ _;go_wp2;refine bodyPost_ret (results_cell_row rfl _ _ w.heap.size 41 R (0,0) _ rfl G5.out underlying41 rfl (ae Tryz.bm Aj)) rfl ⟨rfl,AZ.below B3.out qn⟩
end
section
open Go.RowKit
def dK (v:Value) (L:List Int) (b:Bool) (g:Nat) (D:Option Nat) (w:World) (e:Ending) (w':World):Prop :=
 e = .returned v∧Hid (cR w' g D L b)∧Hid (aE g w w')
theorem cR.spoilt {w:World} {g:Nat} {D:Option Nat} {L:List Int} {b:Bool} (h:cR w g D L b) :
  cR ((w.setCell ⟨g,0,none⟩ (.slice none 0 0)).setCell ⟨g,1,none⟩ (.bool true)) g D [] true∧aE g w ((w.setCell ⟨g,0,none⟩ (.slice none 0 0)).setCell ⟨g,1,none⟩ (.bool true)):=by
 obtain ⟨⟨p,c,h1,h2,h3⟩,h4,h5⟩:=h;refine ⟨⟨⟨none,0,?_,dx _,fun ad h=>by cases h⟩,h4,fun d hd=>by simpa using h5 d hd⟩,((bJ.setCell w ⟨g,0,none⟩ _).trans (bJ.setCell _ ⟨g,1,none⟩ _)).only⟩;rw [heap_setCell_same _ g 1 _ _ _ (heap_setCell_same _ g 0 _ _ _ h1)]
 rfl
abbrev iV (ab ao k c:Nat):Option Addr:=if c=k then some ⟨ab,ao,none⟩ else some ⟨ab,ao+k,none⟩
theorem qC {w:World} {ab ao c k:Nat} {L:List Int} (h:Bs w (some ⟨ab,ao,none⟩) c L) (hk:k≤L.length):Bs w (iV ab ao k c) (c-k) (L.drop k):=by
 have hc:=h.cap;unfold iV;by_cases e:k<L.length
 ·rw [if_neg (by omega)];exact h.oh e
 ·rw [List.drop_of_length_le (by omega)];refine ⟨⟨fun x hx=>by simp at hx,fun h0=>by simp at h0⟩,⟨by simp,by omega⟩,fun h0=>?_⟩;split at h0<;>cases h0
theorem cR.step {w:World} {g ab ao c k n m d:Nat} {D:Option Nat} {L:List Int} {b:Bool} (h:cR w g D L b) (h1:w.heap[g]?=qo #[.slice (some ⟨ab,ao,none⟩) n c,.bool b] 178) (hB:Bs w (some ⟨ab,ao,none⟩) c L) (hn:L.length=n) (hk:k≤n) (hm:n-k=m) (hd:c-k=d) (hD:D=some ab) :
  cR (w.setCell ⟨g,0,none⟩ (.slice (iV ab ao k c) m d)) g D (L.drop k) b∧aE g w (w.setCell ⟨g,0,none⟩ (.slice (iV ab ao k c) m d)):=by
 subst hd;subst hm;subst hn;have ho:aE g w (w.setCell ⟨g,0,none⟩ (.slice (iV ab ao k c) (L.length-k) (c-k))):=(bJ.setCell w ⟨g,0,none⟩ _).only;have Cq:∀ ad,iV ab ao k c=some ad→ad.block=ab:=fun ad h=>by
  unfold iV at h;split at h<;>cases h<;>rfl
 refine ⟨⟨⟨iV ab ao k c,c-k,?_,(qC hB hk).only ho (fun ad hq e=>?_),fun ad h=>by rw [Cq ad h,hD]⟩,h.ne,fun d hd=>by simpa using h.lt d hd⟩,ho⟩
 ·rw [heap_setCell_same _ g 0 _ _ _ h1,List.length_drop]
  rfl
 ·rw [Cq ad hq] at e;exact h.ne (by rw [hD,e])
theorem cR.parts {w:World} {g:Nat} {D:Option Nat} {L:List Int} {b:Bool} (h:cR w g D L b) {n:Nat} (hn:L.length=n) (h0:0<n) :
  ∃ ab ao c,w.heap[g]?=qo #[.slice (some ⟨ab,ao,none⟩) n c,.bool b] 178∧Bs w (some ⟨ab,ao,none⟩) c L∧D=some ab∧n≤c∧c≤9223372036854775807:=by
 subst hn;obtain ⟨⟨p,c,h1,h2,h3⟩,h4,h5⟩:=h;obtain ⟨ab,ao,rfl,_⟩:=h2.bat.2 h0;exact ⟨ab,ao,c,h1,h2,h3 _ rfl,h2.cap⟩
theorem yK (L:List Int) (b:Bool) (g:Nat) (D:Option Nat) (n:Nat) (hn:L.length=n) (hL:n≤10000000) (w:World) (hr:cR w g D L b) :
  qc 156 #[qp g] w (dK (.int .u8 (Pk.vb L)) (Pk.nx 1 L) (Pk.nb 1 L b) g D w):=by
 have HN:=qh hn;clear hn;by_cases Ae:n<1
 ·have HV:Hid ((.int .u8 (Pk.vb L))=(.int .u8 0:Value)):=by show _=_;unfold Pk.vb;obtain rfl:L = []:=List.eq_nil_of_length_eq_zero (by have:=HN.out;omega);rfl
  have HX:Hid (Pk.nx 1 L = []):=by show _=_;unfold Pk.nx;rw [HN.out,if_pos Ae]
  have HB:Hid (Pk.nb 1 L b=true):=by show _=_;unfold Pk.nb;rw [HN.out,if_pos Ae]
  rw [HV.out,HX.out,HB.out];clear HV HX HB;have HS:=qh hr.spoilt;obtain ⟨p,c,h1,_,_⟩:=hr.row;rw [HN.out] at h1;have c0:w.cell? ⟨g,0,none⟩=some (.slice p n c):=by rw [cell_of_row w g 0 _ _ _ h1];rfl
  have f0:=frozen_of_row w g 0 _ _ h1;have h2:=heap_setCell_same w g 0 _ _ (Value.slice none 0 0) h1;have c1:(w.setCell ⟨g,0,none⟩ (.slice none 0 0)).cell? ⟨g,1,none⟩=some (.bool b):=by rw [cell_of_row _ g 1 _ _ _ h2];rfl
  have f1:=frozen_of_row _ g 1 _ _ h2;have Gq:(n:Int)<1:=by omega
  clear hr h1 h2;go_enter func156,ntmps156;go_wp2;go_ret;exact ⟨rfl,HS.out.1,HS.out.2⟩
 ·obtain ⟨ab,ao,c,h1,hB,hD,Az⟩:=hr.parts HN.out (by omega);have HX:Hid (Pk.nx 1 L=L.drop 1):=by show _=_;unfold Pk.nx;rw [HN.out,if_neg Ae]
  have HB:Hid (Pk.nb 1 L b=b):=by show _=_;unfold Pk.nb;rw [HN.out,if_neg Ae]
  have HV:Hid ((L.take 1).getD 0 0=Pk.vb L):=by
   show _=_;unfold Pk.vb;cases L with
   | nil=>have:=HN.out;simp at this;omega
   | cons x l=>rfl
  rw [HX.out,HB.out];clear HX HB;have J5:1≤n:=by omega
  have HS:=qh (hr.step (k:=1) (m:=n-1) (d:=c-1) h1 hB HN.out J5 rfl rfl hD);have HT:Hid (Bs (w.setCell ⟨g,0,none⟩ (.slice (iV ab ao 1 c) (n-1) (c-1))) (some ⟨ab,ao,none⟩) c (L.take 1)) :=
   (hB.only HS.out.2 (fun ad h e=>by cases h;exact hr.ne (by rw [hD];exact congrArg some e))).take 1
  have Bq:Hid ((L.take 1).length=1):=by show _=_;rw [List.length_take,HN.out];omega
  have HC:Hid (qc 180 #[.slice (some ⟨ab,ao,none⟩) 1 c] (w.setCell ⟨g,0,none⟩ (.slice (iV ab ao 1 c) (n-1) (c-1))) fun e w'=>e = .returned (.int .u8 (Pk.vb L))∧w'=w.setCell ⟨g,0,none⟩ (.slice (iV ab ao 1 c) (n-1) (c-1))):=by
   rw [← HV.out];exact tQ (L.take 1) _ 1 c Bq.out (by omega) _ HT.out
  obtain ⟨X,HXe⟩:∃ X,Hid (L.drop 1=X):=⟨_,rfl⟩;rw [HXe.out] at HS ⊢;have c0:w.cell? ⟨g,0,none⟩=some (.slice (some ⟨ab,ao,none⟩) n c):=by rw [cell_of_row w g 0 _ _ _ h1];rfl
  have f0:=frozen_of_row w g 0 _ _ h1;have Bc:¬ ((n:Int)<1):=by omega
  have DG:¬ ((c:Int)<1):=by omega
  have Es:(1:Int)≤(n:Int):=by omega
  clear hr h1 hB hD Ae hL;go_enter func156,ntmps156;go_wp2_with (first
   | (go_at_call 180;refine HC.out.mono ?_;rintro e2 w2 ⟨rfl,rfl⟩)
   | go_in)
  all_goals
   first
    | (have OG:c=1:=(by first | assumption | omega);rw [OG] at HS;go_ret;exact ⟨rfl,HS.out.1,HS.out.2⟩)
    | (go_ret;exact ⟨rfl,HS.out.1,HS.out.2⟩)
theorem dJ (L:List Int) (b:Bool) (g:Nat) (D:Option Nat) (n:Nat) (hn:L.length=n) (hL:n≤10000000) (w:World) (hr:cR w g D L b) :
  qc 102 #[qp g] w (dK (.int .i64 (Pk.vi L)) (Pk.nx 8 L) (Pk.nb 8 L b) g D w):=by
 have HN:=qh hn;clear hn;by_cases Ae:n<8
 ·have HV:Hid ((.int .i64 (Pk.vi L))=(.int .i64 0:Value)):=by show _=_;unfold Pk.vi;rw [HN.out,if_pos Ae]
  have HX:Hid (Pk.nx 8 L = []):=by show _=_;unfold Pk.nx;rw [HN.out,if_pos Ae]
  have HB:Hid (Pk.nb 8 L b=true):=by show _=_;unfold Pk.nb;rw [HN.out,if_pos Ae]
  rw [HV.out,HX.out,HB.out];clear HV HX HB;have HS:=qh hr.spoilt;obtain ⟨p,c,h1,_,_⟩:=hr.row;rw [HN.out] at h1;have c0:w.cell? ⟨g,0,none⟩=some (.slice p n c):=by rw [cell_of_row w g 0 _ _ _ h1];rfl
  have f0:=frozen_of_row w g 0 _ _ h1;have h2:=heap_setCell_same w g 0 _ _ (Value.slice none 0 0) h1;have c1:(w.setCell ⟨g,0,none⟩ (.slice none 0 0)).cell? ⟨g,1,none⟩=some (.bool b):=by rw [cell_of_row _ g 1 _ _ _ h2];rfl
  have f1:=frozen_of_row _ g 1 _ _ h2;have Gq:(n:Int)<8:=by omega
  clear hr h1 h2;go_enter func102,ntmps102;go_wp2;go_ret;exact ⟨rfl,HS.out.1,HS.out.2⟩
 ·obtain ⟨ab,ao,c,h1,hB,hD,Az⟩:=hr.parts HN.out (by omega);have HX:Hid (Pk.nx 8 L=L.drop 8):=by show _=_;unfold Pk.nx;rw [HN.out,if_neg Ae]
  have HB:Hid (Pk.nb 8 L b=b):=by show _=_;unfold Pk.nb;rw [HN.out,if_neg Ae]
  have HV:Hid (Pk.j4 (L.take 8)=Pk.vi L):=by
   show _=_;unfold Pk.vi;rw [HN.out,if_neg Ae]
  rw [HX.out,HB.out];clear HX HB;have J5:8≤n:=by omega
  have HS:=qh (hr.step (k:=8) (m:=n-8) (d:=c-8) h1 hB HN.out J5 rfl rfl hD);have HT:Hid (Bs (w.setCell ⟨g,0,none⟩ (.slice (iV ab ao 8 c) (n-8) (c-8))) (some ⟨ab,ao,none⟩) c (L.take 8)) :=
   (hB.only HS.out.2 (fun ad h e=>by cases h;exact hr.ne (by rw [hD];exact congrArg some e))).take 8
  have Bq:Hid ((L.take 8).length=8):=by show _=_;rw [List.length_take,HN.out];omega
  have HC:Hid (qc 135 #[.slice (some ⟨ab,ao,none⟩) 8 c] (w.setCell ⟨g,0,none⟩ (.slice (iV ab ao 8 c) (n-8) (c-8))) fun e w'=>e = .returned (.int .i64 (Pk.vi L))∧w'=w.setCell ⟨g,0,none⟩ (.slice (iV ab ao 8 c) (n-8) (c-8))):=by
   rw [← HV.out];exact ov (L.take 8) _ 8 c Bq.out (by omega) _ HT.out
  obtain ⟨X,HXe⟩:∃ X,Hid (L.drop 8=X):=⟨_,rfl⟩;rw [HXe.out] at HS ⊢;have c0:w.cell? ⟨g,0,none⟩=some (.slice (some ⟨ab,ao,none⟩) n c):=by rw [cell_of_row w g 0 _ _ _ h1];rfl
  have f0:=frozen_of_row w g 0 _ _ h1;have Bc:¬ ((n:Int)<8):=by omega
  have DG:¬ ((c:Int)<8):=by omega
  have Es:(8:Int)≤(n:Int):=by omega
  clear hr h1 hB hD Ae hL;go_enter func102,ntmps102;go_wp2_with (first
   | (go_at_call 135;refine HC.out.mono ?_;rintro e2 w2 ⟨rfl,rfl⟩)
   | go_in)
  all_goals
   first
    | (have OG:c=8:=(by first | assumption | omega);rw [OG] at HS;go_ret;exact ⟨rfl,HS.out.1,HS.out.2⟩)
    | (go_ret;exact ⟨rfl,HS.out.1,HS.out.2⟩)
end
section
open Go.RowKit
def eO:Array Value:=(List.replicate 32 (Value.int .u8 0)).toArray
theorem xz:eO.all (·.oneCell')=true:=all_oneCell_toArray (by intro v hv;rw [List.mem_replicate] at hv;rw [hv.2];rfl)
theorem wS:bS.all (·.oneCell')=true:=all_oneCell_toArray (by intro v hv;simp only [List.mem_cons,List.mem_replicate] at hv;rcases hv with rfl | ⟨_,rfl⟩<;>rfl)
theorem aE.new {g r:Nat} {w x y:World} (h:aE g w x) (k:aE r x y) (hr:w.heap.size≤r):aE g w y :=
 ⟨k.os.trans h.os,k.tape.trans h.tape,k.output.trans h.output,Nat.le_trans h.size k.size,fun i hi hg=>(k.block i (Nat.lt_of_lt_of_le hi h.size) (by omega)).trans (h.block i hi hg)⟩
theorem aE.fE {g:Nat} {w x y:World} (h:aE g w x) (k:qw x y):aE g w y :=
 ⟨k.os.trans h.os,k.tape.trans h.tape,k.output.trans h.output,Nat.le_trans h.size k.size,fun i hi hg=>(k.block i (Nat.lt_of_lt_of_le hi h.size)).trans (h.block i hi hg)⟩
theorem aE.behind {g:Nat} {w x y:World} (h:qw w x) (k:aE g x y):aE g w y :=
 ⟨k.os.trans h.os,k.tape.trans h.tape,k.output.trans h.output,Nat.le_trans h.size k.size,fun i hi hg=>(k.block i (Nat.lt_of_lt_of_le hi h.size) hg).trans (h.block i hi)⟩
theorem xu (k:Int) (l:List Int):(#[Value.int .i64 k]++(l.map (Value.int .u8)).toArray).all (·.oneCell')=true:=by
 have h:=all_oneCell_toArray (aw l)
 simp_all [Value.oneCell']
theorem zY (L:List Int) (b:Bool) (g:Nat) (D:Option Nat) (n:Nat) (hn:L.length=n) (hL:n≤10000000) (w:World) (hr:cR w g D L b) :
  qc 136 #[qp g,.int .i64 32,.func (.func 137) #[] #[]] w (dK (dz (Pk.vs L)) (Pk.nx 32 L) (Pk.nb 32 L b) g D w):=by
 have HN:=qh hn;clear hn;have Bo:Hid (g<w.heap.size):=hr.glt;have DA:Hid (D ≠ some w.heap.size):=fun h=>by have h1:=hr.lt _ h;omega
 have B0:Hid (qw w (w.alloc (.cells eO 39))):=qb w _;have R0:Hid ((w.alloc (.cells eO 39)).heap[w.heap.size]?=qo eO 39):=heap_alloc_new w _;have BU:=qh (hr.av B0.out);have N5:Hid (D ≠ some g):=hr.ne;clear hr;by_cases Ae:n<32
 ·have HV:Hid (dz (Pk.vs L)=(dz (List.replicate 32 0):Value)):=by show _=_;unfold Pk.vs;rw [HN.out,if_pos Ae]
  have HZ:Hid ((dz (List.replicate 32 0):Value) = .agg eO):=by show _=_;unfold dz eO;rfl
  have HX:Hid (Pk.nx 32 L = []):=by show _=_;unfold Pk.nx;rw [HN.out,if_pos Ae]
  have HB:Hid (Pk.nb 32 L b=true):=by show _=_;unfold Pk.nb;rw [HN.out,if_pos Ae]
  rw [HX.out,HB.out,HV.out,HZ.out];clear HV HZ HX HB;go_enter func136,ntmps136;go_upto_region 1 with (fail)
  change Code.wp _ _ _ _ (w.alloc (.cells eO 39));obtain ⟨w0,Ah⟩:∃ x,x=w.alloc (.cells eO 39):=⟨_,rfl⟩;rw [← Ah] at B0 R0 BU ⊢;clear Ah;have HS:=qh BU.out.spoilt;obtain ⟨p,c,h1,_,_⟩:=BU.out.row;rw [HN.out] at h1;have c0:w0.cell? ⟨g,0,none⟩=some (.slice p n c):=by rw [cell_of_row _ g 0 _ _ _ h1];rfl
  have f0:=frozen_of_row _ g 0 _ _ h1;have h2:=heap_setCell_same _ g 0 _ _ (Value.slice none 0 0) h1;have c1:(w0.setCell ⟨g,0,none⟩ (.slice none 0 0)).cell? ⟨g,1,none⟩=some (.bool b):=by rw [cell_of_row _ g 1 _ _ _ h2];rfl
  have f1:=frozen_of_row _ g 1 _ _ h2;have Gq:(n:Int)<32:=by omega
  have R1:Hid (((w0.setCell ⟨g,0,none⟩ (.slice none 0 0)).setCell ⟨g,1,none⟩ (.bool true)).heap[w.heap.size]?=qo eO 39):=by
   show _=_;rw [heap_setCell_other _ _ _ _ (by have:=Bo.out;simp;omega),heap_setCell_other _ _ _ _ (by have:=Bo.out;simp;omega)];exact R0.out
  clear h1 h2;go_upto_region 4 with (fail)
  change Code.wp _ _ _ _ (((w0.setCell ⟨g,0,none⟩ (.slice none 0 0)).setCell ⟨g,1,none⟩ (.bool true)).alloc (.cells eO 39));obtain ⟨w1,Aq⟩:∃ x,x=((w0.setCell ⟨g,0,none⟩ (.slice none 0 0)).setCell ⟨g,1,none⟩ (.bool true)):=⟨_,rfl⟩;have e1:w1.heap.size=w0.heap.size:=by rw [Aq];simp
  rw [← Aq] at HS R1 ⊢;clear Aq c0 c1 f0 f1;have R2:Hid ((w1.alloc (.cells eO 39)).heap[w.heap.size]?=qo eO 39):=(et w1 _ (lt_of_block R1.out)).trans R1.out;have RZ:Hid ((w1.alloc (.cells eO 39)).heap[w0.heap.size]?=qo eO 39):=by show _=_;rw [← e1];exact heap_alloc_new w1 _
  clear e1;obtain ⟨w2,Ba⟩:∃ x,x=w1.alloc (.cells eO 39):=⟨_,rfl⟩;have B2:Hid (qw w1 w2):=by rw [Ba];exact qb w1 _
  rw [← Ba] at R2 RZ ⊢;clear Ba;have Jl:Hid (eO.size=32):=rfl;have Cn:Hid (eO.all (·.oneCell')=true):=xz;generalize eO=Z at *;have Bj:=ae Tryz.ar Jl;go_wp2_with (first
   | ((with_reducible refine ay _ _ _ _ _ _ _ ?_ RZ.out underlying39 ?_ (ae Tryz.ar Jl) ?_);(exact rfl);(exact rfl))
   | ((with_reducible refine ak _ _ _ _ _ _ _ ?_ ?_ R2.out (ae Tryz.ar Jl) ?_ Cn.out ?_);(exact rfl);(exact rfl);(exact rfl);intro w6 G6 AE))
  refine bodyPost_ret (results_cell_row rfl _ _ w.heap.size 39 Z (0,0) _ rfl G6.out underlying39 rfl (ae Tryz.ar Jl)) rfl ⟨rfl,?_,?_⟩
  ·exact (HS.out.1.av B2.out).only AE.only (Nat.ne_of_gt Bo.out) DA.out
  ·exact ((aE.behind B0.out HS.out.2).fE B2.out).new AE.only qn
 ·have HX:Hid (Pk.nx 32 L=L.drop 32):=by show _=_;unfold Pk.nx;rw [HN.out,if_neg Ae]
  have HB:Hid (Pk.nb 32 L b=b):=by show _=_;unfold Pk.nb;rw [HN.out,if_neg Ae]
  have J5:32≤n:=by omega
  have Bq:Hid ((L.take 32).length=32):=by show _=_;rw [List.length_take,HN.out];omega
  have HV:Hid (dz (Pk.vs L)=dz (L.take 32)):=by show _=_;unfold Pk.vs;rw [HN.out,if_neg Ae]
  obtain ⟨X,HXe⟩:∃ X,Hid (L.drop 32=X):=⟨_,rfl⟩;obtain ⟨A,hA,CD,De⟩:∃ A:Array Value,dz (L.take 32) = .agg A∧A.size=32∧A.all (·.oneCell')=true:=⟨((L.take 32).map (Value.int .u8)).toArray,rfl,(by rw [List.size_toArray,List.length_map,Bq.out]),all_oneCell_toArray (aw _)⟩;rw [HX.out,HB.out,HV.out,HXe.out,hA];clear HX HB HV;go_enter func136,ntmps136;go_upto_region 1 with (fail)
  change Code.wp _ _ _ _ (w.alloc (.cells eO 39));obtain ⟨w0,Ah⟩:∃ x,x=w.alloc (.cells eO 39):=⟨_,rfl⟩;rw [← Ah] at B0 R0 BU ⊢;clear Ah;obtain ⟨ab,ao,c,h1,hB,hD,Az⟩:=BU.out.parts HN.out (by omega);have HS:=qh (BU.out.step (k:=32) (m:=n-32) (d:=c-32) h1 hB HN.out J5 rfl rfl hD);have HT:Hid (Bs (w0.setCell ⟨g,0,none⟩ (.slice (iV ab ao 32 c) (n-32) (c-32))) (some ⟨ab,ao,none⟩) c (L.take 32)) :=
   (hB.only HS.out.2 (fun ad h e=>by cases h;exact N5.out (by rw [hD];exact congrArg some e))).take 32
  have HC:Hid (qc 137 #[.slice (some ⟨ab,ao,none⟩) 32 c] (w0.setCell ⟨g,0,none⟩ (.slice (iV ab ao 32 c) (n-32) (c-32))) fun e w'=>e = .returned (dz (L.take 32))∧Below (w0.setCell ⟨g,0,none⟩ (.slice (iV ab ao 32 c) (n-32) (c-32))).heap.size (w0.setCell ⟨g,0,none⟩ (.slice (iV ab ao 32 c) (n-32) (c-32))) w') :=
   oy (L.take 32) _ 32 c Bq.out rfl _ HT.out
  rw [hA] at HC;have Ak:=qh CD;have Au:=qh De;clear hA CD De;have R1:Hid ((w0.setCell ⟨g,0,none⟩ (.slice (iV ab ao 32 c) (n-32) (c-32))).heap[w.heap.size]?=qo eO 39):=by
   show _=_;rw [heap_setCell_other _ _ _ _ (by have:=Bo.out;simp;omega)];exact R0.out
  rw [HXe.out] at HS;have c0:w0.cell? ⟨g,0,none⟩=some (.slice (some ⟨ab,ao,none⟩) n c):=by rw [cell_of_row _ g 0 _ _ _ h1];rfl
  have f0:=frozen_of_row _ g 0 _ _ h1;have Bc:¬ ((n:Int)<32):=by omega
  have DG:¬ ((c:Int)<32):=by omega
  have Es:(32:Int)≤(n:Int):=by omega
  clear h1 hB hD Ae hL HT;go_upto_region 6 with (fail)
  go_wp2_with (first
   | (go_at_call 137;refine HC.out.mono ?_;rintro e2 w2 ⟨rfl,Al⟩;have R2:=(Al.block _ (lt_of_block R1.out)).trans R1.out)
   | ((with_reducible refine ak _ _ _ _ _ _ _ ?_ ?_ R2 (ae Tryz.ar Ak) ?_ Au.out ?_);(exact rfl);(exact rfl);(rw [Ak.out];rfl);intro w6 G6 AE)
   | go_in)
  all_goals
   refine bodyPost_ret (results_cell_row rfl _ _ w.heap.size 39 A (0,0) _ rfl G6.out underlying39 rfl (ae Tryz.ar Ak)) rfl ⟨rfl,?_,?_⟩
   ·exact (HS.out.1.av Al).only AE.only (Nat.ne_of_gt Bo.out) DA.out
   ·exact ((aE.behind B0.out HS.out.2).fE Al).new AE.only qn
theorem aak (L:List Int) (b:Bool) (g:Nat) (D:Option Nat) (n:Nat) (hn:L.length=n) (hL:n≤10000000) (w:World) (hr:cR w g D L b) :
  qc 138 #[qp g,.int .i64 40,.func (.func 139) #[] #[]] w (dK (fU (Pk.vr L)) (Pk.nx 40 L) (Pk.nb 40 L b) g D w):=by
 have HN:=qh hn;clear hn;have Bo:Hid (g<w.heap.size):=hr.glt;have DA:Hid (D ≠ some w.heap.size):=fun h=>by have h1:=hr.lt _ h;omega
 have B0:Hid (qw w (w.alloc (.cells bS 41))):=qb w _;have R0:Hid ((w.alloc (.cells bS 41)).heap[w.heap.size]?=qo bS 41):=heap_alloc_new w _;have BU:=qh (hr.av B0.out);have N5:Hid (D ≠ some g):=hr.ne;clear hr;by_cases Ae:n<40
 ·have HV:Hid (fU (Pk.vr L)=(fU (0,List.replicate 32 0):Value)):=by show _=_;unfold Pk.vr;rw [HN.out,if_pos Ae]
  have HZ:Hid ((fU (0,List.replicate 32 0):Value) = .agg bS):=by show _=_;unfold fU bS;rfl
  have HX:Hid (Pk.nx 40 L = []):=by show _=_;unfold Pk.nx;rw [HN.out,if_pos Ae]
  have HB:Hid (Pk.nb 40 L b=true):=by show _=_;unfold Pk.nb;rw [HN.out,if_pos Ae]
  rw [HX.out,HB.out,HV.out,HZ.out];clear HV HZ HX HB;go_enter func138,ntmps138;go_upto_region 1 with (fail)
  change Code.wp _ _ _ _ (w.alloc (.cells bS 41));obtain ⟨w0,Ah⟩:∃ x,x=w.alloc (.cells bS 41):=⟨_,rfl⟩;rw [← Ah] at B0 R0 BU ⊢;clear Ah;have HS:=qh BU.out.spoilt;obtain ⟨p,c,h1,_,_⟩:=BU.out.row;rw [HN.out] at h1;have c0:w0.cell? ⟨g,0,none⟩=some (.slice p n c):=by rw [cell_of_row _ g 0 _ _ _ h1];rfl
  have f0:=frozen_of_row _ g 0 _ _ h1;have h2:=heap_setCell_same _ g 0 _ _ (Value.slice none 0 0) h1;have c1:(w0.setCell ⟨g,0,none⟩ (.slice none 0 0)).cell? ⟨g,1,none⟩=some (.bool b):=by rw [cell_of_row _ g 1 _ _ _ h2];rfl
  have f1:=frozen_of_row _ g 1 _ _ h2;have Gq:(n:Int)<40:=by omega
  have R1:Hid (((w0.setCell ⟨g,0,none⟩ (.slice none 0 0)).setCell ⟨g,1,none⟩ (.bool true)).heap[w.heap.size]?=qo bS 41):=by
   show _=_;rw [heap_setCell_other _ _ _ _ (by have:=Bo.out;simp;omega),heap_setCell_other _ _ _ _ (by have:=Bo.out;simp;omega)];exact R0.out
  clear h1 h2;go_upto_region 4 with (fail)
  change Code.wp _ _ _ _ (((w0.setCell ⟨g,0,none⟩ (.slice none 0 0)).setCell ⟨g,1,none⟩ (.bool true)).alloc (.cells bS 41));obtain ⟨w1,Aq⟩:∃ x,x=((w0.setCell ⟨g,0,none⟩ (.slice none 0 0)).setCell ⟨g,1,none⟩ (.bool true)):=⟨_,rfl⟩;have e1:w1.heap.size=w0.heap.size:=by rw [Aq];simp
  rw [← Aq] at HS R1 ⊢;clear Aq c0 c1 f0 f1;have R2:Hid ((w1.alloc (.cells bS 41)).heap[w.heap.size]?=qo bS 41):=(et w1 _ (lt_of_block R1.out)).trans R1.out;have RZ:Hid ((w1.alloc (.cells bS 41)).heap[w0.heap.size]?=qo bS 41):=by show _=_;rw [← e1];exact heap_alloc_new w1 _
  clear e1;obtain ⟨w2,Ba⟩:∃ x,x=w1.alloc (.cells bS 41):=⟨_,rfl⟩;have B2:Hid (qw w1 w2):=by rw [Ba];exact qb w1 _
  rw [← Ba] at R2 RZ ⊢;clear Ba;have MI:Hid (bS.size=33):=rfl;have Cn:Hid (bS.all (·.oneCell')=true):=wS;generalize bS=Z at *;have Bj:=ae Tryz.bm MI;go_wp2_with (first
   | ((with_reducible refine ay _ _ _ _ _ _ _ ?_ RZ.out underlying41 ?_ (ae Tryz.bm MI) ?_);(exact rfl);(exact rfl))
   | ((with_reducible refine ak _ _ _ _ _ _ _ ?_ ?_ R2.out (ae Tryz.bm MI) ?_ Cn.out ?_);(exact rfl);(exact rfl);(exact rfl);intro w6 G6 AE))
  refine bodyPost_ret (results_cell_row rfl _ _ w.heap.size 41 Z (0,0) _ rfl G6.out underlying41 rfl (ae Tryz.bm MI)) rfl ⟨rfl,?_,?_⟩
  ·exact (HS.out.1.av B2.out).only AE.only (Nat.ne_of_gt Bo.out) DA.out
  ·exact ((aE.behind B0.out HS.out.2).fE B2.out).new AE.only qn
 ·have HX:Hid (Pk.nx 40 L=L.drop 40):=by show _=_;unfold Pk.nx;rw [HN.out,if_neg Ae]
  have HB:Hid (Pk.nb 40 L b=b):=by show _=_;unfold Pk.nb;rw [HN.out,if_neg Ae]
  have J5:40≤n:=by omega
  have Bq:Hid ((L.take 40).length=40):=by show _=_;rw [List.length_take,HN.out];omega
  have HV:Hid (fU (Pk.vr L)=fU (Pk.j4 ((L.take 40).take 8),(L.take 40).drop 8)):=by show _=_;unfold Pk.vr;rw [HN.out,if_neg Ae,show (L.take 40).take 8=L.take 8 by rw [List.take_take];rfl,show (L.take 40).drop 8=(L.drop 8).take 32 by rw [List.drop_take]]
  obtain ⟨X,HXe⟩:∃ X,Hid (L.drop 40=X):=⟨_,rfl⟩;obtain ⟨A,hA,CD,De⟩:∃ A:Array Value,fU (Pk.j4 ((L.take 40).take 8),(L.take 40).drop 8) = .agg A∧A.size=33∧A.all (·.oneCell')=true:=⟨#[.int .i64 (Pk.j4 ((L.take 40).take 8))]++(((L.take 40).drop 8).map (Value.int .u8)).toArray,qm _ _,(by rw [Array.size_append,List.size_toArray,List.size_toArray,List.length_map,List.length_drop,Bq.out];rfl),xu _ _⟩;rw [HX.out,HB.out,HV.out,HXe.out,hA];clear HX HB HV;go_enter func138,ntmps138;go_upto_region 1 with (fail)
  change Code.wp _ _ _ _ (w.alloc (.cells bS 41));obtain ⟨w0,Ah⟩:∃ x,x=w.alloc (.cells bS 41):=⟨_,rfl⟩;rw [← Ah] at B0 R0 BU ⊢;clear Ah;obtain ⟨ab,ao,c,h1,hB,hD,Az⟩:=BU.out.parts HN.out (by omega);have HS:=qh (BU.out.step (k:=40) (m:=n-40) (d:=c-40) h1 hB HN.out J5 rfl rfl hD);have HT:Hid (Bs (w0.setCell ⟨g,0,none⟩ (.slice (iV ab ao 40 c) (n-40) (c-40))) (some ⟨ab,ao,none⟩) c (L.take 40)) :=
   (hB.only HS.out.2 (fun ad h e=>by cases h;exact N5.out (by rw [hD];exact congrArg some e))).take 40
  have HC:Hid (qc 139 #[.slice (some ⟨ab,ao,none⟩) 40 c] (w0.setCell ⟨g,0,none⟩ (.slice (iV ab ao 40 c) (n-40) (c-40))) fun e w'=>e = .returned (fU (Pk.j4 ((L.take 40).take 8),(L.take 40).drop 8))∧Below (w0.setCell ⟨g,0,none⟩ (.slice (iV ab ao 40 c) (n-40) (c-40))).heap.size (w0.setCell ⟨g,0,none⟩ (.slice (iV ab ao 40 c) (n-40) (c-40))) w') :=
   y8 (L.take 40) ab ao 40 c Bq.out rfl _ HT.out
  rw [hA] at HC;have Ak:=qh CD;have Au:=qh De;clear hA CD De;have R1:Hid ((w0.setCell ⟨g,0,none⟩ (.slice (iV ab ao 40 c) (n-40) (c-40))).heap[w.heap.size]?=qo bS 41):=by
   show _=_;rw [heap_setCell_other _ _ _ _ (by have:=Bo.out;simp;omega)];exact R0.out
  rw [HXe.out] at HS;have c0:w0.cell? ⟨g,0,none⟩=some (.slice (some ⟨ab,ao,none⟩) n c):=by rw [cell_of_row _ g 0 _ _ _ h1];rfl
  have f0:=frozen_of_row _ g 0 _ _ h1;have Bc:¬ ((n:Int)<40):=by omega
  have DG:¬ ((c:Int)<40):=by omega
  have Es:(40:Int)≤(n:Int):=by omega
  clear h1 hB hD Ae hL HT;go_upto_region 6 with (fail)
  go_wp2_with (first
   | (go_at_call 139;refine HC.out.mono ?_;rintro e2 w2 ⟨rfl,Al⟩;have R2:=(Al.block _ (lt_of_block R1.out)).trans R1.out)
   | ((with_reducible refine ak _ _ _ _ _ _ _ ?_ ?_ R2 (ae Tryz.bm Ak) ?_ Au.out ?_);(exact rfl);(exact rfl);(rw [Ak.out];rfl);intro w6 G6 AE)
   | go_in)
  all_goals
   refine bodyPost_ret (results_cell_row rfl _ _ w.heap.size 41 A (0,0) _ rfl G6.out underlying41 rfl (ae Tryz.bm Ak)) rfl ⟨rfl,?_,?_⟩
   ·exact (HS.out.1.av Al).only AE.only (Nat.ne_of_gt Bo.out) DA.out
   ·exact ((aE.behind B0.out HS.out.2).fE Al).new AE.only qn
end
section
open Go.RowKit
theorem iA (S:List Int) (h:S.length=32):∃ A:Array Value,dz S = .agg A∧A.size=32∧A.all (·.oneCell')=true :=
 ⟨(S.map (Value.int .u8)).toArray,rfl,(by rw [List.size_toArray,List.length_map,h]),all_oneCell_toArray (aw _)⟩
theorem qv (r:Int × List Int) (h:r.2.length=32):∃ A:Array Value,fU r = .agg A∧A.size=33∧A.all (·.oneCell')=true :=
 ⟨#[.int .i64 r.1]++(r.2.map (Value.int .u8)).toArray,qm _ _,(by rw [Array.size_append,List.size_toArray,List.size_toArray,List.length_map,h];rfl),xu _ _⟩
theorem mq (L:List Int) (b:Bool) (g:Nat) (D:Option Nat) (n:Nat) (hn:L.length=n) (hL:n≤10000000) (w:World) (hr:cR w g D L b) :
  qc 103 #[qp g] w (dK (dz (Pk.vs L)) (Pk.nx 32 L) (Pk.nb 32 L b) g D w):=by
 have Bo:Hid (g<w.heap.size):=hr.glt;have DA:Hid (D ≠ some w.heap.size):=fun h=>by have h1:=hr.lt _ h;omega
 have B0:Hid (qw w (w.alloc (.cells eO 39))):=qb w _;have R0:Hid ((w.alloc (.cells eO 39)).heap[w.heap.size]?=qo eO 39):=heap_alloc_new w _;have HC:Hid (qc 136 #[qp g,.int .i64 32,.func (.func 137) #[] #[]] (w.alloc (.cells eO 39)) (dK (dz (Pk.vs L)) (Pk.nx 32 L) (Pk.nb 32 L b) g D (w.alloc (.cells eO 39)))):=zY L b g D n hn hL _ (hr.av B0.out);obtain ⟨A,hA,CD,De⟩:∃ A:Array Value,dz (Pk.vs L) = .agg A∧A.size=32∧A.all (·.oneCell')=true:=iA _ (Pk.uR L);rw [hA] at HC ⊢;have Ak:=qh CD;have Au:=qh De;clear hA CD De hr hn hL;go_enter func103,ntmps103;go_upto_region 1 with (fail)
 change Code.wp _ _ _ _ (w.alloc (.cells eO 39));obtain ⟨w0,Ah⟩:∃ x,x=w.alloc (.cells eO 39):=⟨_,rfl⟩;rw [← Ah] at B0 R0 HC ⊢;clear Ah;go_wp2_with (first
  | (go_at_call 136;refine HC.out.mono ?_;rintro e1 w1 ⟨rfl,Ch,Ax⟩;have R1:=(Ax.out.block _ (lt_of_block R0.out) (Nat.ne_of_gt Bo.out)).trans R0.out)
  | ((with_reducible refine ak _ _ _ _ _ _ _ ?_ ?_ R1 (ae Tryz.ar Ak) ?_ Au.out ?_);(exact rfl);(exact rfl);(rw [Ak.out];rfl);intro w6 G6 AE))
 refine bodyPost_ret (results_cell_row rfl _ _ w.heap.size 39 A (0,0) _ rfl G6.out underlying39 rfl (ae Tryz.ar Ak)) rfl ⟨rfl,?_,?_⟩
 ·exact Ch.out.only AE.only (Nat.ne_of_gt Bo.out) DA.out
 ·exact (aE.behind B0.out Ax.out).new AE.only qn
theorem aac (L:List Int) (b:Bool) (g:Nat) (D:Option Nat) (n:Nat) (hn:L.length=n) (hL:n≤10000000) (w:World) (hr:cR w g D L b) :
  qc 104 #[qp g] w (dK (fU (Pk.vr L)) (Pk.nx 40 L) (Pk.nb 40 L b) g D w):=by
 have Bo:Hid (g<w.heap.size):=hr.glt;have DA:Hid (D ≠ some w.heap.size):=fun h=>by have h1:=hr.lt _ h;omega
 have B0:Hid (qw w (w.alloc (.cells bS 41))):=qb w _;have R0:Hid ((w.alloc (.cells bS 41)).heap[w.heap.size]?=qo bS 41):=heap_alloc_new w _;have HC:Hid (qc 138 #[qp g,.int .i64 40,.func (.func 139) #[] #[]] (w.alloc (.cells bS 41)) (dK (fU (Pk.vr L)) (Pk.nx 40 L) (Pk.nb 40 L b) g D (w.alloc (.cells bS 41)))):=aak L b g D n hn hL _ (hr.av B0.out);obtain ⟨A,hA,CD,De⟩:∃ A:Array Value,fU (Pk.vr L) = .agg A∧A.size=33∧A.all (·.oneCell')=true:=qv _ (Pk.abL L);rw [hA] at HC ⊢;have Ak:=qh CD;have Au:=qh De;clear hA CD De hr hn hL;go_enter func104,ntmps104;go_upto_region 1 with (fail)
 change Code.wp _ _ _ _ (w.alloc (.cells bS 41));obtain ⟨w0,Ah⟩:∃ x,x=w.alloc (.cells bS 41):=⟨_,rfl⟩;rw [← Ah] at B0 R0 HC ⊢;clear Ah;go_wp2_with (first
  | (go_at_call 138;refine HC.out.mono ?_;rintro e1 w1 ⟨rfl,Ch,Ax⟩;have R1:=(Ax.out.block _ (lt_of_block R0.out) (Nat.ne_of_gt Bo.out)).trans R0.out)
  | ((with_reducible refine ak _ _ _ _ _ _ _ ?_ ?_ R1 (ae Tryz.bm Ak) ?_ Au.out ?_);(exact rfl);(exact rfl);(rw [Ak.out];rfl);intro w6 G6 AE))
 refine bodyPost_ret (results_cell_row rfl _ _ w.heap.size 41 A (0,0) _ rfl G6.out underlying41 rfl (ae Tryz.bm Ak)) rfl ⟨rfl,?_,?_⟩
 ·exact Ch.out.only AE.only (Nat.ne_of_gt Bo.out) DA.out
 ·exact (aE.behind B0.out Ax.out).new AE.only qn
end
end Go.Proofs.YthgjfjmampmiiaaGreatDoor
