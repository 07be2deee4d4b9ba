import Derived.Test.YthgjfjmampmiiaaGreatDoorBd1
namespace Go.Proofs.YthgjfjmampmiiaaGreatDoor
open Go.Proofs.Tryz
set_option maxHeartbeats 4000000
set_option maxRecDepth 100000
section
open Go.RowKit
namespace ag
theorem nL (i:Nat):0≤TB.getD i 0∧TB.getD i 0≤255:=by
 by_cases hi:i<TB.length
 ·rw [List.getD_eq_getElem?_getD,List.getElem?_eq_getElem hi];exact abv _ (List.getElem_mem hi)
 ·rw [List.getD_eq_getElem?_getD,List.getElem?_eq_none (by omega)];simp
theorem qJ (a b c d:Int) (ha:0≤a∧a≤255) (hb:0≤b∧b≤255) (hc:0≤c∧c≤255) (hd:0≤d∧d≤255):nA a b c d=a*16777216+b*65536+c*256+d:=by
 unfold nA;rw [bits_join .u32 32 (by decide) sE 24 (a*16777216) (b*65536) (by omega) (by omega) (by omega) (by omega) (by omega) (by omega),
  bits_join .u32 32 (by decide) sE 16 (a*16777216+b*65536) (c*256) (by omega) (by omega) (by omega) (by omega) (by omega) (by omega),
  bits_join .u32 32 (by decide) sE 8 (a*16777216+b*65536+c*256) d (by omega) (by omega) (by omega) (by omega) (by omega) (by omega)]
theorem aen (T:List Int) (a b c d:Int):iY T a b c d=nA (T.getD (a / 16777216 % 256).toNat 0) (T.getD (b / 65536 % 256).toNat 0) (T.getD (c / 256 % 256).toNat 0) (T.getD (d % 256).toNat 0):=by
 unfold iY nA
 rfl
theorem ag3 (n:Nat) (h:n<4294967296):tw (n:Int)=((twN n:Nat):Int):=by
 have h1:n &&& 2139062143<2147483648:=Nat.lt_of_le_of_lt Nat.and_le_right (by omega);have h2:n / 128 &&& 16843009<16843010:=Nat.lt_of_le_of_lt Nat.and_le_right (by omega);have e1:bits .and .u32 (n:Int) 2139062143=((n &&& 2139062143:Nat):Int):=vI n 2139062143 h (by omega);have e2:bits .and .u32 ((n:Int) / 128) 16843009=((n / 128 &&& 16843009:Nat):Int):=by
  have:=vI (n / 128) 16843009 (by omega) (by omega);rw [← this]
  rfl
 unfold tw twN;rw [e1,e2];generalize n &&& 2139062143=p at *;generalize n / 128 &&& 16843009=q at *;rw [show ((p:Int)*2 % 4294967296)=((p*2:Nat):Int) by omega,show ((q:Int)*27 % 4294967296)=((q*27:Nat):Int) by omega];exact gH _ _ (by omega) (by omega)
theorem pO (n:Nat) (h:n<4294967296) (i:Nat) (hi:i=8∨i=16∨i=24):rl (i:Int) (n:Int)=((n*2 ^ i % 4294967296+n / 2 ^ (32-i):Nat):Int):=by
 unfold rl;rcases hi with rfl | rfl | rfl
 ·show bits .or .u32 ((n:Int)*2 ^ 8 % 4294967296) ((n:Int) / 2 ^ 24)=_;rw [bits_join .u32 32 (by decide) sE 8 _ _ (by omega) (by omega) (by omega) (by omega) (by omega) (by omega)];omega
 ·show bits .or .u32 ((n:Int)*2 ^ 16 % 4294967296) ((n:Int) / 2 ^ 16)=_;rw [bits_join .u32 32 (by decide) sE 16 _ _ (by omega) (by omega) (by omega) (by omega) (by omega) (by omega)];omega
 ·show bits .or .u32 ((n:Int)*2 ^ 24 % 4294967296) ((n:Int) / 2 ^ 8)=_;rw [bits_join .u32 32 (by decide) sE 24 _ _ (by omega) (by omega) (by omega) (by omega) (by omega) (by omega)];omega
theorem aaX (a b c d:Nat) (ha:a<256) (hb:b<256) (hc:c<256) (hd:d<256):rl 8 ((w4 a b c d:Nat):Int)=((w4 b c d a:Nat):Int):=by
 have h:=pO (w4 a b c d) (gP a b c d ha hb hc hd) 8 (Or.inl rfl);rw [show ((8:Nat):Int)=8 from rfl] at h;rw [h];unfold w4;omega
theorem adh (a b c d:Nat) (ha:a<256) (hb:b<256) (hc:c<256) (hd:d<256):rl 16 ((w4 a b c d:Nat):Int)=((w4 c d a b:Nat):Int):=by
 have h:=pO (w4 a b c d) (gP a b c d ha hb hc hd) 16 (Or.inr (Or.inl rfl));rw [show ((16:Nat):Int)=16 from rfl] at h;rw [h];unfold w4;omega
theorem adl (a b c d:Nat) (ha:a<256) (hb:b<256) (hc:c<256) (hd:d<256):rl 24 ((w4 a b c d:Nat):Int)=((w4 d a b c:Nat):Int):=by
 have h:=pO (w4 a b c d) (gP a b c d ha hb hc hd) 24 (Or.inr (Or.inr rfl));rw [show ((24:Nat):Int)=24 from rfl] at h;rw [h];unfold w4;omega
theorem lF (a b c d:Nat) (ha:a<256) (hb:b<256) (hc:c<256) (hd:d<256):iw ((w4 a b c d:Nat):Int)=((w4 (mb a b c d) (mb b c d a) (mb c d a b) (mb d a b c):Nat):Int):=by
 have ta:=jW a ha;have tb':=jW b hb;have tc:=jW c hc;have td:=jW d hd;have l:=gP;unfold iw;rw [ag3 _ (l a b c d ha hb hc hd),agF a b c d ha hb hc hd];rw [gH _ _ (l _ _ _ _ ta tb' tc td) (l a b c d ha hb hc hd),jh _ _ _ _ _ _ _ _ ta tb' tc td ha hb hc hd];rw [aaX _ _ _ _ (x8 ta ha) (x8 tb' hb) (x8 tc hc) (x8 td hd),adh a b c d ha hb hc hd,adl a b c d ha hb hc hd];rw [gH _ _ (l _ _ _ _ ta tb' tc td) (l _ _ _ _ (x8 tb' hb) (x8 tc hc) (x8 td hd) (x8 ta ha)),jh _ _ _ _ _ _ _ _ ta tb' tc td (x8 tb' hb) (x8 tc hc) (x8 td hd) (x8 ta ha)];rw [gH _ _ (l _ _ _ _ (x8 ta (x8 tb' hb)) (x8 tb' (x8 tc hc)) (x8 tc (x8 td hd)) (x8 td (x8 ta ha))) (l c d a b hc hd ha hb),jh _ _ _ _ _ _ _ _ (x8 ta (x8 tb' hb)) (x8 tb' (x8 tc hc)) (x8 tc (x8 td hd)) (x8 td (x8 ta ha)) hc hd ha hb];rw [gH _ _ (l _ _ _ _ (x8 (x8 ta (x8 tb' hb)) hc) (x8 (x8 tb' (x8 tc hc)) hd) (x8 (x8 tc (x8 td hd)) ha) (x8 (x8 td (x8 ta ha)) hb)) (l d a b c hd ha hb hc),
  jh _ _ _ _ _ _ _ _ (x8 (x8 ta (x8 tb' hb)) hc) (x8 (x8 tb' (x8 tc hc)) hd) (x8 (x8 tc (x8 td hd)) ha) (x8 (x8 td (x8 ta ha)) hb) hd ha hb hc]
 rfl
end ag
end
section
namespace ag
def sw (r:Nat→Nat) (k:Nat):Int:=((w4 (r (4*k)) (r (4*k+1)) (r (4*k+2)) (r (4*k+3)):Nat):Int)
def st (r:Nat→Nat):W:=⟨sw r 0,sw r 1,sw r 2,sw r 3⟩
def lX (R:Nat→Nat) (i:Nat) (r:Nat→Nat):Nat→Nat:=fun j=>r j ^^^ R (16*i+j)
def tn (x:Nat):Nat:=(TB.getD x 0).toNat
def tY (r:Nat→Nat):Nat→Nat:=fun j=>tn (r (4*((j / 4+j % 4) % 4)+j % 4))
def mxR (r:Nat→Nat):Nat→Nat:=fun j=>mb (r (4*(j / 4)+j % 4)) (r (4*(j / 4)+(j % 4+1) % 4)) (r (4*(j / 4)+(j % 4+2) % 4)) (r (4*(j / 4)+(j % 4+3) % 4))
def qO (r:Nat→Nat):Prop:=∀ j,j<16→r j<256
theorem afI (r s:Nat→Nat) (k m:Nat) (hr:∀ j,j<4→r (4*k+j)<256) (hs:∀ j,j<4→s (4*m+j)<256) :
  bits .xor .u32 (sw r k) (sw s m)=((w4 (r (4*k) ^^^ s (4*m)) (r (4*k+1) ^^^ s (4*m+1)) (r (4*k+2) ^^^ s (4*m+2)) (r (4*k+3) ^^^ s (4*m+3)):Nat):Int):=by
 have r0:=hr 0 (by omega);have r1:=hr 1 (by omega);have r2:=hr 2 (by omega);have r3:=hr 3 (by omega);have s0:=hs 0 (by omega);have s1:=hs 1 (by omega);have s2:=hs 2 (by omega);have s3:=hs 3 (by omega);rw [Nat.add_zero] at r0 s0;unfold sw;rw [gH _ _ (gP _ _ _ _ r0 r1 r2 r3) (gP _ _ _ _ s0 s1 s2 s3),jh _ _ _ _ _ _ _ _ r0 r1 r2 r3 s0 s1 s2 s3]
theorem tT (R r:Nat→Nat) (ks:List Int) (i:Nat) (hr:qO r) (hR:∀ j,j<16→R (16*i+j)<256) (hk:∀ k,k<4→ks.getD (4*i+k) 0=sw R (4*i+k)):lay (st r) ks i=st (lX R i r):=by
 have h0:=hk 0 (by omega);have h1:=hk 1 (by omega);have h2:=hk 2 (by omega);have h3:=hk 3 (by omega);have key:∀ k,k<4→bits .xor .u32 (sw r k) (sw R (4*i+k))=sw (lX R i r) k:=fun k hk=>by
  rw [afI r R k (4*i+k) (fun j hj=>hr _ (by omega)) (fun j hj=>by rw [show 4*(4*i+k)+j=16*i+(4*k+j) by omega];exact hR _ (by omega))];unfold sw lX;rw [show 16*i+4*k=4*(4*i+k) by omega,show 16*i+(4*k+1)=4*(4*i+k)+1 by omega,show 16*i+(4*k+2)=4*(4*i+k)+2 by omega,show 16*i+(4*k+3)=4*(4*i+k)+3 by omega]
 rw [Nat.add_zero] at h0;have k0:=key 0 (by omega);have k1:=key 1 (by omega);have k2:=key 2 (by omega);have k3:=key 3 (by omega);rw [Nat.add_zero] at k0;unfold lay st;simp only [h0,h1,h2,h3,k0,k1,k2,k3]
theorem ju (x:Nat):((tn x:Nat):Int)=TB.getD x 0:=Int.toNat_of_nonneg (nL x).1
theorem jb (x:Nat):tn x<256:=by
 have h:=(nL x).2;rw [← ju x] at h;generalize tn x=y at *;omega
attribute [irreducible] tn
theorem to0 (w:Nat) (h:w<4294967296):((w:Int) / 16777216 % 256).toNat=w / 16777216:=by omega
theorem to1 (w:Nat):((w:Int) / 65536 % 256).toNat=w / 65536 % 256:=by omega
theorem to2 (w:Nat):((w:Int) / 256 % 256).toNat=w / 256 % 256:=by omega
theorem to3 (w:Nat):((w:Int) % 256).toNat=w % 256:=by omega
theorem m8 (a b c d a1 a2 a3 b0 b2 b3 c0 c1 c3 d0 d1 d2:Nat) (ha:a<256) (hb:b<256) (hc:c<256) (hd:d<256) (Qt:a1<256) (IY:a2<256) (Qu:a3<256) (CY:b0<256) (Al:b2<256) (As:b3<256) (Dx:c0<256) (EH:c1<256) (SP:c3<256) (I2:d0<256) (DH:d1<256) (Cv:d2<256) :
  iY TB ((w4 a a1 a2 a3:Nat):Int) ((w4 b0 b b2 b3:Nat):Int) ((w4 c0 c1 c c3:Nat):Int) ((w4 d0 d1 d2 d:Nat):Int)=((w4 (tn a) (tn b) (tn c) (tn d):Nat):Int):=by
 rw [aen];have e0:=(to0 _ (gP a a1 a2 a3 ha Qt IY Qu)).trans (abp a a1 a2 a3 ha Qt IY Qu);have e1:=(to1 (w4 b0 b b2 b3)).trans (ab9 b0 b b2 b3 CY hb Al As);have e2:=(to2 (w4 c0 c1 c c3)).trans (acj c0 c1 c c3 Dx EH hc SP);have e3:=(to3 (w4 d0 d1 d2 d)).trans (aan d0 d1 d2 d I2 DH Cv hd);rw [e0,e1,e2,e3,qJ _ _ _ _ (nL _) (nL _) (nL _) (nL _),← ju a,← ju b,← ju c,← ju d];clear e0 e1 e2 e3;generalize tn a=ta;generalize tn b=tb';generalize tn c=tc;generalize tn d=td;unfold w4;omega
theorem ab3 (r:Nat→Nat) (hr:qO r):ff TB (st r)=st (tY r):=by
 have h:∀ j,j<16→r j<256:=hr;unfold ff st sw;simp only [Nat.mul_zero,Nat.zero_add,Nat.reduceMul,Nat.reduceAdd];rw [m8 (r 0) (r 5) (r 10) (r 15) _ _ _ _ _ _ _ _ _ _ _ _ (h _ (by omega)) (h _ (by omega)) (h _ (by omega)) (h _ (by omega)) (h _ (by omega)) (h _ (by omega)) (h _ (by omega)) (h _ (by omega)) (h _ (by omega)) (h _ (by omega)) (h _ (by omega)) (h _ (by omega)) (h _ (by omega)) (h _ (by omega)) (h _ (by omega)) (h _ (by omega)),
  m8 (r 4) (r 9) (r 14) (r 3) _ _ _ _ _ _ _ _ _ _ _ _ (h _ (by omega)) (h _ (by omega)) (h _ (by omega)) (h _ (by omega)) (h _ (by omega)) (h _ (by omega)) (h _ (by omega)) (h _ (by omega)) (h _ (by omega)) (h _ (by omega)) (h _ (by omega)) (h _ (by omega)) (h _ (by omega)) (h _ (by omega)) (h _ (by omega)) (h _ (by omega)),
  m8 (r 8) (r 13) (r 2) (r 7) _ _ _ _ _ _ _ _ _ _ _ _ (h _ (by omega)) (h _ (by omega)) (h _ (by omega)) (h _ (by omega)) (h _ (by omega)) (h _ (by omega)) (h _ (by omega)) (h _ (by omega)) (h _ (by omega)) (h _ (by omega)) (h _ (by omega)) (h _ (by omega)) (h _ (by omega)) (h _ (by omega)) (h _ (by omega)) (h _ (by omega)),
  m8 (r 12) (r 1) (r 6) (r 11) _ _ _ _ _ _ _ _ _ _ _ _ (h _ (by omega)) (h _ (by omega)) (h _ (by omega)) (h _ (by omega)) (h _ (by omega)) (h _ (by omega)) (h _ (by omega)) (h _ (by omega)) (h _ (by omega)) (h _ (by omega)) (h _ (by omega)) (h _ (by omega)) (h _ (by omega)) (h _ (by omega)) (h _ (by omega)) (h _ (by omega))]
 rfl
theorem agf (r:Nat→Nat) (hr:qO r):nK (st r)=st (mxR r):=by
 have h:∀ j,j<16→r j<256:=hr;unfold nK st sw;simp only [Nat.mul_zero,Nat.zero_add,Nat.reduceMul,Nat.reduceAdd];rw [lF _ _ _ _ (h _ (by omega)) (h _ (by omega)) (h _ (by omega)) (h _ (by omega)),lF _ _ _ _ (h _ (by omega)) (h _ (by omega)) (h _ (by omega)) (h _ (by omega)),lF _ _ _ _ (h _ (by omega)) (h _ (by omega)) (h _ (by omega)) (h _ (by omega)),lF _ _ _ _ (h _ (by omega)) (h _ (by omega)) (h _ (by omega)) (h _ (by omega))]
 rfl
theorem j0 (r:Nat→Nat):qO (tY r):=fun _ _=>jb _
theorem zf (r:Nat→Nat) (hr:qO r):qO (mxR r):=fun _ _=>aio (hr _ (by omega)) (hr _ (by omega)) (hr _ (by omega)) (hr _ (by omega))
theorem kB (R r:Nat→Nat) (i:Nat) (hr:qO r) (hR:∀ j,j<16→R (16*i+j)<256):qO (lX R i r):=fun j hj=>x8 (hr j hj) (hR j hj)
def zk (R r:Nat→Nat):Nat→Nat→Nat
 | 0=>lX R 0 r
 | k+1=>lX R (k+1) (mxR (tY (zk R r k)))
def blR (R:Nat→Nat) (N:Nat) (r:Nat→Nat):Nat→Nat:=lX R (N+1) (tY (zk R r N))
theorem afN (R r:Nat→Nat) (ks:List Int) (N:Nat) (hr:qO r) (hR:∀ j,j<16*(N+1)→R j<256) (hk:∀ k,k<4*(N+1)→ks.getD k 0=sw R k):rounds TB ks (st r) N=st (zk R r N)∧qO (zk R r N):=by
 induction N with
 | zero =>
  rw [kS,zk];exact ⟨tT R r ks 0 hr (fun j hj=>hR _ (by omega)) (fun k h=>hk _ (by omega)),kB R r 0 hr (fun j hj=>hR _ (by omega))⟩
 | succ N ih =>
  obtain ⟨e,b⟩:=ih (fun j hj=>hR j (by omega)) (fun k h=>hk k (by omega));have b2:=zf _ (j0 (zk R r N));rw [rounds_succ,e,ab3 _ b,agf _ (j0 _),zk];exact ⟨tT R _ ks (N+1) b2 (fun j hj=>hR _ (by omega)) (fun k h=>hk _ (by omega)),kB R _ (N+1) b2 (fun j hj=>hR _ (by omega))⟩
theorem adJ (R r:Nat→Nat) (ks:List Int) (N:Nat) (hr:qO r) (hR:∀ j,j<16*(N+2)→R j<256) (hk:∀ k,k<4*(N+2)→ks.getD k 0=sw R k):last TB ks N (st r)=st (blR R N r)∧qO (blR R N r):=by
 obtain ⟨e,b⟩:=afN R r ks N hr (fun j hj=>hR j (by omega)) (fun k h=>hk k (by omega));unfold last blR;rw [e,ab3 _ b];exact ⟨tT R _ ks (N+1) (j0 _) (fun j hj=>hR _ (by omega)) (fun k h=>hk _ (by omega)),kB R _ (N+1) (j0 _) (fun j hj=>hR _ (by omega))⟩
end ag
end
section
open Go.RowKit
namespace ag
def up (r:Nat→Nat) (k:Nat):List Int:=(List.range k).map fun j=>((r j:Nat):Int)
theorem gX (r:Nat→Nat) (k:Nat):(up r k).length=k:=by simp [up]
theorem la (r:Nat→Nat) (k:Nat):up r (k+1)=up r k++[((r k:Nat):Int)]:=by simp [up,List.range_succ]
theorem fG (r:Nat→Nat) (k j:Nat) (h:j<k):(up r k).getD j 0=((r j:Nat):Int):=by
 rw [List.getD_eq_getElem?_getD,List.getElem?_eq_getElem (by rw [gX];exact h)];simp [up]
theorem lH (r:Nat→Nat):up r 0 = []:=rfl
theorem afC (r:Nat→Nat):mxr r 4=up (mxR r) 16:=rfl
attribute [irreducible] up
def nD (R r:Nat→Nat) (N k:Nat):Nat→Nat:=if k≤N then zk R r k else blR R N r
end ag
theorem ud (RL:List Int) (R r:Nat→Nat) (i:Nat) (hr:ag.qO r) (hR:∀ j,j<16→RL.getD (16*i+j) 0=((R (16*i+j):Nat):Int)∧R (16*i+j)<256) (k:Nat) (hk:k≤16) :
  za RL (ag.up r 16) i k=ag.up (ag.lX R i r) k:=by
 induction k with
 | zero=>rw [za,ag.lH]
 | succ k ih =>
  rw [za,ih (by omega),ag.la (ag.lX R i r) k,ag.fG r 16 k (by omega),(hR k (by omega)).1,ag.fu _ _ (hr k (by omega)) (hR k (by omega)).2]
  rfl
theorem aiO (R r:Nat→Nat) (N k:Nat) (hr:ag.qO r) (hR:∀ j,j<16*(N+2)→R j<256):ag.qO (ag.nD R r N k):=by
 unfold ag.nD;split
 ·rename_i h
  cases k with
  | zero=>rw [ag.zk];exact ag.kB R r 0 hr (fun j hj=>hR _ (by omega))
  | succ k=>rw [ag.zk];exact ag.kB R _ (k+1) (ag.zf _ (ag.j0 _)) (fun j hj=>hR _ (by omega))
 ·exact ag.kB R _ (N+1) (ag.j0 _) (fun j hj=>hR _ (by omega))
theorem ad3 (R r:Nat→Nat) (N k:Nat) (h:k+1≤N):ag.nD R r N (k+1)=ag.lX R (k+1) (ag.mxR (ag.tY (ag.nD R r N k))):=by
 unfold ag.nD;rw [if_pos h,if_pos (by omega),ag.zk]
theorem adt (R r:Nat→Nat) (N:Nat):ag.nD R r N (N+1)=ag.lX R (N+1) (ag.tY (ag.nD R r N N)):=by
 unfold ag.nD;rw [if_neg (by omega),if_pos (by omega),ag.blR]
theorem nY {ops:Array Oper} {rest:List Oper} {a:Act} {w:World} {Q:Exit→Act→World→Prop} {D:Option Tmp} {T:TypeId} {ps:String} {af:Array Edge} (s x:Operand) (ys:List Int) (base:Nat) (v:Value) (n:Nat) (l:List Int) (b o m c:Nat) (hs:a.eval s=v)
  (hx:a.eval x = .slice (some ⟨b,o,none⟩) m c) (hm:ys.length=m) (hc:∀ j,j<m→w.cell? ⟨b,o+j,none⟩=some (.int .u8 (ys.getD j 0))) (Ap:w.ownsRow base 5 1 v n (aC l)) (hn:n+m≤1000000000000) (hb:base≤w.heap.size)
  (h:∀ v' w',w'.ownsRow base 5 1 v' (n+m) (aC (l++ys))→w.grownBy w' v.ownBlock→wpList prog ops Q rest (a.put D v') w') :
  wpList prog ops Q ({ dst:=D,op:=.call { callee:=.builtin .append,args:=#[s,x],argTypes:=#[22,22] },type:=T,pos:=ps,after:=af,guard:=none } :: rest) a w:=by
 obtain ⟨i0,hi,hz0,hz1,hz2⟩:=info_parts Tryz.bu;refine wpList_append_own _ rfl s x 22 rfl base 5 i0 (.int .u8 0) 1 1 underlying22 hi hz0 hz1 hz2 rfl (by decide) v n (aC l) hs Ap ⟨b,o,none⟩ m c (ys.map (Value.int .u8)) hx (by simp [hm]) ?_ ?_ (by unfold maxLen;omega) (by omega) hb ?_
 ·intro j u hj;have Cp:j<ys.length:=by have:=(List.getElem?_eq_some_iff.1 hj).1;simpa using this
  rw [Addr.add_mid,hc j (by omega)];rw [List.getElem?_map,List.getElem?_eq_getElem Cp] at hj;rw [List.getD_eq_getElem?_getD,List.getElem?_eq_getElem Cp];simpa using hj
 ·intro u hu;rw [List.mem_map] at hu;obtain ⟨x,_,rfl⟩:=hu
  rfl
 ·intro v' w' h1 h2 _;refine h v' w' ?_ h2;have e:aC l++ys.map (Value.int .u8)=aC (l++ys):=by unfold aC;simp
  rw [← e];exact h1
theorem eY (w:World) (B:Nat) (h:B≤w.heap.size):(w.alloc (.cells #[] 5)).ownsRow B 5 1 (.slice (some ⟨w.heap.size,0,none⟩) 0 0) 0 (aC []):=by
 unfold aC;exact ⟨rfl,Or.inr ⟨w.heap.size,0,#[],rfl,h,heap_alloc_new w _,Nat.le_refl _,by unfold maxLen;omega,rfl,rfl⟩⟩
theorem jZ.av {w x:World} {g n:Nat} {R:List Int} (h:jZ w g n R) (hb:qw w x):jZ x g n R:=by
 obtain ⟨wb,wc,tb,tc,h0,hW,hT⟩:=h;refine ⟨wb,wc,tb,tc,(hb.block _ (lt_of_block h0)).trans h0,fun i hi=>?_,fun j hj=>(hb.cell (World.block_lt_of_cell? w _ (hT j hj))).trans (hT j hj)⟩;obtain ⟨b,c,h1,h2⟩:=hW i hi;exact ⟨b,c,(hb.cell (World.block_lt_of_cell? w _ h1)).trans h1,fun j hj=>(hb.cell (World.block_lt_of_cell? w _ (h2 j hj))).trans (h2 j hj)⟩
theorem pD (cur cs:List Value) (h:cs.length=cur.length):splice cur 0 cs=cs:=by
 unfold splice;rw [List.take_zero,List.drop_of_length_le (by omega)];simp
theorem nM (g n:Nat) (R S:List Int) (r:Nat) (ri:Int) (QX:ri=(r:Int)) (hr:r<15) (hn:4*r+4≤n) (C0:n≤60) (sb sc:Nat) (w:World) (hC:jZ w g n R) (hS:∀ j,j<16→w.cell? ⟨sb,j,none⟩=some (.int .u8 (S.getD j 0))) :
  qc 198 #[qp g,.slice (some ⟨sb,0,none⟩) 16 sc,.int .i64 ri] w fun e w'=>∃ g c,e = .returned (.slice (some ⟨g,0,none⟩) 16 c)∧w'.ownsRow w.heap.size 5 1 (.slice (some ⟨g,0,none⟩) 16 c) 16 (aC (za R S r 16))∧qw w w':=by
 subst QX;exact rO g n R S r hr hn C0 sb sc w hC hS
theorem bO {w:World} {b j:Nat} {v:Value} (o:Obj) (h:w.cell? ⟨b,j,none⟩=some v):(w.alloc o).cell? ⟨b,j,none⟩=some v :=
 (((Below.refl _ w).alloc qn o).cell (World.block_lt_of_cell? w _ h)).trans h
theorem yr (g:Nat) (RL:List Int) (R r:Nat→Nat) (N:Nat) (w:World) (hC:jZ w g (4*(N+2)) RL) (hN:N+2≤15) (hR:∀ j,j<16*(N+2)→RL.getD j 0=((R j:Nat):Int)∧R j<256) (hr:ag.qO r) :
  qc 196 #[qp g,Bk (ag.up r 16)] w (mP (ag.up (ag.blR R N r) 16) w):=by
 unfold Bk;have HC:=qh hC;clear hC;have HR:=qh hR;clear hR;have Hr:=qh hr;clear hr;obtain ⟨A,Hd,An⟩:∃ A:Array Value,Hid (A=((ag.up r 16).map (Value.int .u8)).toArray)∧Hid (A.size=16):=⟨_,rfl,by show _=_;simp [ag.gX]⟩;rw [← Hd.out];go_enter func196,ntmps196;go_upto_region 1 with fail
 have HX:Hid (((w.alloc (.cells A 221)).alloc (.cells qz 221)).heap[w.heap.size]?=some (.cells A 221 (0,0))):=heap_alloc2_old w _ _;have HZ:Hid (((w.alloc (.cells A 221)).alloc (.cells qz 221)).heap[w.heap.size+1]?=some (.cells (List.replicate 16 (Value.int .u8 0)).toArray 221 (0,0))):=heap_alloc2_new w _ _;have Ai:Hid (qw w ((w.alloc (.cells A 221)).alloc (.cells qz 221))):=(qb w _).alloc (by simp) _;generalize (w.alloc (.cells A 221)).alloc (.cells qz 221)=w1 at *;have Cm:Hid (∀ j,j<16→w1.cell? ⟨w.heap.size,j,none⟩=some (.int .u8 ((ag.up r 16).getD j 0))):=fun j hj=>by
  have h:=HX.out;rw [Hd.out] at h;exact cJ h j (by rw [ag.gX];exact hj)
 go_upto_region 2 with ((with_reducible refine nY _ _ (ag.up r 16) w1.heap.size _ 0 [] w.heap.size 0 16 16 ?_ ?_ (ag.gX _ _) ?_ (eY w1 _ qn) ?_ ?_ ?_);(exact rfl);(exact rfl);(intro j hj;rw [Nat.zero_add];exact bO _ (Cm.out j hj));omega;simp;intro v2 w2 Bt Bm)
 have Aj:Hid (qw w w2):=(Ai.out.alloc Ai.out.size _).grown Bm (by have:=Ai.out.size;simp;omega) (fun j hj=>by cases hj;exact Ai.out.size);have ED:Hid (w2.heap[w.heap.size+1]?=some (.cells (List.replicate 16 (Value.int .u8 0)).toArray 221 (0,0))):=(Bm.block _ (by have:=lt_of_block HZ.out;simp;omega) (by have:=lt_of_block HZ.out;simp [Value.ownBlock];omega)).trans ((heap_alloc_old _ _ (lt_of_block HZ.out)).trans HZ.out);obtain ⟨s2,c2,hv⟩:=cz Bt (by decide);subst hv;have AA:=qh Bt;clear Bt Bm HX HZ Ai Cm;have Ln:Hid (jZ w2 g (4*(N+2)) RL):=HC.out.av Aj.out;go_upto_region 3 with (go_at_call 198;refine (rO g (4*(N+2)) RL (ag.up r 16) 0 (by omega) (by omega) (by omega) s2 c2 _ Ln.out (fun j hj=>by rw [dc AA.out j hj];rfl)).mono ?_;rintro e w3 ⟨s3,c3,rfl,Iw,As⟩)
 have Cg:=qh Iw;have Ao:Hid (qw w w3):=Aj.out.trans (As.mono Aj.out.size);have Na:Hid (w3.heap[w.heap.size+1]?=some (.cells (List.replicate 16 (Value.int .u8 0)).toArray 221 (0,0))):=(As.block _ (lt_of_block ED.out)).trans ED.out;have AY:Hid (∀ j,j<16→w3.cell? ⟨s3,j,none⟩=some (.int .u8 ((ag.nD R r N 0 j:Nat):Int))):=fun j hj=>by
  rw [dc Cg.out j hj,ud RL R r 0 Hr.out (fun j hj=>HR.out _ (by omega)) 16 (by omega),ag.fG _ 16 j hj]
  rfl
 have Fm:Hid (∀ x,qw w x→jZ x g (4*(N+2)) RL):=fun x hx=>HC.out.av hx;clear Iw As Cg Aj ED AA Ln HC;obtain ⟨wb,wc,tb,tc,h0,_,_⟩:=Fm.out _ Ao.out;have c0:w3.cell? ⟨g,0,none⟩=some (.slice (some ⟨wb,0,none⟩) (4*(N+2)) wc):=by rw [cell_of_row w3 g 0 _ _ _ h0];rfl
 clear h0;go_upto_region 4 with fail
 rw [show ((N:Int)+2-1)=(N:Int)+1 by omega];clear c0;go_wp2;go_loopw [5,7] (fun v5 v7 wr=>∃ (k sb sc:Nat),k≤N+1∧v7 = .int .i64 ((k:Int)+1)∧v5 = .slice (some ⟨sb,0,none⟩) 16 sc∧Hid (∀ j,j<16→wr.cell? ⟨sb,j,none⟩=some (.int .u8 ((ag.nD R r N k j:Nat):Int)))∧Hid (wr.heap[w.heap.size+1]?=some (.cells (List.replicate 16 (Value.int .u8 0)).toArray 221 (0,0)))∧Hid (qw w wr)) (fun _ v7 _=>N+3-(intOf v7).toNat)
 case atStart=>exact ⟨0,s3,c3,by omega,rfl,rfl,AY.out,Na.out,Ao.out⟩
 case round =>
  clear AY Na Ao;obtain ⟨k,sb,sc,hk,rfl,rfl,HS,HZ,HB⟩:=hrel;by_cases Ae:k<N+1
  ·go_wp2;obtain ⟨wo,rfl⟩:∃ wo:World,wo=wr:=⟨_,rfl⟩;rw [show decide (k≤N)=true from decide_eq_true (by omega)];go_loopw [8,9] (fun v8 v9 wr=>∃ j:Nat,j≤16∧v9 = .int .i64 j∧Hid (wr.ownsRow wo.heap.size 5 1 v8 j (aC (ag.up (ag.tY (ag.nD R r N k)) j)))∧Hid (qw wo wr)) (fun _ v9 _=>16-(intOf v9).toNat)
   case atStart=>exact ⟨0,Nat.zero_le _,rfl,by rw [ag.lH];unfold aC;exact World.ownsRow_nil _ _ _ _,Below.refl _ _⟩
   case round =>
    obtain ⟨j,hj,rfl,HO,GD⟩:=hrel;by_cases Cp:j<16
    ·obtain ⟨q,t,hq,ht,rfl⟩:∃ q t:Nat,q<4∧t<4∧j=4*q+t:=⟨j / 4,j % 4,by omega,by omega,by omega⟩;obtain ⟨wb2,wc2,tb,tc,h0,_,hT⟩:=Fm.out _ HB.out;obtain ⟨z,hz⟩:∃ z,z=(q+t) % 4:=⟨_,rfl⟩;have UA:z<4:=by omega
     have h1:=HS.out (4*z+t) (by omega);have hy:=aiO R r N k Hr.out (fun j hj=>(HR.out j hj).2) (4*z+t) (by omega);have HX:Hid (ag.up (ag.tY (ag.nD R r N k)) (4*q+t)++[ag.TB.getD (ag.nD R r N k (4*z+t)) 0]=ag.up (ag.tY (ag.nD R r N k)) (4*q+t+1)):=by
      show _=_;rw [ag.la,ag.tY,show (4*q+t) / 4=q by omega,show (4*q+t) % 4=t by omega,← hz,ag.ju]
     have h2:=hT _ hy;generalize ag.nD R r N k (4*z+t)=y at *;generalize ag.TB.getD y 0=x at *;have e0:wo.cell? ⟨g,1,none⟩=some (.slice (some ⟨tb,0,none⟩) 256 tc):=by rw [cell_of_row wo g 1 _ _ _ h0];rfl
     have c0:=(GD.out.cell (World.block_lt_of_cell? wo _ e0)).trans e0;have c1:=(GD.out.cell (World.block_lt_of_cell? wo _ h1)).trans h1;have c2:=(GD.out.cell (World.block_lt_of_cell? wo _ h2)).trans h2;clear h0 hT h1 h2 e0;have d1:((4*(q:Int)+t).tdiv 4)=q:=by rw [Int.tdiv_eq_ediv_of_nonneg (by omega)];omega
     have d2:((4*(q:Int)+t).tmod 4)=t:=by rw [Int.tmod_eq_emod_of_nonneg (by omega)];omega
     have d3:IntKind.i64.wrap ((q:Int)+t)=(q:Int)+t:=IntWalk.i64_in _ ⟨by omega,by omega⟩;have d4:((q:Int)+t).tmod 4=z:=by rw [Int.tmod_eq_emod_of_nonneg (by omega)];omega
     have d5:IntKind.i64.wrap (4*(z:Int))=4*(z:Int):=IntWalk.i64_in _ ⟨by omega,by omega⟩;have d6:IntKind.i64.wrap (4*(z:Int)+t)=4*(z:Int)+t:=IntWalk.i64_in _ ⟨by omega,by omega⟩;have T9:=qh hz;clear hz;go_wp2;have d7:IntKind.i64.wrap (q:Int)=q:=IntWalk.i64_in _ ⟨by omega,by omega⟩;have d8:IntKind.i64.wrap (z:Int)=z:=IntWalk.i64_in _ ⟨by omega,by omega⟩;have d9:IntKind.i64.wrap (t:Int)=t:=IntWalk.i64_in _ ⟨by omega,by omega⟩;have f1:0≤4*(z:Int)+t:=by omega
     have f2:(4*(z:Int)+t).toNat=4*z+t:=by omega
     have f3:4*(z:Int)+t<16:=by omega
     have f4:0≤(y:Int):=by omega
     have f5:(y:Int)<256:=by omega
     have f6:((y:Int)).toNat=y:=by omega
     have g0:wr.drew.cell? ⟨g,1,none⟩=some (.slice (some ⟨tb,0,none⟩) 256 tc):=c0;have g1:wr.drew.cell? ⟨sb,4*z+t,none⟩=some (.int .u8 (y:Int)):=c1;have g2:wr.drew.cell? ⟨tb,y,none⟩=some (.int .u8 x):=c2;go_region_law ((with_reducible refine iu wr _ (.tmp 33) (.tmp 53) wo.heap.size u8 (4*q+t) (ag.up (ag.tY (ag.nD R r N k)) (4*q+t)) ?_ ?_ ?_ ?_ HO.out ?_ ?_ ?_);(exact rfl);(exact rfl);(exact rfl);(exact rfl);omega;(exact GD.out.size);intro v' w4 Aa Ac;have Ag:=ia GD.out GD.out.size HO.out Ac)
     all_goals
      rw [HX.out] at Aa;clear Ac HO GD HX;go_wp2;exact ⟨⟨4*q+t+1,by omega,by go_num,Aa,Ag⟩,by simp [intOf];omega⟩
    ·have E:j=16:=by omega
     subst E;obtain ⟨s8,c8,hv⟩:=cz HO.out (by decide);subst hv;have h16:(16:Int)≤((16:Nat):Int):=by decide
     have Dz:Hid (qw w wr):=HB.out.trans (GD.out.mono HB.out.size);have F8:Hid (wr.heap[w.heap.size+1]?=some (.cells (List.replicate 16 (Value.int .u8 0)).toArray 221 (0,0))):=(GD.out.block _ (lt_of_block HZ.out)).trans HZ.out;have Qf:Hid (∀ j,j<16→wr.cell? ⟨s8,j,none⟩=some (.int .u8 ((ag.tY (ag.nD R r N k) j:Nat):Int))):=fun j hj=>by
      rw [dc HO.out j hj,ag.fG _ 16 j hj]
     have KS:=qh (Fm.out _ Dz.out);clear HO GD HS HZ HB Cp;by_cases hkN:k<N
     ·go_wp2_with (first
       | (go_at_call 199;refine (yW (ag.tY (ag.nD R r N k)) (ag.j0 _) s8 c8 _ Qf.out).mono ?_;rintro e w5 ⟨s5,c5,rfl,CF,BC⟩;have HO5:=qh CF;have Ay:=qh BC;clear CF BC;have NP:=qh (KS.out.av Ay.out))
       | (go_at_call 198;refine (nM g (4*(N+2)) RL (ag.mxr (ag.tY (ag.nD R r N k)) 4) (k+1) _ (by push_cast;rfl) (by omega) (by omega) (by omega) s5 c5 _ NP.out (fun j hj=>dc HO5.out j hj)).mono ?_;rintro e w6 ⟨s6,c6,rfl,Dy,BJ⟩;have FY:=qh Dy;have Br:=qh BJ;clear Dy BJ))
      refine ⟨⟨k+1,s6,c6,by omega,by go_num,rfl,?_,?_,?_⟩,by simp [intOf];omega⟩
      ·intro j hj;rw [dc FY.out j hj,ag.afC,ud RL R _ (k+1) (ag.zf _ (ag.j0 _)) (fun j hj=>HR.out _ (by omega)) 16 (by omega),ag.fG _ 16 j hj,ad3 R r N k (by omega)]
      ·exact (Br.out.block _ (by have:=Ay.out.size;have:=lt_of_block F8.out;omega)).trans ((Ay.out.block _ (lt_of_block F8.out)).trans F8.out)
      ·exact Dz.out.trans ((Ay.out.trans (Br.out.mono Ay.out.size)).mono Dz.out.size)
     ·obtain rfl:k=N:=by omega
      go_wp2_with (go_at_call 198;refine (nM g (4*(k+2)) RL (ag.up (ag.tY (ag.nD R r k k)) 16) (k+1) _ (by push_cast;rfl) (by omega) (by omega) (by omega) s8 c8 _ KS.out (fun j hj=>by rw [Qf.out j hj,ag.fG _ 16 j hj])).mono ?_;rintro e w6 ⟨s6,c6,rfl,Dy,BJ⟩;have FY:=qh Dy;have Br:=qh BJ;clear Dy BJ)
      refine ⟨⟨k+1,s6,c6,by omega,by go_num,rfl,?_,?_,?_⟩,by simp [intOf];omega⟩
      ·intro j hj;rw [dc FY.out j hj,ud RL R _ (k+1) (ag.j0 _) (fun j hj=>HR.out _ (by omega)) 16 (by omega),ag.fG _ 16 j hj,adt R r k]
      ·exact (Br.out.block _ (lt_of_block F8.out)).trans F8.out
      ·exact Dz.out.trans (Br.out.mono Dz.out.size)
  ·have E:k=N+1:=by omega
   subst E;have Ih:Hid (∀ j,j<16→wr.cell? ⟨sb,j,none⟩=some (.int .u8 ((ag.up (ag.blR R N r) 16).getD j 0))):=fun j hj=>by
    rw [HS.out j hj,ag.fG _ 16 j hj,ag.nD,if_neg (by omega)]
   generalize hU:ag.up (ag.blR R N r) 16=U at *;have Lv:Hid (U.length=16):=by show _=_;rw [← hU,ag.gX]
   clear hU HS;go_upto_region 16 with fail
   have Di:Hid ((wr.alloc (.cells qz 221)).heap[wr.heap.size]?=some (.cells (List.replicate 16 (Value.int .u8 0)).toArray 221 (0,0))):=heap_alloc_new _ _;have Qj:Hid ((wr.alloc (.cells qz 221)).heap[w.heap.size+1]?=some (.cells (List.replicate 16 (Value.int .u8 0)).toArray 221 (0,0))):=(heap_alloc_old _ _ (lt_of_block HZ.out)).trans HZ.out;have DE:Hid (∀ j,j<16→(wr.alloc (.cells qz 221)).cell? ⟨sb,j,none⟩=some (.int .u8 (U.getD j 0))):=fun j hj=>bO _ (Ih.out j hj);have Ay:Hid (qw w (wr.alloc (.cells qz 221))):=HB.out.alloc HB.out.size _;have Ea:Hid (w.heap.size+1<wr.heap.size):=lt_of_block HZ.out;clear HZ HB Ih;generalize wr.alloc (.cells qz 221)=w5 at *;generalize wr.heap.size=G at *;obtain ⟨A,An,Ak,Au⟩:∃ A:Array Value,Hid (A=(U.map (Value.int .u8)).toArray)∧Hid (A.size=16)∧Hid (A.all (·.oneCell')=true) :=
    ⟨_,rfl,by show _=_;simp [Lv.out],fe _⟩
   go_upto_region 17 with ((with_reducible refine jR _ _ _ _ 5 G 0 16 16 ⟨sb,0,none⟩ 16 sc 221 (List.replicate 16 (Value.int .u8 0)) (U.map (Value.int .u8)) ?_ ?_ Di.out underlying22 (by kernel_rfl) ?_ ?_ ?_ (wX _) ?_);(exact rfl);(exact rfl);(rw [List.length_map,Lv.out];rfl);(intro j v hj;have Cp:j<U.length:=(by have:=(List.getElem?_eq_some_iff.1 hj).1;simpa using this);rw [Addr.add_mid,Nat.zero_add,DE.out j (by rw [Lv.out] at Cp;exact Cp)];rw [List.getElem?_map,List.getElem?_eq_getElem Cp] at hj;rw [List.getD_eq_getElem?_getD,List.getElem?_eq_getElem Cp];simpa using hj);(rw [List.length_map,Lv.out];simp);intro w6 G6 AE)
   have G6':Hid (w6.heap[G]?=some (.cells A 221 (0,0))):=by
    show _=_;rw [G6.out,pD _ _ (by rw [List.length_map,Lv.out];rfl),An.out]
   have Sr:Hid (w6.heap[w.heap.size+1]?=some (.cells (List.replicate 16 (Value.int .u8 0)).toArray 221 (0,0))):=(AE.block _ (by have:=Ea.out;omega)).trans Qj.out;have Br:Hid (qw w w6):=AE.below Ay.out (by have:=Ea.out;omega);clear G6 AE Di Qj DE Ay;go_wp2_with (first
    | ((with_reducible refine ay _ _ _ _ _ _ _ ?_ G6'.out underlying221 ?_ (ae Tryz.cE Ak) ?_);(exact rfl);(exact rfl))
    | ((with_reducible refine ak _ _ _ _ _ _ _ ?_ ?_ Sr.out (ae Tryz.cE Ak) ?_ Au.out ?_);(exact rfl);(exact rfl);(rw [Ak.out];rfl);intro w7 G7 JS))
   refine bodyPost_ret (results_cell_row rfl _ _ (w.heap.size+1) 221 A (0,0) _ rfl G7.out underlying221 rfl (ae Tryz.cE Ak)) rfl ⟨?_,JS.below Br.out (by omega)⟩;rw [An.out,Bk]
end
end Go.Proofs.YthgjfjmampmiiaaGreatDoor
