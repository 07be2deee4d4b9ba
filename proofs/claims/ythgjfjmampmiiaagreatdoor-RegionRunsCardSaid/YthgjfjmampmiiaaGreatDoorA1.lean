import Derived.Test.YthgjfjmampmiiaaGreatDoorAb
import Derived.Laws.CopyOwn
import Derived.WalkSpells
import Derived.WalkLawsBesides
import Derived.Deep.MidRow
import Derived.Deep.Cut
namespace Go.Proofs.YthgjfjmampmiiaaGreatDoor
open Go.Proofs.Tryz
set_option maxHeartbeats 1000000
set_option maxRecDepth 100000
theorem aQ {α:Type} (l:List α) (i:Nat) (a:α):l.toArray.setIfInBounds i a=(l.set i a).toArray:=List.setIfInBounds_toArray ..
theorem aR {α:Type} (a:α) (l:List α) (b:α):(a :: l).set 0 b=b :: l:=rfl
theorem aO {α:Type} (a:α) (l:List α) (n:Nat) (b:α):(a :: l).set (n+1) b=a :: l.set n b:=rfl
section
open Go.RowKit
namespace ai
def rr (n:Int) (x:Int):Int:=bits .or .u32 (x*2 ^ (32-n).toNat % 4294967296) (x / 2 ^ n.toNat)
def okn (n:Int):Bool:=n==2||n==6||n==7||n==11||n==13||n==17||n==18||n==19||n==22||n==25
def nA (a b c d:Int):Int:=bits .or .u32 (bits .or .u32 (bits .or .u32 (a*16777216) (b*65536)) (c*256)) d
def g1 (x:Int):Int:=bits .xor .u32 (bits .xor .u32 (rr 17 x) (rr 19 x)) (x / 1024)
def g0 (x:Int):Int:=bits .xor .u32 (bits .xor .u32 (rr 7 x) (rr 18 x)) (x / 8)
def nw (a b c d:Int):Int:=(g1 a+b+g0 c+d) % 4294967296
def wl (r:Nat→Int):Nat→List Int
 | 0=>[]
 | k+1=>wl r k++[if k<16 then nA (r (4*k)) (r (4*k+1)) (r (4*k+2)) (r (4*k+3)) else nw ((wl r k).getD (k-2) 0) ((wl r k).getD (k-7) 0) ((wl r k).getD (k-15) 0) ((wl r k).getD (k-16) 0)]
theorem ft (r:Nat→Int) (k:Nat):(wl r k).length=k:=by
 induction k with
 | zero=>rfl
 | succ k ih=>simp [wl,ih]
def wa (l:List Int):Array Value:=(l.map (Value.int .u32)++List.replicate (64-l.length) (Value.int .u32 0)).toArray
theorem pM (l:List Int) (h:l.length≤64):(wa l).size=64:=by simp [wa];omega
theorem gV (l:List Int) (j:Nat) (h:j<l.length):(wa l)[j]?=some (.int .u32 (l.getD j 0)):=by
 simp [wa,List.getElem?_append,h]
theorem afv (l:List Int) (j:Nat) (hl:l.length≤64) (h:j<64):∃ n,(wa l)[j]?=some (.int .u32 n):=by
 by_cases hj:j<l.length
 ·exact ⟨_,gV l j hj⟩
 ·refine ⟨0,?_⟩;have h2:j-l.length<64-l.length:=by omega
  simp [wa,List.getElem?_append,hj,h2]
theorem oT (l:List Int) (x:Int) (h:l.length<64):(wa l).setIfInBounds l.length (.int .u32 x)=wa (l++[x]):=by
 apply Array.ext'
 have e:64-l.length=(64-(l.length+1))+1:=by omega
 simp [wa,e,List.replicate_succ]
theorem wH (r:Nat→Int) (j:Nat):wl r (16+(j+1))=wl r (16+j)++[nw ((wl r (16+j)).getD (j+14) 0) ((wl r (16+j)).getD (j+9) 0) ((wl r (16+j)).getD (j+1) 0) ((wl r (16+j)).getD j 0)]:=by
 rw [show 16+(j+1)=(16+j)+1 by omega,wl,if_neg (by omega),show 16+j-2=j+14 by omega,show 16+j-7=j+9 by omega,show 16+j-15=j+1 by omega,show 16+j-16=j by omega]
def wd (r:Nat→Int) (t:Nat):Int:=(wl r 64).getD t 0
def kk:List Int:=[1116352408,1899447441,3049323471,3921009573,961987163,1508970993,2453635748,2870763221,3624381080,310598401,607225278,1426881987,1925078388,2162078206,2614888103,3248222580,3835390401,4022224774,264347078,604807628,770255983,1249150122,1555081692,1996064986,2554220882,2821834349,2952996808,3210313671,3336571891,3584528711,113926993,338241895,666307205,773529912,1294757372,1396182291,1695183700,1986661051,2177026350,2456956037,2730485921,2820302411,3259730800,3345764771,3516065817,3600352804,4094571909,275423344,430227734,506948616,659060556,883997877,958139571,1322822218,1537002063,1747873779,1955562222,2024104815,2227730452,2361852424,2428436474,2756734187,3204031479,3329325298]
def ki (t:Nat):Int:=kk.getD t 0
structure St where
 a:Int
 b:Int
 c:Int
 d:Int
 e:Int
 f:Int
 g:Int
 h:Int
def t1 (k w:Int) (s:St):Int:=(s.h+bits .xor .u32 (bits .xor .u32 (rr 6 s.e) (rr 11 s.e)) (rr 25 s.e)+bits .xor .u32 (bits .and .u32 s.e s.f) (bits .and .u32 (bits .xor .u32 IntKind.u32.max s.e) s.g)+k+w) % 4294967296
def t2 (s:St):Int:=(bits .xor .u32 (bits .xor .u32 (rr 2 s.a) (rr 13 s.a)) (rr 22 s.a)+bits .xor .u32 (bits .xor .u32 (bits .and .u32 s.a s.b) (bits .and .u32 s.a s.c)) (bits .and .u32 s.b s.c)) % 4294967296
def rnd (k w:Int) (s:St):St:=⟨(t1 k w s+t2 s) % 4294967296,s.a,s.b,s.c,(s.d+t1 k w s) % 4294967296,s.e,s.f,s.g⟩
theorem ach (k w:Int) (x:St) (S1 CH T1 S0 MJ T2:Int) (h1:bits .xor .u32 (bits .xor .u32 (rr 6 x.e) (rr 11 x.e)) (rr 25 x.e)=S1)
  (h2:bits .xor .u32 (bits .and .u32 x.e x.f) (bits .and .u32 (bits .xor .u32 IntKind.u32.max x.e) x.g)=CH) (h3:((x.h+S1+CH+k) % 4294967296+w) % 4294967296=T1)
  (h4:bits .xor .u32 (bits .xor .u32 (rr 2 x.a) (rr 13 x.a)) (rr 22 x.a)=S0) (h5:bits .xor .u32 (bits .xor .u32 (bits .and .u32 x.a x.b) (bits .and .u32 x.a x.c)) (bits .and .u32 x.b x.c)=MJ)
  (h6:(S0+MJ) % 4294967296=T2):rnd k w x = ⟨(T1+T2) % 4294967296,x.a,x.b,x.c,(x.d+T1) % 4294967296,x.e,x.f,x.g⟩:=by
 subst h1 h2 h4 h5 h6;rw [Int.emod_add_emod] at h3;subst h3
 rfl
def rs (s:St) (r:Nat→Int):Nat→St
 | 0=>s
 | t+1=>rnd (ki t) (wd r t) (rs s r t)
def plus (s x:St):St:=⟨(s.a+x.a) % 4294967296,(s.b+x.b) % 4294967296,(s.c+x.c) % 4294967296,(s.d+x.d) % 4294967296,(s.e+x.e) % 4294967296,(s.f+x.f) % 4294967296,(s.g+x.g) % 4294967296,(s.h+x.h) % 4294967296⟩
def tk (s:St) (r:Nat→Int):St:=plus s (rs s r 64)
theorem lL (s:St) (r:Nat→Int) (t:Nat):rs s r (t+1)=rnd (ki t) (wd r t) (rs s r t):=rfl
theorem lg (s:St) (r:Nat→Int):rs s r 0=s:=rfl
def St.l (s:St):List Value:=[.int .u32 s.a,.int .u32 s.b,.int .u32 s.c,.int .u32 s.d,.int .u32 s.e,.int .u32 s.f,.int .u32 s.g,.int .u32 s.h]
theorem wg (s:St) (r:Nat→Int):tk s r=plus s (rs s r 64):=rfl
theorem pJ:wa []=(List.replicate 64 (Value.int .u32 0)).toArray:=rfl
attribute [irreducible] rnd wl wa wd ki rs tk rr kk
end ai
end
section
open Go.RowKit
namespace ai
section
theorem zO (r r':Nat→Int) (h:∀ i,i<64→r i=r' i) (k:Nat):wl r k=wl r' k:=by
 induction k with
 | zero=>rw [wl,wl]
 | succ k ih =>
  rw [wl,wl,ih];by_cases hk:k<16
  ·rw [if_pos hk,if_pos hk,h _ (by omega),h _ (by omega),h _ (by omega),h _ (by omega)]
  ·rw [if_neg hk,if_neg hk]
theorem aaR (r r':Nat→Int) (h:∀ i,i<64→r i=r' i) (t:Nat):wd r t=wd r' t:=by
 unfold wd;rw [zO r r' h]
theorem abe (s:St) (r r':Nat→Int) (h:∀ i,i<64→r i=r' i) (t:Nat):rs s r t=rs s r' t:=by
 induction t with
 | zero=>rw [lg,lg]
 | succ t ih=>rw [lL,lL,ih,aaR r r' h]
theorem si (s:St) (r r':Nat→Int) (h:∀ i,i<64→r i=r' i):tk s r=tk s r':=by
 rw [wg,wg,abe s r r' h]
end
def init:St:=⟨1779033703,3144134277,1013904242,2773480762,1359893119,2600822924,528734635,1541459225⟩
def row (L:List Int) (q:Nat):Nat→Int:=fun i=>L.getD (64*q+i) 0
def iG (L:List Int):Nat→St
 | 0=>init
 | q+1=>tk (iG L q) (row L q)
theorem wZ (L X:List Int) (q:Nat) (h:64*q≤L.length):iG (L++X) q=iG L q:=by
 induction q with
 | zero=>rfl
 | succ q ih =>
  rw [iG,iG,ih (by omega)];refine si _ _ _ (fun i hi=>?_);unfold row;simp only [List.getD_eq_getElem?_getD,List.getElem?_append];rw [if_pos (by omega)]
def HC (s:St) (R:List Int) (n:Int):List Value:=s.l++(R.map (Value.int .u8)++[.int .u64 n])
theorem me (s:St) (R:List Int) (n:Int):(HC s R n).length=R.length+9:=by simp [HC,St.l]
def aY (l:List Int):Prop:=∀ x∈l,0≤x∧x≤255
def Rest (M R:List Int):Prop:=R.length=64∧aY R∧R.take (M.length % 64)=M.drop (64*(M.length / 64))
theorem nP (s:St) (R:List Int) (n:Int) (k:Nat) (c:List Int) (h:k+c.length≤R.length):splice (HC s R n) (8+k) (c.map (Value.int .u8))=HC s (splice R k c) n:=by
 unfold splice HC;have e:s.l.length=8:=rfl;rw [List.take_append,List.drop_append,e];simp only [List.length_map];rw [List.take_of_length_le (by omega),List.drop_eq_nil_of_le (by omega:s.l.length≤8+k+c.length)];rw [show 8+k-8=k by omega,show 8+k+c.length-8=k+c.length by omega];rw [List.take_append_of_le_length (by simp;omega),List.drop_append_of_le_length (by simp;omega)];simp
theorem rY (s s':St) (R:List Int) (n:Int):splice (HC s R n) 0 s'.l=HC s' R n:=by
 unfold splice HC;have e:s.l.length=8:=rfl;have e':s'.l.length=8:=rfl;simp [e'];rw [← e,List.drop_left]
theorem jz {l:List Int} (h:aY l) (n:Nat):aY (l.take n):=fun x hx=>h x (List.mem_of_mem_take hx)
theorem jy {l:List Int} (h:aY l) (n:Nat):aY (l.drop n):=fun x hx=>h x (List.mem_of_mem_drop hx)
theorem aP {l m:List Int} (h:aY l) (k:aY m):aY (l++m):=fun x hx=>(List.mem_append.1 hx).elim (h x) (k x)
theorem aW {l:List Int} (h:aY l) (i:Nat):0≤l.getD i 0∧l.getD i 0≤255:=by
 by_cases hi:i<l.length
 ·rw [List.getD_eq_getElem?_getD,List.getElem?_eq_getElem hi];exact h _ (List.getElem_mem hi)
 ·rw [List.getD_eq_getElem?_getD,List.getElem?_eq_none (by omega)];simp
theorem gK {α:Type} (R:List α) (k:Nat) (c:List α) (h:k+c.length≤R.length):(splice R k c).length=R.length:=length_splice R k c h
theorem kR {α:Type} (R:List α) (k:Nat) (c:List α) (h:k+c.length≤R.length):(splice R k c).take (k+c.length)=R.take k++c:=by
 unfold splice;rw [← List.append_assoc,List.take_append_of_le_length (by simp;omega),List.take_of_length_le (by simp;omega)]
theorem jv {R c:List Int} (k:Nat) (hR:aY R) (hc:aY c):aY (splice R k c):=aP (jz hR _) (aP hc (jy hR _))
theorem xL {M R c:List Int} (h:Rest M R) (hc:aY c) (hl:M.length % 64+c.length<64) :
  Rest (M++c) (splice R (M.length % 64) c)∧(M++c).length / 64=M.length / 64∧(M++c).length % 64=M.length % 64+c.length∧iG (M++c) ((M++c).length / 64)=iG M (M.length / 64):=by
 obtain ⟨h1,h2,h3⟩:=h;have e1:(M++c).length / 64=M.length / 64:=by rw [List.length_append];omega
 have e2:(M++c).length % 64=M.length % 64+c.length:=by rw [List.length_append];omega
 refine ⟨⟨by rw [gK _ _ _ (by omega),h1],jv _ h2 hc,?_⟩,e1,e2,?_⟩
 ·rw [e1,e2,kR _ _ _ (by omega),h3,List.drop_append_of_le_length (by omega)]
 ·rw [e1];exact wZ M c _ (by omega)
theorem yo {M R c:List Int} (h:Rest M R) (hc:aY c) (hl:M.length % 64+c.length=64) :
  Rest (M++c) (splice R (M.length % 64) c)∧(M++c).length % 64=0∧iG (M++c) ((M++c).length / 64)=tk (iG M (M.length / 64)) (fun i=>(splice R (M.length % 64) c).getD i 0):=by
 obtain ⟨h1,h2,h3⟩:=h;have e1:(M++c).length / 64=M.length / 64+1:=by rw [List.length_append];omega
 have e2:(M++c).length % 64=0:=by rw [List.length_append];omega
 have hs:splice R (M.length % 64) c=(M++c).drop (64*(M.length / 64)):=by
  have:=kR R (M.length % 64) c (by omega);rw [hl,List.take_of_length_le (by rw [gK _ _ _ (by omega)];omega)] at this;rw [this,h3,List.drop_append_of_le_length (by omega)]
 refine ⟨⟨by rw [gK _ _ _ (by omega),h1],jv _ h2 hc,?_⟩,e2,?_⟩
 ·rw [e2,e1,List.take_zero,List.drop_eq_nil_of_le (by rw [List.length_append];omega)]
 ·rw [e1,iG,wZ M c _ (by omega)];refine si _ _ _ (fun i hi=>?_);unfold row;rw [hs];simp [List.getD_eq_getElem?_getD]
theorem ab2 (R:List Int) (h:R.length=64) (hb:aY R):Rest [] R:=⟨h,hb,by simp⟩
attribute [irreducible] iG HC
end ai
end
section
open Go.RowKit
theorem iS {n:Int} (h:ai.okn n=true):n=2∨n=6∨n=7∨n=11∨n=13∨n=17∨n=18∨n=19∨n=22∨n=25:=by
 simp [ai.okn] at h;omega
theorem agM (n:Int) (h:ai.okn n=true):bits .and .u64 (IntKind.u64.wrap (-n)) 31=32-n:=by
 rcases iS h with rfl | rfl | rfl | rfl | rfl | rfl | rfl | rfl | rfl | rfl<;>decide +kernel
theorem aeO (x n:Int) (h:ai.okn n=true) (w:World) :
  qc 119 #[.int .u32 x,.int .i64 (-n)] w fun e w'=>e = .returned (.int .u32 (ai.rr n x))∧w=w':=by
 have hb:=agM n h;have Gp:2≤n∧n≤25:=by rcases iS h with rfl | rfl | rfl | rfl | rfl | rfl | rfl | rfl | rfl | rfl<;>omega
 obtain ⟨h1,h2⟩:=Gp;clear h;have h3:IntKind.u64.wrap (32-(32-n))=n:=by rw [IntWalk.u64_in _ (by omega)];omega
 go_enter func119,ntmps119;go_wp2;go_ret;refine ⟨?_,rfl⟩;unfold ai.rr
 rfl
theorem ku (n x:Int) (h:ai.okn n=true) (w:World) :
  qc 185 #[.int .i64 n,.int .u32 x] w fun e w'=>e = .returned (.int .u32 (ai.rr n x))∧w=w':=by
 have Gp:2≤n∧n≤25:=by rcases iS h with rfl | rfl | rfl | rfl | rfl | rfl | rfl | rfl | rfl | rfl<;>omega
 obtain ⟨h1,h2⟩:=Gp;have H:=qh h;clear h;go_enter func185,ntmps185;go_wp2_with fail
 refine (aeO x n H.out w).mono ?_;rintro e w' ⟨rfl,rfl⟩;go_wp2;go_ret;exact ⟨rfl,rfl⟩
end
section
open Go.RowKit
namespace ai
def zs (n:Nat):Nat:=(119-n % 64) % 64
def lb (n i:Nat):Int:=8*(n:Int) / 2 ^ (56-8*i) % 256
theorem afp (n i:Nat):lb n i=8*(n:Int) / 2 ^ (56-8*i) % 256:=rfl
def lens (n:Nat):List Int:=[lb n 0,lb n 1,lb n 2,lb n 3,lb n 4,lb n 5,lb n 6,lb n 7]
def jk (n z k:Nat):List Int:=(128 :: List.replicate z 0)++((lens n).take k++List.replicate (8-k) 0)
def pad (n:Nat):List Int:=jk n (zs n) 8
theorem zF (n:Nat):pad n=jk n (zs n) 8:=rfl
theorem abV (n k:Nat) (h:k<8):(lens n)[k]?=some (lb n k):=by
 rcases k with _ | _ | _ | _ | _ | _ | _ | _ | k<;>first | rfl | omega
theorem rK (n z k:Nat) (h:k≤8):(jk n z k).length=1+z+8:=by simp [jk,lens];omega
theorem yS (n z k:Nat) (h:k<8):splice ((jk n z k).map (Value.int .u8)) (1+z+k) [.int .u8 (lb n k)]=(jk n z (k+1)).map (Value.int .u8):=by
 rw [show [Value.int .u8 (lb n k)] = [lb n k].map (Value.int .u8) from rfl];unfold splice;rw [← List.map_take,← List.map_drop,← List.map_append,← List.map_append];congr 1;unfold jk;have e1:(128 :: List.replicate z (0:Int)).length=1+z:=by simp;omega
 have e2:((lens n).take k).length=k:=by simp [lens];omega
 have e3:(lens n).take (k+1)=(lens n).take k++[lb n k]:=by rw [List.take_add_one,abV n k h];rfl
 have e4:8-k=(8-(k+1))+1:=by omega
 simp only [List.map_cons,List.map_nil,List.length_cons,List.length_nil];rw [List.take_append,List.drop_append,e1,List.take_append,List.drop_append,e2,List.take_of_length_le (by omega),List.drop_eq_nil_of_le (by omega),
  show 1+z+k-(1+z)=k by omega,show 1+z+k+(0+1)-(1+z)=k+1 by omega,List.take_of_length_le (by omega),List.drop_eq_nil_of_le (by omega:((lens n).take k).length≤k+1),e3,e4]
 simp [List.replicate_succ]
theorem agx (n i:Nat):0≤lb n i∧lb n i≤255:=by unfold lb;omega
theorem wu (n:Nat):aY (pad n):=by
 intro x hx;simp only [pad,jk,lens,List.mem_append,List.mem_cons,List.mem_replicate,List.take_succ_cons,List.take_nil] at hx;have q:∀ i,0≤lb n i∧lb n i≤255:=agx n;rcases hx with (rfl | ⟨_,rfl⟩) | (rfl | rfl | rfl | rfl | rfl | rfl | rfl | rfl | h) | ⟨_,rfl⟩
 all_goals first | exact q _ | omega | (cases h)
theorem iB (n:Nat):(pad n).length=zs n+9:=by unfold pad;rw [rK _ _ _ (by omega)];omega
theorem aci (n:Nat):(n+(pad n).length) % 64=0:=by rw [iB];unfold zs;omega
def St.ints (s:St):List Int:=[s.a,s.b,s.c,s.d,s.e,s.f,s.g,s.h]
theorem St.ah7 (s:St) (k:Nat) (h:k<8):s.l[k]?=some (.int .u32 (s.ints.getD k 0)):=by
 rcases k with _ | _ | _ | _ | _ | _ | _ | _ | k<;>first | rfl | omega
def b4 (x:Int):List Int:=[x / 16777216 % 256,x / 65536 % 256,x / 256 % 256,x % 256]
def rX (s:St) (k:Nat):List Int:=(s.ints.take k).flatMap b4++List.replicate (32-4*k) 0
theorem zo (l:List Int):(l.flatMap b4).length=4*l.length:=by
 induction l with
 | nil=>rfl
 | cons x r ih=>simp [List.flatMap_cons,ih,b4];omega
theorem qD (s:St) (k:Nat) (h:k≤8):(rX s k).length=32:=by
 unfold rX;rw [List.length_append,zo,List.length_take,List.length_replicate];simp [St.ints];omega
theorem aaF (s:St) (k:Nat) (h:k<8):((((rX s k).set (4*k) (s.ints.getD k 0 / 16777216 % 256)).set (4*k+1) (s.ints.getD k 0 / 65536 % 256)).set (4*k+2) (s.ints.getD k 0 / 256 % 256)).set (4*k+3) (s.ints.getD k 0 % 256)=rX s (k+1):=by
 rcases k with _ | _ | _ | _ | _ | _ | _ | _ | k
 iterate 8 (· simp [rX,St.ints,b4,List.replicate_succ])
 omega
def dg (L:List Int):List Int:=rX (iG (L++pad L.length) ((L++pad L.length).length / 64)) 8
theorem acr (s:St):rX s 0=List.replicate 32 0:=by simp [rX]
theorem ae9 (L:List Int):dg L=rX (iG (L++pad L.length) ((L++pad L.length).length / 64)) 8:=rfl
attribute [irreducible] jk pad lb rX dg
end ai
end
section
open Go.RowKit
theorem lh (w:World) (A B C:Obj):(((w.alloc A).alloc B).alloc C).heap[w.heap.size]?=some A:=by
 rw [heap_alloc_old _ _ (by simp;omega)];exact heap_alloc2_old w A B
theorem jX (w:World) (A B C:Obj):(((w.alloc A).alloc B).alloc C).heap[w.heap.size+1]?=some B:=by
 rw [heap_alloc_old _ _ (by simp)];exact heap_alloc2_new w A B
theorem iD (w:World) (A B C:Obj):(((w.alloc A).alloc B).alloc C).heap[w.heap.size+2]?=some C:=by
 have h:=heap_alloc_new ((w.alloc A).alloc B) C;have e:((w.alloc A).alloc B).heap.size=w.heap.size+2:=by simp
 rwa [e] at h
structure bJ (g:Nat) (w w':World):Prop where
 os:w'.os=w.os
 tape:w'.tape=w.tape
 output:w'.output=w.output
 size:w'.heap.size=w.heap.size
 block:∀ k,k ≠ g→w'.heap[k]?=w.heap[k]?
theorem bJ.setRow (w:World) (g:Nat) (cs:Array Value):bJ g w (w.setRow g cs):=⟨rfl,rfl,rfl,by simp,fun k hk=>setRow_other w g k cs hk⟩
theorem bJ.setCell (w:World) (a:Addr) (v:Value):bJ a.block w (w.setCell a v):=⟨rfl,rfl,rfl,by simp,fun k hk=>heap_setCell_other w a k v hk⟩
theorem bJ.below {g B:Nat} {w0 w w':World} (h:bJ g w w') (hb:Below B w0 w) (hg:B≤g):Below B w0 w' :=
 hb.trans ⟨h.os,h.tape,h.output,by rw [h.size];exact Nat.le_refl _,fun k hk=>h.block k (by omega)⟩
theorem aiD (k:IntKind) (a b c d e f g h:Int):(#[Value.int k a,.int k b,.int k c,.int k d,.int k e,.int k f,.int k g,.int k h]:Array Value).all (·.oneCell')=true:=by
 refine Array.all_eq_true_iff_forall_mem.2 (fun v hv=>?_);simp at hv;rcases hv with rfl | rfl | rfl | rfl | rfl | rfl | rfl | rfl<;>rfl
section
variable {P:Program} {ops:Array Oper} {rest:List Oper} {a:Act} {w:World} {Q:Exit→Act→World→Prop} {D:Option Tmp} {T:TypeId} {ps:String} {af:Array Edge}
theorem ay (ty:TypeId) (x:Operand) (g:Nat) (t:TypeId) (cs:Array Value) (fr:Nat × Nat) (d:TypeDesc) (hx:a.eval x = qp g) (hg:w.heap[g]?=some (.cells cs t fr))
  (hu:P.underlying ty=some d) (hd:d.isRow=true) (hi:(P.info? ty).map (·.size)=some cs.size)
  (h:wpList P ops Q rest (a.put D (.agg cs)) w):wpList P ops Q ({ dst:=D,op:=.load ty x,type:=T,pos:=ps,after:=af,guard:=none } :: rest) a w :=
 wpList_load_mid rfl ty x rfl g 0 hx cs.toList d (fun j v hv=>by rw [cell_of_row w g (0+j) cs t fr hg];simpa using hv) hu hd (by simpa using hi) (by simpa using h)
theorem abH (ty:TypeId) (x:Operand) (g o:Nat) (t:TypeId) (C:Array Value) (cs:List Value) (fr:Nat × Nat) (d:TypeDesc) (hx:a.eval x = .pointer (some ⟨g,o,none⟩)) (hg:w.heap[g]?=some (.cells C t fr))
  (hc:∀ j v,cs[j]?=some v→C[o+j]?=some v) (hu:P.underlying ty=some d) (hd:d.isRow=true) (hi:(P.info? ty).map (·.size)=some cs.length)
  (h:wpList P ops Q rest (a.put D (.agg cs.toArray)) w):wpList P ops Q ({ dst:=D,op:=.load ty x,type:=T,pos:=ps,after:=af,guard:=none } :: rest) a w :=
 wpList_load_mid rfl ty x rfl g o hx cs d (fun j v hv=>by rw [cell_of_row w g (o+j) C t fr hg];exact hc j v hv) hu hd hi h
theorem fY (ty:TypeId) (x y:Operand) (g o:Nat) (t:TypeId) (av cells:Array Value) (hx:a.eval x = .pointer (some ⟨g,o,none⟩)) (hy:a.eval y = .agg cells) (hg:w.heap[g]?=some (.cells av t (0,0)))
  (hi:(P.info? ty).map (·.size)=some cells.size) (hs:o+cells.size≤av.size) (h1:cells.all (·.oneCell')=true)
  (h:∀ w',Hid (w'.heap[g]?=some (.cells (av.toList.take o++cells.toList++av.toList.drop (o+cells.size)).toArray t (0,0)))→bJ g w w'→wpList P ops Q rest a w') :
  wpList P ops Q ({ dst:=none,op:=.store ty x y,type:=T,pos:=ps,after:=af,guard:=none } :: rest) a w :=
 wpList_plain rfl fun _ hK=>by
  have DO:=run_storeCells_at P g o t cells.toList 0 av w hg (by simpa using hs) (fun v hv=>(Array.all_eq_true_iff_forall_mem.1 h1) v (by simpa using hv));have Pu:(storeVar ty ⟨g,o,none⟩ (.agg cells)).run P w = .ok () (w.setRow g (av.toList.take o++cells.toList++av.toList.drop (o+cells.size)).toArray):=by
   cases hq:P.info? ty with
   | none=>simp [hq] at hi
   | some i =>
    have hs:cells.size=i.size:=by simp [hq] at hi;omega
    simp only [Nat.add_zero,Array.length_toList] at DO;simp [storeVar,sizeOf,typeInfo,hq,Value.cells,hs] at DO ⊢;rw [DO]
  unfold Oper.wp execOp;simp only [hx,hy,Instr.storeAt,Instr.sureAddr,Sem.run_bind,Sem.run_pure,Result.andThen_ok,Pu];exact hK _ _ (h _ (setRow_heap w g av _ t (0,0) hg) (bJ.setRow w g _))
theorem ak (ty:TypeId) (x y:Operand) (g:Nat) (t:TypeId) (av cells:Array Value) (hx:a.eval x = qp g) (hy:a.eval y = .agg cells) (hg:w.heap[g]?=some (.cells av t (0,0)))
  (hi:(P.info? ty).map (·.size)=some cells.size) (hs:cells.size=av.size) (h1:cells.all (·.oneCell')=true)
  (h:∀ w',Hid (w'.heap[g]?=some (.cells cells t (0,0)))→bJ g w w'→wpList P ops Q rest a w') :
  wpList P ops Q ({ dst:=none,op:=.store ty x y,type:=T,pos:=ps,after:=af,guard:=none } :: rest) a w :=
 fY ty x y g 0 t av cells hx hy hg hi (by omega) h1 (fun w' h1' h2'=>h w' (show _=_ by have:=h1'.out;rw [this,hs];congr 2;apply Array.ext';simp) h2')
theorem jR (d s:Operand) (dT sT:TypeId) (elem:TypeId) (g off dLen dCap:Nat) (ad:Addr) (sLen sCap:Nat) (t:TypeId) (cur cs:List Value)
  (hd:a.eval d = .slice (some ⟨g,off,none⟩) dLen dCap) (hs:a.eval s = .slice (some ad) sLen sCap) (hg:w.heap[g]?=some (.cells cur.toArray t (0,0)))
  (hu:P.underlying dT=some (.slice elem)) (Bj:(P.info? elem).map (·.size)=some 1) (hn:cs.length=Nat.min sLen dLen)
  (hsrc:∀ j v,cs[j]?=some v→w.cell? (ad.add j)=some v) (CZ:off+cs.length≤cur.length) (h1:∀ v∈cs,v.oneCell'=true)
  (h:∀ w',Hid (w'.heap[g]?=some (.cells (splice cur off cs).toArray t (0,0)))→bJ g w w'→wpList P ops Q rest (a.put D (goInt cs.length)) w') :
  wpList P ops Q ({ dst:=D,op:=.call { callee:=.builtin .copy,args:=#[d,s],argTypes:=#[dT,sT] },type:=T,pos:=ps,after:=af,guard:=none } :: rest) a w :=
 wpList_copy_own rfl d s dT sT rfl elem hu Bj g off dLen dCap ad sLen sCap hd hs cur.toArray t hg cs hn hsrc (by simpa using CZ) h1
  (h _ (show _=_ by have:=setRow_heap w g cur.toArray (cur.take off++(cs++cur.drop (off+cs.length))).toArray t (0,0) hg;simpa [splice] using this) (bJ.setRow w g _))
end
structure aE (g:Nat) (w w':World):Prop where
 os:w'.os=w.os
 tape:w'.tape=w.tape
 output:w'.output=w.output
 size:w.heap.size≤w'.heap.size
 block:∀ k,k<w.heap.size→k ≠ g→w'.heap[k]?=w.heap[k]?
theorem aE.refl (g:Nat) (w:World):aE g w w:=⟨rfl,rfl,rfl,Nat.le_refl _,fun _ _ _=>rfl⟩
theorem aE.trans {g:Nat} {a b c:World} (h:aE g a b) (k:aE g b c):aE g a c :=
 ⟨k.os.trans h.os,k.tape.trans h.tape,k.output.trans h.output,Nat.le_trans h.size k.size,fun i hi hg=>(k.block i (Nat.lt_of_lt_of_le hi h.size) hg).trans (h.block i hi hg)⟩
theorem aE.drew {g:Nat} {w w':World} (h:aE g w w'):aE g w w'.drew:=⟨h.os,h.tape,h.output,h.size,h.block⟩
theorem bJ.only {g:Nat} {w w':World} (h:bJ g w w'):aE g w w':=⟨h.os,h.tape,h.output,by rw [h.size];exact Nat.le_refl _,fun k _ hk=>h.block k hk⟩
theorem cC {g:Nat} {w w':World} (h:qw w w'):aE g w w':=⟨h.os,h.tape,h.output,h.size,fun k hk _=>h.block k hk⟩
theorem aE.alloc {g:Nat} {w w':World} (h:aE g w w') (o:Obj):aE g w (w'.alloc o) :=
 h.trans ⟨rfl,rfl,rfl,by simp,fun k hk _=>heap_alloc_old w' o hk⟩
theorem aE.below {g B:Nat} {w0 w w':World} (h:aE g w w') (hb:Below B w0 w) (hg:B≤g) (hB:B≤w.heap.size):Below B w0 w' :=
 hb.trans ⟨h.os,h.tape,h.output,h.size,fun k hk=>h.block k (by omega) (by omega)⟩
theorem aE.cell {g:Nat} {w w':World} (h:aE g w w') {b o:Nat} {v:Value} (hb:b ≠ g) (hc:w.cell? ⟨b,o,none⟩=some v):w'.cell? ⟨b,o,none⟩=some v:=by
 rw [World.cell?_of_block (h.block b (World.block_lt_of_cell? w _ hc) hb)];exact hc
theorem bJ.trans {g:Nat} {a b c:World} (h:bJ g a b) (k:bJ g b c):bJ g a c :=
 ⟨k.os.trans h.os,k.tape.trans h.tape,k.output.trans h.output,k.size.trans h.size,fun i hi=>(k.block i hi).trans (h.block i hi)⟩
theorem bJ.refl (g:Nat) (w:World):bJ g w w:=⟨rfl,rfl,rfl,rfl,fun _ _=>rfl⟩
theorem bJ.setCells (g:Nat):∀ (vs:List Value) (o:Nat) (w:World),bJ g w (w.setCells g o vs)
 | [],_,w=>bJ.refl g w
 | v :: r,o,w=>(bJ.setCell w ⟨g,o,none⟩ v).trans (bJ.setCells g r (o+1) _)
theorem eC (g:Nat) (t:TypeId):∀ (vs:List Value) (o:Nat) (cur:List Value) (w:World),w.heap[g]?=some (.cells cur.toArray t (0,0))→o+vs.length≤cur.length →
  (w.setCells g o vs).heap[g]?=some (.cells (splice cur o vs).toArray t (0,0))
 | [],o,cur,w,hg,_=>by simpa [World.setCells,splice] using hg
 | v :: r,o,cur,w,hg,hl=>by
  have h1:=heap_setCell_same w g o cur.toArray t v hg;have e:cur.toArray.setIfInBounds o v=(cur.set o v).toArray:=by apply Array.ext';simp
  rw [e] at h1;have:=eC g t r (o+1) (cur.set o v) _ h1 (by simp at hl ⊢;omega);rw [World.setCells,this];have q:=list_seg_step cur o v r (by simp at hl;omega);simp only [splice,List.length_cons];rw [← List.append_assoc,q];simp
section
variable {P:Program} {md:Region.Mode} {ops:Array Oper} {Q:Exit→Act→World→Prop} {fuel:Nat} {listed:Array Bool} {a:Act} {w:World}
theorem aU (i:Nat) (hr:Region.ready md ops listed = [i]) (h:wpOp P ops Q i (wpAny P md ops Q fuel (listed.setIfInBounds i true)) a w):wpAny P md ops Q (fuel+1) listed a w :=
 wpAny_all hr (by simp) (fun j hj=>by simp at hj;subst hj;exact h)
theorem jN (i j:Nat) (hr:Region.ready md ops listed = [i,j]) (h:wpOp P ops Q i (wpAny P md ops Q fuel (listed.setIfInBounds i true)) a w)
  (h2:wpOp P ops Q j (wpAny P md ops Q fuel (listed.setIfInBounds j true)) a w):wpAny P md ops Q (fuel+1) listed a w :=
 wpAny_all hr (by simp) (fun k hk=>by simp at hk;rcases hk with rfl | rfl<;>assumption)
theorem db (i D:Nat) (v:Value) {op:Op} {T:TypeId} {ps:String} {af:Array Edge} (ho:ops[i]?=some { dst:=some D,op:=op,type:=T,pos:=ps,after:=af,guard:=none })
  (hs:Region.noSelect ops=true) (hf:Region.free md ops listed i=true) (hr:(Region.ready md ops listed).contains i=true)
  (hQ:∀ c a w,Q (.panic c) (a.put (some D) v) w→Q (.panic c) a w) (hy:∀ w,(execOp a.eval { dst:=some D,op:=op,type:=T,pos:=ps,after:=af,guard:=none }).run P w = .ok (.value v) w)
  (h:wpAny P md ops Q fuel (listed.setIfInBounds i true) (a.put (some D) v) w):wpAny P md ops Q (fuel+1) listed a w :=
 wpAny_take (oi:={ dst:=some D,op:=op,type:=T,pos:=ps,after:=af,guard:=none }) ho hs hf hr hQ (Or.inl ⟨rfl,hy⟩) h
theorem ga {K:Act→World→Prop} (i:Nat) (o:Oper) (ho:ops[i]?=some o) (hg:o.guard=none) (h:Oper.wp P o a w K Q):wpOp P ops Q i K a w:=by
 unfold wpOp;rw [ho];simp only [Region.wanted,hg,if_true];exact Or.inl h
theorem dV {K:Act→World→Prop} (i:Nat) (ty:TypeId) (x:Operand) {D:Option Tmp} {T:TypeId} {ps:String} {af:Array Edge} (ho:ops[i]?=some { dst:=D,op:=.load ty x,type:=T,pos:=ps,after:=af,guard:=none })
  (b o:Nat) (cs:List Value) (d:TypeDesc) (hx:a.eval x = .pointer (some ⟨b,o,none⟩)) (hc:w.rangeAt b o cs)
  (hu:P.underlying ty=some d) (hd:d.isRow=true) (hi:(P.info? ty).map (·.size)=some cs.length) (h:K (a.put D (.agg cs.toArray)) w):wpOp P ops Q i K a w :=
 ga i _ ho rfl (wp_load_mid ty x rfl b o hx cs d hc hu hd hi h)
theorem bD {K:Act→World→Prop} (i:Nat) (ty:TypeId) (x y:Operand) {T:TypeId} {ps:String} {af:Array Edge} (ho:ops[i]?=some { dst:=none,op:=.store ty x y,type:=T,pos:=ps,after:=af,guard:=none })
  (g o:Nat) (t:TypeId) (cur:List Value) (cells:Array Value) (hx:a.eval x = .pointer (some ⟨g,o,none⟩)) (hy:a.eval y = .agg cells) (hg:w.heap[g]?=some (.cells cur.toArray t (0,0)))
  (hi:(P.info? ty).map (·.size)=some cells.size) (hs:o+cells.size≤cur.length) (h1:cells.all (·.oneCell')=true)
  (h:∀ w',Hid (w'.heap[g]?=some (.cells (splice cur o cells.toList).toArray t (0,0)))→bJ g w w'→K a w'):wpOp P ops Q i K a w :=
 ga i _ ho rfl (by
  have ht:w.there g o cells.size:=fun j hj=>by
   refine ⟨?_,frozen_of_row w g (o+j) _ _ hg⟩;rw [cell_of_row w g (o+j) _ _ _ hg];simp;omega
  refine wp_store_mid ty x y rfl g o cells hx hy ht hi h1 ?_;exact h _ (eC g t cells.toList o cur w hg (by simpa using hs)) (bJ.setCells g _ _ _))
end
end
section
open Go.RowKit
section
variable {P:Program} {ops:Array Oper} {rest:List Oper} {a:Act} {w:World} {Q:Exit→Act→World→Prop} {D:Option Tmp} {T:TypeId} {ps:String} {af:Array Edge}
theorem o8 (t e:TypeId) (x y:Operand) (z:Value) (bytes l c:Nat) (hx:a.eval x = .int .i64 (l:Int)) (hy:a.eval y = .int .i64 (c:Int)) (hu:P.underlying t=some (.slice e))
  (hi:(P.info? e).map (fun i=>(i.zero,i.size,i.bytes))=some (some z,1,bytes)) (hz:z.cells = #[z]) (Uq:l≤c) (hb:bytes*c≤281474976710656) (hc:c≤9223372036854775807)
  (h:∀ w',Hid (w'.heap[w.heap.size]?=some (.cells (List.replicate c z).toArray e (0,0)))→qw w w'→Hid (w'.heap.size=w.heap.size+1)→wpList P ops Q rest (a.put D (.slice (some ⟨w.heap.size,0,none⟩) l c)) w') :
  wpList P ops Q ({ dst:=D,op:=.makeSlice t x y,type:=T,pos:=ps,after:=af,guard:=none } :: rest) a w :=
 wpList_plain rfl fun K hK=>by
  obtain ⟨i,Gl,Is,JY,Nj⟩:=info_parts hi;have Am:=run_make (P:=P) w t e i z hu Gl Is .i64 .i64 l c (by omega) (by omega) (by rw [Nj];omega) (by omega);rw [JY,hz,Nat.mul_one] at Am;have hl:(madeCells #[z] c).toList=List.replicate c z:=toList_madeCells_one z c;have e2:madeCells #[z] c=(List.replicate c z).toArray:=by rw [← hl,Array.toArray_toList]
  unfold Oper.wp execOp;simp only [hx,hy,Am,Sem.run_bind,Sem.run_pure,Result.andThen_ok,Int.toNat_natCast,e2];exact hK _ _ (h _ (heap_alloc_new w _) (qb w _) (by show _=_;simp))
theorem xK (s x:Operand) (t e:TypeId) (g n cap:Nat) (cur:List Value) (ad:Addr) (m:Nat) (u:Value) (hs:a.eval s = .slice (some ⟨g,0,none⟩) n cap) (hx:a.eval x = .slice (some ad) 1 m) (hg:w.heap[g]?=some (.cells cur.toArray e (0,0)))
  (hu:P.underlying t=some (.slice e)) (hi:(P.info? e).map (·.size)=some 1) (hn:w.cell? ad=some u) (h1:u.oneCell'=true) (Mo:n+1≤cap) (CZ:n+1≤cur.length)
  (h:∀ w',Hid (w'.heap[g]?=some (.cells (splice cur n [u]).toArray e (0,0)))→bJ g w w'→wpList P ops Q rest (a.put D (.slice (some ⟨g,0,none⟩) (n+1) cap)) w') :
  wpList P ops Q ({ dst:=D,op:=.call { callee:=.builtin .append,args:=#[s,x],argTypes:=#[t,t] },type:=T,pos:=ps,after:=af,guard:=none } :: rest) a w :=
 wpList_plain rfl fun K hK=>by
  cases hq:P.info? e with
  | none=>simp [hq] at hi
  | some i =>
   have Bj:i.size=1:=by simpa [hq] using hi
   have JT:ad.add 0=ad:=by simp [Addr.add]
   have Am:=run_append_room (P:=P) w t T e i hu hq g n cap cur.toArray hg ad 1 m [u] (by simp [Bj]) (fun j v hv=>by
    cases j with
    | zero=>simp at hv;subst hv;rw [JT];exact hn
    | succ j=>simp at hv) (by simpa using h1) Mo (by simp [Bj];omega)
   unfold Oper.wp;simp [execOp,resolve,invoke,builtin,hs,hx,Am,Result.andThen];refine hK _ _ ?_;have Ng:=bJ.setRow w g (cur.toArray.toList.take (n*i.size)++[u]++cur.toArray.toList.drop (n*i.size+1)).toArray;have hh:=setRow_heap w g cur.toArray (cur.toArray.toList.take (n*i.size)++[u]++cur.toArray.toList.drop (n*i.size+1)).toArray e (0,0) hg;simp only [Bj,Nat.mul_one] at Ng hh ⊢;refine h _ ?_ (by simpa using Ng);show _=_;simpa [splice] using hh
end
end
section
open Go.RowKit
end
section
open Go.RowKit
theorem zR (l:List Int):(ai.wa l).all (·.oneCell')=true:=by
 refine Array.all_eq_true_iff_forall_mem.2 (fun v hv=>?_);simp only [ai.wa,List.mem_toArray,List.mem_append,List.mem_map,List.mem_replicate] at hv;rcases hv with ⟨x,_,rfl⟩ | ⟨_,rfl⟩<;>rfl
theorem Tryz.qM:(prog.info? 223).map (·.size)=some 64:=by kernel_rfl
def iO (w wr:World) (cs Z W:Array Value):Prop :=
 wr.heap[w.heap.size]?=some (.cells cs 158 (0,0))∧wr.heap[w.heap.size+1]?=some (.cells Z 223 (0,0))∧wr.heap[w.heap.size+2]?=some (.cells W 223 (0,0))∧qw w wr∧wr.heap.size=w.heap.size+3
theorem iO.step {w wr:World} {cs Z:Array Value} {l:List Int} (h:iO w wr cs Z (ai.wa l)) (k:Nat) (hk:l.length=k) (hl:k<64) (x:Int) :
  iO w ((wr.setCell ⟨w.heap.size+1+1,k,none⟩ (.int .u32 x)).drew) cs Z (ai.wa (l++[x])):=by
 obtain ⟨h1,h2,h3,h4,h5⟩:=h;subst hk;refine ⟨?_,?_,?_,?_,?_⟩
 ·rw [heap_drew,heap_setCell_other _ _ _ _ (by simp;omega)];exact h1
 ·rw [heap_drew,heap_setCell_other _ _ _ _ (by simp)];exact h2
 ·rw [heap_drew,heap_setCell_same wr (w.heap.size+2) l.length _ _ _ h3,ai.oT l x hl]
 ·exact ((h4.setCell (by simp;omega) _).drew)
 ·simpa using h5
theorem yP (cs:Array Value) (r:Nat→Int) (A7:∀ i,i<64→cs[i]?=some (.int .u8 (r i))) (hr:∀ i,i<64→0≤r i∧r i≤255) (w:World) :
  qc 184 #[.agg cs] w fun e w'=>e = .returned (.agg (ai.wa (ai.wl r 64)))∧qw w w':=by
 have Hcs:=qh A7;clear A7;have Hr:=qh hr;clear hr;go_enter func184,ntmps184;go_wp2;go_loopw [10] (fun i wr=>∃ k:Nat,k≤16∧i = .int .i64 k∧iO w wr cs (ai.wa []) (ai.wa (ai.wl r k))) (fun i _=>16-(intOf i).toNat)
 case atStart =>
  refine ⟨0,by omega,rfl,?_,?_,?_,?_,?_⟩
  ·exact lh w _ _ _
  ·rw [ai.pJ];exact jX w _ _ _
  ·rw [ai.wl,ai.pJ];exact iD w _ _ _
  ·exact ((qb _ _).alloc (by simp) _).alloc (by simp;omega) _
  ·simp
 case round =>
  obtain ⟨k,hk,rfl,Ca⟩:=hrel;obtain ⟨h1,h2,h3,h4,h5⟩:=id Ca;have B:=qh Ca;clear Ca;by_cases Ae:k<16
  ·have c0:=(cell_of_row wr w.heap.size (4*k) cs _ _ h1).trans (Hcs.out (4*k) (by omega));have c1:=(cell_of_row wr w.heap.size (4*k+1) cs _ _ h1).trans (Hcs.out (4*k+1) (by omega));have c2:=(cell_of_row wr w.heap.size (4*k+2) cs _ _ h1).trans (Hcs.out (4*k+2) (by omega));have c3:=(cell_of_row wr w.heap.size (4*k+3) cs _ _ h1).trans (Hcs.out (4*k+3) (by omega));obtain ⟨y,hy⟩:=ai.afv (ai.wl r k) k (by rw [ai.ft];omega) (by omega);have cy:=(cell_of_row wr (w.heap.size+1+1) k _ _ _ h3).trans hy;have fy:=frozen_of_row wr (w.heap.size+1+1) k _ _ h3;obtain ⟨p0,q0⟩:=Hr.out (4*k) (by omega);obtain ⟨p1,q1⟩:=Hr.out (4*k+1) (by omega);obtain ⟨p2,q2⟩:=Hr.out (4*k+2) (by omega);obtain ⟨p3,q3⟩:=Hr.out (4*k+3) (by omega);clear h1 h2 h3 h4 h5 hy;go_wp2;go_region
   go_wp2;refine ⟨⟨k+1,by omega,by go_num,?_⟩,by simp [intOf];omega⟩;have:=B.out.step k (ai.ft r k) (by omega) (ai.nA (r (4*k)) (r (4*k+1)) (r (4*k+2)) (r (4*k+3)));rw [show ai.wl r (k+1)=ai.wl r k++[ai.nA (r (4*k)) (r (4*k+1)) (r (4*k+2)) (r (4*k+3))] by simp [ai.wl,Ae]];exact this
  ·have E:k=16:=by omega
   have Bc:16≤k:=by omega
   have B0:iO w wr cs (ai.wa []) (ai.wa (ai.wl r 16)):=by rw [← E];exact B.out
   clear E B Ae h1 h2 h3 h4 h5;have B:=qh B0;clear B0;go_wp2;go_loopw [45] (fun i wr=>∃ k:Nat,k≤48∧i = .int .i64 k∧iO w wr cs (ai.wa []) (ai.wa (ai.wl r (16+k)))) (fun i _=>48-(intOf i).toNat)
   case atStart=>exact ⟨0,by omega,rfl,B.out⟩
   case round =>
    clear B;obtain ⟨j,hj,rfl,Ca⟩:=hrel;obtain ⟨h1,h2,h3,h4,h5⟩:=id Ca;have B:=qh Ca;clear Ca;by_cases Ae:j<48
    ·have c0:=(cell_of_row wr (w.heap.size+1+1) (j+14) _ _ _ h3).trans (ai.gV _ (j+14) (by rw [ai.ft];omega));have c1:=(cell_of_row wr (w.heap.size+1+1) (j+9) _ _ _ h3).trans (ai.gV _ (j+9) (by rw [ai.ft];omega));have c2:=(cell_of_row wr (w.heap.size+1+1) (j+1) _ _ _ h3).trans (ai.gV _ (j+1) (by rw [ai.ft];omega));have c3:=(cell_of_row wr (w.heap.size+1+1) j _ _ _ h3).trans (ai.gV _ j (by rw [ai.ft];omega));obtain ⟨y,hy⟩:=ai.afv (ai.wl r (16+j)) (j+16) (by rw [ai.ft];omega) (by omega);have cy:=(cell_of_row wr (w.heap.size+1+1) (j+16) _ _ _ h3).trans hy;have fy:=frozen_of_row wr (w.heap.size+1+1) (j+16) _ _ h3;clear h1 h2 h3 h4 h5 hy;go_wp2_with (go_at_call 185;refine (ku _ _ (by decide) _).mono ?_;rintro e w' ⟨rfl,rfl⟩)
     go_region
     go_wp2;refine ⟨⟨j+1,by omega,by go_num,?_⟩,by simp [intOf];omega⟩;have DO:=B.out.step (j+16) (by rw [ai.ft];omega) (by omega) (ai.nw ((ai.wl r (16+j)).getD (j+14) 0) ((ai.wl r (16+j)).getD (j+9) 0) ((ai.wl r (16+j)).getD (j+1) 0) ((ai.wl r (16+j)).getD j 0));rw [← ai.wH r j] at DO;simpa [ai.nw,ai.g0,ai.g1] using DO
    ·have E:j=48:=by omega
     have Tb:48≤j:=by omega
     rw [E] at h3;clear E Ae;obtain ⟨A,HA,hA,hZ,hO⟩:∃ A:Array Value,Hid (A=ai.wa (ai.wl r 64))∧Hid (A.size=64)∧Hid ((ai.wa []).size=64)∧Hid (A.all (·.oneCell')=true):=⟨_,rfl,ai.pM _ (by simp [ai.ft]),ai.pM _ (by simp),zR _⟩;have H3:Hid (wr.heap[w.heap.size+2]?=some (.cells A 223 (0,0))):=by rw [HA.out];exact h3
     have H2:=qh h2;have H4:=qh h4;have H5:=qh h5;clear h1 h2 h3 h4 h5 B;go_upto_region 17 with (fail)
     refine wp_region_lit ?_;refine ay _ _ _ _ _ _ _ rfl H3.out underlying223 rfl (by rw [hA.out];exact Tryz.qM) ?_;refine ak _ _ _ _ _ _ _ rfl rfl H2.out (by rw [hA.out];exact Tryz.qM) (by rw [hA.out,hZ.out]) hO.out ?_;intro w2 g2 ch;refine wpList_nil ?_;go_wp2;refine bodyPost_ret (results_cell_row rfl _ _ (w.heap.size+1) 223 A (0,0) _ rfl g2.out underlying223 rfl (by rw [hA.out];exact Tryz.qM)) rfl ⟨by rw [HA.out],ch.below H4.out (by omega)⟩
theorem ae {P:Program} {ty:TypeId} {n:Nat} (h:(P.info? ty).map (·.size)=some n) {A:Array Value} (hA:Hid (A.size=n)):(P.info? ty).map (·.size)=some A.size:=by
 rw [hA.out];exact h
def zD (r:Nat→Int) (w:World) (e:Ending) (w':World):Prop :=
 ∃ A:Array Value,e = .returned (.agg A)∧Hid (A.size=64)∧Hid (A.all (·.oneCell')=true)∧Hid (∀ t,t<64→A[t]?=some (.int .u32 (ai.wd r t)))∧qw w w'
theorem yF (cs:Array Value) (r:Nat→Int) (A7:∀ i,i<64→cs[i]?=some (.int .u8 (r i))) (hr:∀ i,i<64→0≤r i∧r i≤255) (w:World) :
  qc 184 #[.agg cs] w (zD r w) :=
 (yP cs r A7 hr w).mono fun _ _ ⟨he,hb⟩=>⟨_,he,ai.pM _ (by simp [ai.ft]),zR _,fun t ht=>by unfold ai.wd;exact ai.gV _ t (by simpa [ai.ft] using ht),hb⟩
end
end Go.Proofs.YthgjfjmampmiiaaGreatDoor
