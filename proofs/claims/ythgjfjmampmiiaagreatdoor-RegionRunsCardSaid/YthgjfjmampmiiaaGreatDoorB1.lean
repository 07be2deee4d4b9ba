import Derived.Test.YthgjfjmampmiiaaGreatDoorA5
namespace Go.Proofs.YthgjfjmampmiiaaGreatDoor
open Go.Proofs.Tryz
set_option maxHeartbeats 1000000
set_option maxRecDepth 100000
section
open Go.RowKit
namespace ag
theorem ahJ (k:IntKind) (j:Nat) (hj:j≤k.bits) (hk:∀ n:Int,0≤n→n<2 ^ j→k.wrap n=n) (a b:Nat) (ha:a<2 ^ j) (hb:b<2 ^ j):bits .xor k a b=((a ^^^ b:Nat):Int):=by
 have hp:2 ^ j≤2 ^ k.bits:=Nat.pow_le_pow_right (by decide) hj;have SG:a % 2 ^ k.bits=a:=Nat.mod_eq_of_lt (Nat.lt_of_lt_of_le ha hp);have OB:b % 2 ^ k.bits=b:=Nat.mod_eq_of_lt (Nat.lt_of_lt_of_le hb hp);have cast:∀ n:Nat,n<2 ^ j→((n:Nat):Int)<2 ^ j:=fun n h=>by exact_mod_cast h
 simp only [bits,BitVec.ofInt_natCast,BitVec.toNat_xor,BitVec.toNat_ofNat,SG,OB];exact hk _ (Int.natCast_nonneg _) (cast _ (Nat.xor_lt_two_pow ha hb))
theorem fu (a b:Nat) (ha:a<256) (hb:b<256):bits .xor .u8 (a:Int) (b:Int)=((a ^^^ b:Nat):Int) :=
 ahJ .u8 8 (by decide) (fun n h0 h1=>by rw [IntKind.wrap_u8];omega) a b ha hb
theorem sE (n:Int) (h0:0≤n) (h1:n<2 ^ 32):IntKind.u32.wrap n=n:=by rw [IntKind.wrap_u32];omega
theorem gH (a b:Nat) (ha:a<4294967296) (hb:b<4294967296):bits .xor .u32 (a:Int) (b:Int)=((a ^^^ b:Nat):Int) :=
 ahJ .u32 32 (by decide) sE a b ha hb
theorem vI (a b:Nat) (ha:a<4294967296) (hb:b<4294967296):bits .and .u32 (a:Int) (b:Int)=((a &&& b:Nat):Int) :=
 (bits_nat .u32 32 (by decide) sE a b ha hb).1
def w4 (a b c d:Nat):Nat:=a*16777216+b*65536+c*256+d
theorem afg (w:Nat) (_h:w<4294967296):w=w4 (w / 16777216) (w / 65536 % 256) (w / 256 % 256) (w % 256):=by unfold w4;omega
theorem gP (a b c d:Nat) (ha:a<256) (hb:b<256) (hc:c<256) (hd:d<256):w4 a b c d<4294967296:=by unfold w4;omega
theorem abp (a b c d:Nat) (_ha:a<256) (hb:b<256) (hc:c<256) (hd:d<256):w4 a b c d / 16777216=a:=by unfold w4;omega
theorem ab9 (a b c d:Nat) (_ha:a<256) (hb:b<256) (hc:c<256) (hd:d<256):w4 a b c d / 65536 % 256=b:=by unfold w4;omega
theorem acj (a b c d:Nat) (_ha:a<256) (_hb:b<256) (hc:c<256) (hd:d<256):w4 a b c d / 256 % 256=c:=by unfold w4;omega
theorem aan (a b c d:Nat) (_ha:a<256) (_hb:b<256) (_hc:c<256) (hd:d<256):w4 a b c d % 256=d:=by unfold w4;omega
theorem zJ (a b n:Nat):(a ^^^ b) / 2 ^ n=a / 2 ^ n ^^^ b / 2 ^ n:=by
 rw [← Nat.shiftRight_eq_div_pow,← Nat.shiftRight_eq_div_pow,← Nat.shiftRight_eq_div_pow,Nat.shiftRight_xor_distrib]
theorem ab1 (a b n:Nat):(a ^^^ b) % 2 ^ n=a % 2 ^ n ^^^ b % 2 ^ n:=Nat.xor_mod_two_pow
theorem abG (a b n:Nat):(a &&& b) / 2 ^ n=a / 2 ^ n &&& b / 2 ^ n:=by
 rw [← Nat.shiftRight_eq_div_pow,← Nat.shiftRight_eq_div_pow,← Nat.shiftRight_eq_div_pow,Nat.shiftRight_and_distrib]
theorem abN (a b n:Nat):(a &&& b) % 2 ^ n=a % 2 ^ n &&& b % 2 ^ n:=Nat.and_mod_two_pow
theorem x8 {a b:Nat} (ha:a<256) (hb:b<256):a ^^^ b<256:=Nat.xor_lt_two_pow (n:=8) ha hb
theorem jh (a b c d e f g h:Nat) (ha:a<256) (hb:b<256) (hc:c<256) (hd:d<256) (he:e<256) (hf:f<256) (hg:g<256) (hh:h<256) :
  w4 a b c d ^^^ w4 e f g h=w4 (a ^^^ e) (b ^^^ f) (c ^^^ g) (d ^^^ h):=by
 have Ae:w4 a b c d ^^^ w4 e f g h<4294967296:=Nat.xor_lt_two_pow (n:=32) (gP a b c d ha hb hc hd) (gP e f g h he hf hg hh);have p0:=zJ (w4 a b c d) (w4 e f g h) 24;have p1:=zJ (w4 a b c d) (w4 e f g h) 16;have p2:=zJ (w4 a b c d) (w4 e f g h) 8;have q1:=ab1 (w4 a b c d / 2 ^ 16) (w4 e f g h / 2 ^ 16) 8;have q2:=ab1 (w4 a b c d / 2 ^ 8) (w4 e f g h / 2 ^ 8) 8;have q3:=ab1 (w4 a b c d) (w4 e f g h) 8;rw [show (2:Nat) ^ 24=16777216 from rfl,abp a b c d ha hb hc hd,abp e f g h he hf hg hh] at p0;rw [show (2:Nat) ^ 16=65536 from rfl,show (2:Nat) ^ 8=256 from rfl,ab9 a b c d ha hb hc hd,ab9 e f g h he hf hg hh] at q1;rw [show (2:Nat) ^ 8=256 from rfl,acj a b c d ha hb hc hd,acj e f g h he hf hg hh] at q2;rw [show (2:Nat) ^ 8=256 from rfl,aan a b c d ha hb hc hd,aan e f g h he hf hg hh] at q3;rw [afg _ Ae,p0,show (w4 a b c d ^^^ w4 e f g h) / 65536 % 256=b ^^^ f by rw [show (65536:Nat)=2 ^ 16 from rfl,p1];exact q1,
  show (w4 a b c d ^^^ w4 e f g h) / 256 % 256=c ^^^ g by rw [show (256:Nat)=2 ^ 8 from rfl,p2];exact q2,q3]
theorem aaQ (a b c d e f g h:Nat) (ha:a<256) (hb:b<256) (hc:c<256) (hd:d<256) (he:e<256) (hf:f<256) (hg:g<256) (hh:h<256) :
  w4 a b c d &&& w4 e f g h=w4 (a &&& e) (b &&& f) (c &&& g) (d &&& h):=by
 have Ae:w4 a b c d &&& w4 e f g h<4294967296:=Nat.and_lt_two_pow (n:=32) _ (gP e f g h he hf hg hh);have p0:=abG (w4 a b c d) (w4 e f g h) 24;have p1:=abG (w4 a b c d) (w4 e f g h) 16;have p2:=abG (w4 a b c d) (w4 e f g h) 8;have q1:=abN (w4 a b c d / 2 ^ 16) (w4 e f g h / 2 ^ 16) 8;have q2:=abN (w4 a b c d / 2 ^ 8) (w4 e f g h / 2 ^ 8) 8;have q3:=abN (w4 a b c d) (w4 e f g h) 8;rw [show (2:Nat) ^ 24=16777216 from rfl,abp a b c d ha hb hc hd,abp e f g h he hf hg hh] at p0;rw [show (2:Nat) ^ 16=65536 from rfl,show (2:Nat) ^ 8=256 from rfl,ab9 a b c d ha hb hc hd,ab9 e f g h he hf hg hh] at q1;rw [show (2:Nat) ^ 8=256 from rfl,acj a b c d ha hb hc hd,acj e f g h he hf hg hh] at q2;rw [show (2:Nat) ^ 8=256 from rfl,aan a b c d ha hb hc hd,aan e f g h he hf hg hh] at q3;rw [afg _ Ae,p0,show (w4 a b c d &&& w4 e f g h) / 65536 % 256=b &&& f by rw [show (65536:Nat)=2 ^ 16 from rfl,p1];exact q1,
  show (w4 a b c d &&& w4 e f g h) / 256 % 256=c &&& g by rw [show (256:Nat)=2 ^ 8 from rfl,p2];exact q2,q3]
def tb (x:Nat):Nat:=(x &&& 127)*2 ^^^ x / 128*27
theorem jW:∀ x,x<256→tb x<256:=by decide +kernel
def twN (w:Nat):Nat:=(w &&& 2139062143)*2 ^^^ (w / 128 &&& 16843009)*27
theorem eF:∀ x,x<256→(x &&& 127)*2<256∧x / 128*27<256:=by decide +kernel
theorem agF (a b c d:Nat) (ha:a<256) (hb:b<256) (hc:c<256) (hd:d<256):twN (w4 a b c d)=w4 (tb a) (tb b) (tb c) (tb d):=by
 have e1:w4 a b c d &&& 2139062143=w4 (a &&& 127) (b &&& 127) (c &&& 127) (d &&& 127) :=
  aaQ a b c d 127 127 127 127 ha hb hc hd (by omega) (by omega) (by omega) (by omega)
 have e2:w4 a b c d / 128=w4 (a / 128) (a % 128*2+b / 128) (b % 128*2+c / 128) (c % 128*2+d / 128):=by unfold w4;omega
 have one:∀ x y,x<2→y<128→(y*2+x) &&& 1=x:=fun x y hx _=>by rw [Nat.and_one_is_mod];omega
 have e3:w4 a b c d / 128 &&& 16843009=w4 (a / 128) (b / 128) (c / 128) (d / 128):=by
  rw [e2,show (16843009:Nat)=w4 1 1 1 1 from rfl,aaQ _ _ _ _ 1 1 1 1 (by omega) (by omega) (by omega) (by omega) (by omega) (by omega) (by omega) (by omega)];rw [one _ _ (by omega) (by omega),one _ _ (by omega) (by omega),one _ _ (by omega) (by omega),Nat.and_one_is_mod,show a / 128 % 2=a / 128 by omega]
 have s2:∀ p q r s:Nat,w4 p q r s*2=w4 (p*2) (q*2) (r*2) (s*2):=fun p q r s=>by unfold w4;omega
 have s27:∀ p q r s:Nat,w4 p q r s*27=w4 (p*27) (q*27) (r*27) (s*27):=fun p q r s=>by unfold w4;omega
 unfold twN;rw [e1,e3,s2,s27,jh _ _ _ _ _ _ _ _ (eF a ha).1 (eF b hb).1 (eF c hc).1 (eF d hd).1 (eF a ha).2 (eF b hb).2 (eF c hc).2 (eF d hd).2]
 rfl
def mb (a b c d:Nat):Nat:=tb a ^^^ (tb b ^^^ b) ^^^ c ^^^ d
theorem aio {a b c d:Nat} (ha:a<256) (hb:b<256) (hc:c<256) (hd:d<256):mb a b c d<256 :=
 x8 (x8 (x8 (jW a ha) (x8 (jW b hb) hb)) hc) hd
def tw (x:Int):Int:=bits .xor .u32 (bits .and .u32 x 2139062143*2 % 4294967296) (bits .and .u32 (x / 128) 16843009*27 % 4294967296)
def rl (n x:Int):Int:=bits .or .u32 (x*2 ^ n.toNat % 4294967296) (x / 2 ^ (32-n).toNat)
def iw (x:Int):Int:=bits .xor .u32 (bits .xor .u32 (bits .xor .u32 (tw x) (rl 8 (bits .xor .u32 (tw x) x))) (rl 16 x)) (rl 24 x)
def iY (T:List Int) (a b c d:Int):Int :=
 bits .or .u32 (bits .or .u32 (bits .or .u32 (T.getD (a / 16777216 % 256).toNat 0*16777216) (T.getD (b / 65536 % 256).toNat 0*65536)) (T.getD (c / 256 % 256).toNat 0*256)) (T.getD (d % 256).toNat 0)
def nA (a b c d:Int):Int:=bits .or .u32 (bits .or .u32 (bits .or .u32 (a*16777216) (b*65536)) (c*256)) d
def s9 (n x:Int):Int:=bits .or .u8 (x*2 ^ n.toNat % 256) (x / 2 ^ (8-n).toNat)
def zb:Nat→Int→Int→Int→Int
 | 0,p,_,_=>p
 | f+1,p,a,b=>if 0<b then zb f (if 0<bits .and .u8 b 1 then bits .xor .u8 p a else p) (tw a % 256) (b / 2) else p
def pr (a b:Int):Int:=zb 8 0 a b
def sbk (x:Int):Nat→Int
 | 0=>bits .xor .u8 x 99
 | k+1=>bits .xor .u8 (sbk x k) (s9 (k+1) x)
def sb (x:Int):Int:=sbk x 4
structure Sbs where
 l:List Int
 b:Int
 x:Int
def gj:Nat→Sbs
 | 0=>⟨(List.replicate 256 0).set 0 (sb 0),1,1⟩
 | k+1=>⟨(gj k).l.set (gj k).b.toNat (sb (gj k).x),pr (gj k).b 3,pr (gj k).x 246⟩
def TB:List Int:=(gj 255).l
theorem zL (x:Int):0≤sb x∧sb x≤255:=by
 have h:∀ y:Int,0≤IntKind.u8.wrap y∧IntKind.u8.wrap y≤255:=fun y=>by
  simp [IntKind.wrap,IntKind.signed,IntKind.bits];omega
 unfold sb;exact h _
theorem qX (a b:Int):0≤bits .xor .u8 a b∧bits .xor .u8 a b≤255:=by
 have h:∀ y:Int,0≤IntKind.u8.wrap y∧IntKind.u8.wrap y≤255:=fun y=>by
  simp [IntKind.wrap,IntKind.signed,IntKind.bits];omega
 exact h _
theorem vK:∀ (f:Nat) (p a b:Int),(0≤p∧p≤255)→0≤zb f p a b∧zb f p a b≤255
 | 0,p,_,_,h=>h
 | f+1,p,a,b,h=>by
  rw [zb];split
  ·apply vK
   split
   ·exact qX _ _
   ·exact h
  ·exact h
theorem oH (a b:Int):0≤pr a b∧pr a b≤255:=vK 8 0 a b (by omega)
theorem ahG (k:Nat):0≤(gj k).b∧(gj k).b≤255:=by cases k with
 | zero=>exact ⟨by show (0:Int)≤1;omega,by show (1:Int)≤255;omega⟩
 | succ k=>rw [gj];exact oH (gj k).b 3
theorem ah6 (k:Nat):0≤(gj k).x∧(gj k).x≤255:=by cases k with
 | zero=>exact ⟨by show (0:Int)≤1;omega,by show (1:Int)≤255;omega⟩
 | succ k=>rw [gj];exact oH (gj k).x 246
theorem xG (k:Nat):(gj k).l.length=256:=by
 induction k with
 | zero=>rw [gj,List.length_set,List.length_replicate]
 | succ k ih=>rw [gj,List.length_set,ih]
theorem acO (k:Nat):∀ x∈(gj k).l,0≤x∧x≤255:=by
 induction k with
 | zero =>
  intro x hx;rw [gj] at hx;rcases List.mem_or_eq_of_mem_set hx with h | h
  ·rw [List.mem_replicate] at h;omega
  ·rw [h];exact zL 0
 | succ k ih =>
  intro x hx;rw [gj] at hx;rcases List.mem_or_eq_of_mem_set hx with h | h
  ·exact ih x h
  ·rw [h];exact zL _
theorem mr:TB.length=256:=xG 255
theorem abv:∀ x∈TB,0≤x∧x≤255:=acO 255
attribute [irreducible] TB gj sb pr tw rl s9 iw iY nA
end ag
end
section
open Go.RowKit
theorem j9 (x:Int) (w:World) :
  qc 148 #[.int .u32 x] w fun e w'=>e = .returned (.int .u32 (ag.tw x))∧w'=w:=by
 go_enter func148,ntmps148;go_wp2;go_ret;refine ⟨?_,rfl⟩;unfold ag.tw
 rfl
theorem xv (x n:Int) (h:n=8∨n=16∨n=24) (w:World) :
  qc 119 #[.int .u32 x,.int .i64 n] w fun e w'=>e = .returned (.int .u32 (ag.rl n x))∧w'=w:=by
 have h8:bits .and .u64 8 31=8:=by decide +kernel
 have h16:bits .and .u64 16 31=16:=by decide +kernel
 have h24:bits .and .u64 24 31=24:=by decide +kernel
 rcases h with rfl | rfl | rfl
 all_goals
  go_enter func119,ntmps119;go_wp2;go_ret;refine ⟨?_,rfl⟩;unfold ag.rl
  rfl
theorem lN (x:Int) (w:World) :
  qc 235 #[.int .u32 x] w fun e w'=>e = .returned (.int .u32 (ag.iw x))∧w'=w:=by
 go_enter func235,ntmps235;go_wp2_with (first
  | (go_at_call 148;refine (j9 _ _).mono ?_;rintro e w' ⟨rfl,rfl⟩)
  | (go_at_call 119;refine (xv _ _ (by omega) _).mono ?_;rintro e w' ⟨rfl,rfl⟩))
 go_ret;refine ⟨?_,rfl⟩;unfold ag.iw
 rfl
def zc (w:World) (g:Nat) (T:List Int):Prop:=∀ j,j<256→w.cell? ⟨g,j,none⟩=some (.int .u8 (T.getD j 0))∧0≤T.getD j 0∧T.getD j 0≤255
theorem mf (T:List Int) (g:Nat) (a b c d:Int) (w:World) (hT:zc w g T) :
  qc 120 #[qp g,.int .u32 a,.int .u32 b,.int .u32 c,.int .u32 d] w fun e w'=>e = .returned (.int .u32 (ag.iY T a b c d))∧∃ m,w'=w.drewN m:=by
 obtain ⟨k0,e0⟩:∃ k:Nat,a / 16777216 % 256=k:=⟨(a / 16777216 % 256).toNat,by omega⟩;obtain ⟨k1,e1⟩:∃ k:Nat,b / 65536 % 256=k:=⟨(b / 65536 % 256).toNat,by omega⟩;obtain ⟨k2,e2⟩:∃ k:Nat,c / 256 % 256=k:=⟨(c / 256 % 256).toNat,by omega⟩;obtain ⟨k3,e3⟩:∃ k:Nat,d % 256=k:=⟨(d % 256).toNat,by omega⟩;have q0:k0<256:=by omega
 have q1:k1<256:=by omega
 have q2:k2<256:=by omega
 have q3:k3<256:=by omega
 obtain ⟨c0,l0,u0⟩:=hT k0 q0;obtain ⟨c1,l1,u1⟩:=hT k1 q1;obtain ⟨c2,l2,u2⟩:=hT k2 q2;obtain ⟨c3,l3,u3⟩:=hT k3 q3;have HF:Hid (ag.iY T a b c d=bits .or .u32 (bits .or .u32 (bits .or .u32 (T.getD k0 0*16777216) (T.getD k1 0*65536)) (T.getD k2 0*256)) (T.getD k3 0)):=by
  show _=_;unfold ag.iY;rw [e0,e1,e2,e3]
  rfl
 have i0:(k0:Int)<256:=by omega
 have i1:(k1:Int)<256:=by omega
 have i2:(k2:Int)<256:=by omega
 have i3:(k3:Int)<256:=by omega
 clear hT;generalize T.getD k0 0=y0 at *;generalize T.getD k1 0=y1 at *;generalize T.getD k2 0=y2 at *;generalize T.getD k3 0=y3 at *;generalize ag.iY T a b c d=R at *;go_enter func120,ntmps120;go_wp2;go_quiet (fail)
 go_wp2;go_ret;exact ⟨by rw [HF.out];rfl,_,rfl⟩
theorem sr (x0 x1 x2 x3:Int) (b o n c:Nat) (w:World) (hn:4≤n)
  (c0:w.cell? ⟨b,o,none⟩=some (.int .u8 x0)) (c1:w.cell? ⟨b,o+1,none⟩=some (.int .u8 x1)) (c2:w.cell? ⟨b,o+2,none⟩=some (.int .u8 x2)) (c3:w.cell? ⟨b,o+3,none⟩=some (.int .u8 x3))
  (l0:0≤x0∧x0≤255) (l1:0≤x1∧x1≤255) (l2:0≤x2∧x2≤255) (l3:0≤x3∧x3≤255) :
  qc 118 #[.slice (some ⟨b,o,none⟩) n c] w fun e w'=>e = .returned (.int .u32 (ag.nA x0 x1 x2 x3))∧∃ m,w'=w.drewN m:=by
 have HF:Hid (ag.nA x0 x1 x2 x3=bits .or .u32 (bits .or .u32 (bits .or .u32 (x0*16777216) (x1*65536)) (x2*256)) x3):=by
  show _=_;unfold ag.nA
  rfl
 generalize ag.nA x0 x1 x2 x3=R at *;obtain ⟨p0,q0⟩:=l0;obtain ⟨p1,q1⟩:=l1;obtain ⟨p2,q2⟩:=l2;obtain ⟨p3,q3⟩:=l3;have i0:(0:Int)<(n:Int):=by omega
 have i1:(1:Int)<(n:Int):=by omega
 have i2:(2:Int)<(n:Int):=by omega
 have i3:(3:Int)<(n:Int):=by omega
 go_enter func118,ntmps118;go_wp2;go_quiet (fail)
 go_wp2;go_ret;exact ⟨by rw [HF.out];rfl,_,rfl⟩
end
section
open Go.RowKit
theorem abA (x n:Int) (h:n=1∨n=2∨n=3∨n=4) (w:World) :
  qc 147 #[.int .u8 x,.int .i64 n] w fun e w'=>e = .returned (.int .u8 (ag.s9 n x))∧w'=w:=by
 have h1:bits .and .u64 1 7=1:=by decide +kernel
 have h2:bits .and .u64 2 7=2:=by decide +kernel
 have h3:bits .and .u64 3 7=3:=by decide +kernel
 have h4:bits .and .u64 4 7=4:=by decide +kernel
 rcases h with rfl | rfl | rfl | rfl
 all_goals
  go_enter func147,ntmps147;go_wp2;go_ret;refine ⟨?_,rfl⟩;unfold ag.s9
  rfl
theorem kP (a b:Int) (ha:0≤a∧a≤255) (hb:0≤b∧b≤255) (w:World) :
  qc 117 #[.int .u8 a,.int .u8 b] w fun e w'=>e = .returned (.int .u8 (ag.pr a b))∧w'=w:=by
 have HR:Hid (ag.pr a b=ag.zb 8 0 a b):=by show _=_;unfold ag.pr;rfl
 generalize ag.pr a b=R at *;go_enter func117,ntmps117;go_wp2;go_loop [0,1,5] (fun va vb vp=>∃ (f:Nat) (x y p:Int),va = .int .u8 x∧vb = .int .u8 y∧vp = .int .u8 p∧0≤x∧x≤255∧0≤y∧Hid (y<2 ^ f)∧Hid (f≤8)∧Hid (R=ag.zb f p x y)) (fun _ vb _=>(intOf vb).toNat)
 case atStart=>exact ⟨8,a,b,0,rfl,rfl,rfl,ha.1,ha.2,hb.1,(by show _<_;omega),Nat.le_refl _,HR.out⟩
 case round =>
  obtain ⟨f,x,y,p,rfl,rfl,rfl,GU,Jj,Ke,Hf,Hf8,HQ⟩:=hrel;clear HR ha hb;by_cases h0:0<y
  ·obtain ⟨f',rfl⟩:∃ f',f=f'+1:=by
    cases f with
    | zero=>have:=Hf.out;simp at this;omega
    | succ f'=>exact ⟨f',rfl⟩
   have DT:Hid (R=ag.zb f' (if 0<bits .and .u8 y 1 then bits .xor .u8 p x else p) (ag.tw x % 256) (y / 2)):=by
    have h:=HQ.out;rw [ag.zb,if_pos h0] at h;exact h
   have Hf2:Hid (y / 2<2 ^ f'):=by
    have h:=Hf.out;show _<_;rw [Int.pow_succ] at h;omega
   have Hf3:Hid (f'≤8):=by have:=Hf8.out;show _≤_;omega
   clear HQ Hf Hf8;by_cases h1:0<bits .and .u8 y 1
   ·have FZ:Hid (R=ag.zb f' (bits .xor .u8 p x) (ag.tw x % 256) (y / 2)):=by have h:=DT.out;rw [if_pos h1] at h;exact h
    clear DT;go_wp2_with (go_at_call 148;refine (j9 _ _).mono ?_;rintro e w' ⟨rfl,rfl⟩)
    exact ⟨⟨f',ag.tw x % 256,y / 2,bits .xor .u8 p x,rfl,rfl,rfl,by omega,by omega,by omega,Hf2,Hf3,FZ⟩,by simp [intOf];omega⟩
   ·have FZ:Hid (R=ag.zb f' p (ag.tw x % 256) (y / 2)):=by have h:=DT.out;rw [if_neg h1] at h;exact h
    clear DT;go_wp2_with (go_at_call 148;refine (j9 _ _).mono ?_;rintro e w' ⟨rfl,rfl⟩)
    exact ⟨⟨f',ag.tw x % 256,y / 2,p,rfl,rfl,rfl,by omega,by omega,by omega,Hf2,Hf3,FZ⟩,by simp [intOf];omega⟩
  ·have E:Hid (R=p):=by
    have h:=HQ.out;show _=_;cases f with
    | zero=>rw [h];rfl
    | succ f'=>rw [h,ag.zb,if_neg h0]
   clear HQ Hf Hf8;go_wp2;go_ret;exact ⟨by rw [E.out];rfl,rfl⟩
theorem gW (x:Int) (w:World) :
  qc 116 #[.int .u8 x] w fun e w'=>e = .returned (.int .u8 (ag.sb x))∧w'=w:=by
 have HR:Hid (ag.sb x=ag.sbk x 4):=by show _=_;unfold ag.sb;rfl
 generalize ag.sb x=R at *;go_enter func116,ntmps116;go_wp2;go_loop [3,7] (fun vs vn=>∃ (k:Nat) (s:Int),k≤4∧vn = .int .i64 k∧vs = .int .u8 s∧Hid (s=ag.sbk x k)) (fun _ vn=>4-(intOf vn).toNat)
 case atStart=>exact ⟨0,_,by omega,rfl,rfl,(by show _=_;rfl)⟩
 case round =>
  obtain ⟨k,s,hk,rfl,rfl,HS⟩:=hrel;by_cases Ae:k<4
  ·have hn:((k:Int)+1=1∨(k:Int)+1=2∨(k:Int)+1=3∨(k:Int)+1=4):=by omega
   have HN:=qh hn;clear hn;go_wp2_with (go_at_call 147;refine (abA _ _ HN.out _).mono ?_;rintro e w' ⟨rfl,rfl⟩)
   exact ⟨⟨k+1,_,by omega,by go_num,rfl,(by show _=_;rw [HS.out];rfl)⟩,by simp [intOf];omega⟩
  ·have E:Hid (R=s):=by
    have h:=HS.out;show _=_;rw [h,HR.out,show k=4 by omega]
   have Bc:4≤k:=by omega
   clear Ae HS HR;go_wp2;go_ret;exact ⟨by rw [E.out];rfl,rfl⟩
end
section
open Go.RowKit
theorem Tryz.ld:(prog.info? 121).map (·.size)=some 256:=by kernel_rfl
def k6:Array Value:=(List.replicate 256 (Value.int .u8 0)).toArray
theorem Tryz.adI:(prog.info? 121).map (fun i=>(i.zero,i.size))=some (some (.agg k6),256):=by kernel_rfl
theorem wX (l:List Int):∀ v∈l.map (Value.int .u8),v.oneCell'=true:=fun v hv=>by
 rw [List.mem_map] at hv;obtain ⟨x,_,rfl⟩:=hv
 rfl
theorem fe (l:List Int):(l.map (Value.int .u8)).toArray.all (·.oneCell')=true:=by
 refine Array.all_eq_true_iff_forall_mem.2 (fun v hv=>wX l v (by simpa using hv))
theorem cJ {w:World} {g:Nat} {l:List Int} {t:TypeId} {fr:Nat × Nat} (h:w.heap[g]?=some (.cells (l.map (Value.int .u8)).toArray t fr)) (j:Nat) (hj:j<l.length):w.cell? ⟨g,j,none⟩=some (.int .u8 (l.getD j 0)):=by
 rw [cell_of_row w g j _ _ _ h];simp [List.getD_eq_getElem?_getD,hj]
theorem gM {w:World} {g i:Nat} {l:List Int} {x:Int} {t:TypeId} (h:w.heap[g]?=some (.cells (l.map (Value.int .u8)).toArray t (0,0))) :
  (w.setCell ⟨g,i,none⟩ (.int .u8 x)).heap[g]?=some (.cells ((l.set i x).map (Value.int .u8)).toArray t (0,0)):=by
 rw [heap_setCell_same w g i _ _ _ h];congr 2;apply Array.ext'
 simp
theorem ai8:k6=((List.replicate 256 (0:Int)).map (Value.int .u8)).toArray:=by unfold k6;rw [List.map_replicate]
attribute [irreducible] k6
def agv (w:World) (e:Ending) (w':World):Prop:=e = .returned (.agg (ag.TB.map (Value.int .u8)).toArray)∧qw w w'
theorem kW (w:World):qc 72 #[] w (agv w):=by
 have hz:=(zero_of_info Tryz.adI).1;have KH:k6.size=256:=by rw [ai8];simp
 have Cq:¬ k6 = #[]:=by intro h;rw [h] at KH;simp at KH
 have Ad:Hid (k6.setIfInBounds 0 (.int .u8 (ag.sb 0))=((ag.gj 0).l.map (Value.int .u8)).toArray):=by
  show _=_;rw [ai8,ag.gj];apply Array.ext'
  simp
 have Dc:Hid ((k6.setIfInBounds 0 (.int .u8 (ag.sb 0))).size=256):=by show _=_;rw [Array.size_setIfInBounds,KH]
 have Lu:Hid ((k6.setIfInBounds 0 (.int .u8 (ag.sb 0))).all (·.oneCell')=true):=by rw [Ad.out];exact fe _
 have AB:=qh KH;go_enter func72,ntmps72;go_upto_region 2 with (first
  | (go_at_call 116;refine (gW _ _).mono ?_;rintro e w' ⟨rfl,rfl⟩)
  | ((with_reducible refine ak _ _ _ _ _ _ _ ?_ ?_ (heap_alloc2_new w _ _) (ae Tryz.ld Dc) ?_ Lu.out ?_);(exact rfl);(exact rfl);(rw [Dc.out];exact AB.out.symm);intro w2 G2 ch))
 have Ex:Hid (w2.heap.size=w.heap.size+2):=by show _=_;rw [ch.size];simp
 have BU:Hid (w2.heap[w.heap.size]?=some (.cells k6 121 (0,0))):=by show _=_;rw [ch.block _ (by omega)];exact heap_alloc2_old w _ _
 have Bd:Hid (qw w w2):=ch.below ((qb w _).alloc (by simp) _) (by omega);have F4:Hid (w2.heap[w.heap.size+1]?=some (.cells ((ag.gj 0).l.map (Value.int .u8)).toArray 121 (0,0))):=by show _=_;rw [← Ad.out];exact G2.out
 have CY:Hid ((ag.gj 0).b=1∧(ag.gj 0).x=1):=by show _∧_;rw [ag.gj];exact ⟨rfl,rfl⟩
 clear G2 ch Ad Dc Lu KH Cq hz;generalize k6.setIfInBounds 0 (.int .u8 (ag.sb 0))=ZZ;go_wp2;go_loopw [2,3,6] (fun v2 v3 v6 wr=>∃ (k:Nat) (b:Nat) (x:Int),k≤255∧v6 = .int .i64 k∧v2 = .int .u8 b∧v3 = .int .u8 x∧Hid ((b:Int)=(ag.gj k).b)∧Hid (x=(ag.gj k).x)∧Hid (wr.heap[w.heap.size+1]?=some (.cells ((ag.gj k).l.map (Value.int .u8)).toArray 121 (0,0))) ∧
   Hid (wr.heap[w.heap.size]?=some (.cells k6 121 (0,0)))∧Hid (qw w wr)) (fun _ _ v6 _=>255-(intOf v6).toNat)
 case atStart=>exact ⟨0,1,1,by omega,rfl,rfl,rfl,CY.out.1.symm,CY.out.2.symm,F4.out,BU.out,Bd.out⟩
 case round =>
  clear Ex BU Bd F4 CY;obtain ⟨k,b,x,hk,rfl,rfl,rfl,Cs,HX,HG,Cd,HB⟩:=hrel;by_cases Ae:k<255
  ·have Ag:b<256:=by have h:=ag.ahG k;rw [← Cs.out] at h;omega
   have Jj:0≤x∧x≤255:=by rw [HX.out];exact ag.ah6 k
   obtain ⟨GU,hx255⟩:=Jj;have Uk:(b:Int)<256:=by omega
   have c0:=cJ HG.out b (by rw [ag.xG];exact Ag);have f0:=frozen_of_row wr (w.heap.size+1) b _ _ HG.out;generalize (ag.gj k).l.getD b 0=y at c0;have HF:Hid ((ag.gj k).l.set b (ag.sb x)=(ag.gj (k+1)).l):=by
    show _=_;rw [ag.gj,HX.out];show _=(ag.gj k).l.set (ag.gj k).b.toNat _;rw [← Cs.out]
    rfl
   have Ao:Hid (ag.pr b 3=(ag.gj (k+1)).b):=by show _=_;rw [ag.gj,Cs.out]
   have Eb:Hid (ag.pr x 246=(ag.gj (k+1)).x):=by show _=_;rw [ag.gj,HX.out]
   obtain ⟨b3,As⟩:∃ b3:Nat,ag.pr b 3=b3:=⟨(ag.pr b 3).toNat,by have:=ag.oH b 3;omega⟩;rw [As] at Ao;have Hb3:=qh As;clear As;go_wp2_with (first
    | (go_at_call 116;refine (gW _ _).mono ?_;rintro e w' ⟨rfl,rfl⟩)
    | (go_at_call 117;refine (kP _ _ (by omega) (by omega) _).mono ?_;rintro e w' ⟨rfl,rfl⟩))
   refine ⟨⟨k+1,b3,_,by omega,by go_num,by rw [Hb3.out],rfl,Ao,Eb,?_,?_,?_⟩,by simp [intOf];omega⟩
   ·have h:=gM (i:=b) (x:=ag.sb x) HG.out;rw [HF.out] at h;exact h
   ·show _=_;rw [heap_setCell_other _ _ _ _ (by simp)];exact Cd.out
   ·exact HB.out.setCell (by simp) _
  ·have Bc:255≤k:=by omega
   obtain ⟨A,An,Ak,Au⟩:∃ A:Array Value,Hid (A=(ag.TB.map (Value.int .u8)).toArray)∧Hid (A.size=256)∧Hid (A.all (·.oneCell')=true) :=
    ⟨_,rfl,by show _=_;simp [ag.mr],fe _⟩
   have DK:Hid (wr.heap[w.heap.size+1]?=some (.cells A 121 (0,0))):=by
    have h:=HG.out;rw [show k=255 by omega] at h;show _=_;rw [h,An.out,ag.TB]
   clear Ae HG Cs HX;go_wp2_with (first
    | ((with_reducible refine ay _ _ _ _ _ _ _ ?_ DK.out underlying121 ?_ (ae Tryz.ld Ak) ?_);(exact rfl);(exact rfl))
    | ((with_reducible refine ak _ _ _ _ _ _ _ ?_ ?_ Cd.out (ae Tryz.ld Ak) ?_ Au.out ?_);(exact rfl);(exact rfl);(rw [Ak.out];exact AB.out.symm);intro w6 G6 AE))
   refine bodyPost_ret (results_cell_row rfl _ _ w.heap.size 121 A (0,0) _ rfl G6.out underlying121 rfl (ae Tryz.ld Ak)) rfl ⟨?_,AE.below HB.out (by omega)⟩;rw [An.out]
end
section
open Go.RowKit
end
end Go.Proofs.YthgjfjmampmiiaaGreatDoor
