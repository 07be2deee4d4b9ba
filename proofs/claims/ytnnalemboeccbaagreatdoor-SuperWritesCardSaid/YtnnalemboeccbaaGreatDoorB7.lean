import Derived.Test.YtnnalemboeccbaaGreatDoorB3
import Derived.Test.YtnnalemboeccbaaGreatDoorBd1
import Derived.Laws.Closers25b
namespace Go.Proofs.YtnnalemboeccbaaGreatDoor
section
open Go.RowKit
namespace Aes
theorem TB_at (i:Nat):0≤TB.getD i 0∧TB.getD i 0≤255:=by
 by_cases hi:i<TB.length
 ·rw [List.getD_eq_getElem?_getD,List.getElem?_eq_getElem hi];exact TB_byt _ (List.getElem_mem hi)
 ·rw [List.getD_eq_getElem?_getD,List.getElem?_eq_none (by omega)];simp
theorem be4_sum (a b c d:Int) (ha:0≤a∧a≤255) (hb:0≤b∧b≤255) (hc:0≤c∧c≤255) (hd:0≤d∧d≤255):be4 a b c d=a*16777216+b*65536+c*256+d:=by
 unfold be4
 rw [bits_join .u32 32 (by decide) wr32 24 (a*16777216) (b*65536) (by omega) (by omega) (by omega) (by omega) (by omega) (by omega),
  bits_join .u32 32 (by decide) wr32 16 (a*16777216+b*65536) (c*256) (by omega) (by omega) (by omega) (by omega) (by omega) (by omega),
  bits_join .u32 32 (by decide) wr32 8 (a*16777216+b*65536+c*256) d (by omega) (by omega) (by omega) (by omega) (by omega) (by omega)]
theorem col_be4 (T:List Int) (a b c d:Int):col T a b c d=be4 (T.getD (a / 16777216 % 256).toNat 0) (T.getD (b / 65536 % 256).toNat 0) (T.getD (c / 256 % 256).toNat 0) (T.getD (d % 256).toNat 0):=by
 unfold col be4
 rfl
theorem tw_nat (n:Nat) (h:n<4294967296):tw (n:Int)=((twN n:Nat):Int):=by
 have h1:n &&& 2139062143<2147483648:=Nat.lt_of_le_of_lt Nat.and_le_right (by omega)
 have h2:n / 128 &&& 16843009<16843010:=Nat.lt_of_le_of_lt Nat.and_le_right (by omega)
 have e1:bits .and .u32 (n:Int) 2139062143=((n &&& 2139062143:Nat):Int):=and_u32 n 2139062143 h (by omega)
 have e2:bits .and .u32 ((n:Int) / 128) 16843009=((n / 128 &&& 16843009:Nat):Int):=by
  have:=and_u32 (n / 128) 16843009 (by omega) (by omega)
  rw [← this]
  rfl
 unfold tw twN
 rw [e1,e2]
 generalize n &&& 2139062143=p at *
 generalize n / 128 &&& 16843009=q at *
 rw [show ((p:Int)*2 % 4294967296)=((p*2:Nat):Int) by omega,show ((q:Int)*27 % 4294967296)=((q*27:Nat):Int) by omega]
 exact xor_u32 _ _ (by omega) (by omega)
theorem rl_join (n:Nat) (h:n<4294967296) (i:Nat) (hi:i=8∨i=16∨i=24):rl (i:Int) (n:Int)=((n*2 ^ i % 4294967296+n / 2 ^ (32-i):Nat):Int):=by
 unfold rl
 rcases hi with rfl | rfl | rfl
 ·show bits .or .u32 ((n:Int)*2 ^ 8 % 4294967296) ((n:Int) / 2 ^ 24)=_
  rw [bits_join .u32 32 (by decide) wr32 8 _ _ (by omega) (by omega) (by omega) (by omega) (by omega) (by omega)]
  omega
 ·show bits .or .u32 ((n:Int)*2 ^ 16 % 4294967296) ((n:Int) / 2 ^ 16)=_
  rw [bits_join .u32 32 (by decide) wr32 16 _ _ (by omega) (by omega) (by omega) (by omega) (by omega) (by omega)]
  omega
 ·show bits .or .u32 ((n:Int)*2 ^ 24 % 4294967296) ((n:Int) / 2 ^ 8)=_
  rw [bits_join .u32 32 (by decide) wr32 24 _ _ (by omega) (by omega) (by omega) (by omega) (by omega) (by omega)]
  omega
theorem rl8_w4 (a b c d:Nat) (ha:a<256) (hb:b<256) (hc:c<256) (hd:d<256):rl 8 ((w4 a b c d:Nat):Int)=((w4 b c d a:Nat):Int):=by
 have h:=rl_join (w4 a b c d) (w4_lt a b c d ha hb hc hd) 8 (Or.inl rfl)
 rw [show ((8:Nat):Int)=8 from rfl] at h
 rw [h]
 unfold w4
 omega
theorem rl16_w4 (a b c d:Nat) (ha:a<256) (hb:b<256) (hc:c<256) (hd:d<256):rl 16 ((w4 a b c d:Nat):Int)=((w4 c d a b:Nat):Int):=by
 have h:=rl_join (w4 a b c d) (w4_lt a b c d ha hb hc hd) 16 (Or.inr (Or.inl rfl))
 rw [show ((16:Nat):Int)=16 from rfl] at h
 rw [h]
 unfold w4
 omega
theorem rl24_w4 (a b c d:Nat) (ha:a<256) (hb:b<256) (hc:c<256) (hd:d<256):rl 24 ((w4 a b c d:Nat):Int)=((w4 d a b c:Nat):Int):=by
 have h:=rl_join (w4 a b c d) (w4_lt a b c d ha hb hc hd) 24 (Or.inr (Or.inr rfl))
 rw [show ((24:Nat):Int)=24 from rfl] at h
 rw [h]
 unfold w4
 omega
theorem mixw_w4 (a b c d:Nat) (ha:a<256) (hb:b<256) (hc:c<256) (hd:d<256):mixw ((w4 a b c d:Nat):Int)=((w4 (mb a b c d) (mb b c d a) (mb c d a b) (mb d a b c):Nat):Int):=by
 have ta:=tb_lt a ha
 have tb':=tb_lt b hb
 have tc:=tb_lt c hc
 have td:=tb_lt d hd
 have l:=w4_lt
 unfold mixw
 rw [tw_nat _ (l a b c d ha hb hc hd),twN_w4 a b c d ha hb hc hd]
 rw [xor_u32 _ _ (l _ _ _ _ ta tb' tc td) (l a b c d ha hb hc hd),w4_xor _ _ _ _ _ _ _ _ ta tb' tc td ha hb hc hd]
 rw [rl8_w4 _ _ _ _ (x8 ta ha) (x8 tb' hb) (x8 tc hc) (x8 td hd),rl16_w4 a b c d ha hb hc hd,rl24_w4 a b c d ha hb hc hd]
 rw [xor_u32 _ _ (l _ _ _ _ ta tb' tc td) (l _ _ _ _ (x8 tb' hb) (x8 tc hc) (x8 td hd) (x8 ta ha)),w4_xor _ _ _ _ _ _ _ _ ta tb' tc td (x8 tb' hb) (x8 tc hc) (x8 td hd) (x8 ta ha)]
 rw [xor_u32 _ _ (l _ _ _ _ (x8 ta (x8 tb' hb)) (x8 tb' (x8 tc hc)) (x8 tc (x8 td hd)) (x8 td (x8 ta ha))) (l c d a b hc hd ha hb),w4_xor _ _ _ _ _ _ _ _ (x8 ta (x8 tb' hb)) (x8 tb' (x8 tc hc)) (x8 tc (x8 td hd)) (x8 td (x8 ta ha)) hc hd ha hb]
 rw [xor_u32 _ _ (l _ _ _ _ (x8 (x8 ta (x8 tb' hb)) hc) (x8 (x8 tb' (x8 tc hc)) hd) (x8 (x8 tc (x8 td hd)) ha) (x8 (x8 td (x8 ta ha)) hb)) (l d a b c hd ha hb hc),
  w4_xor _ _ _ _ _ _ _ _ (x8 (x8 ta (x8 tb' hb)) hc) (x8 (x8 tb' (x8 tc hc)) hd) (x8 (x8 tc (x8 td hd)) ha) (x8 (x8 td (x8 ta ha)) hb) hd ha hb hc]
 rfl
end Aes
end
section
namespace Aes
def sw (r:Nat→Nat) (k:Nat):Int:=((w4 (r (4*k)) (r (4*k+1)) (r (4*k+2)) (r (4*k+3)):Nat):Int)
def st (r:Nat→Nat):W:=⟨sw r 0,sw r 1,sw r 2,sw r 3⟩
def layR (R:Nat→Nat) (i:Nat) (r:Nat→Nat):Nat→Nat:=fun j=>r j ^^^ R (16*i+j)
def tn (x:Nat):Nat:=(TB.getD x 0).toNat
def mvR (r:Nat→Nat):Nat→Nat:=fun j=>tn (r (4*((j / 4+j % 4) % 4)+j % 4))
def mxR (r:Nat→Nat):Nat→Nat:=fun j=>mb (r (4*(j / 4)+j % 4)) (r (4*(j / 4)+(j % 4+1) % 4)) (r (4*(j / 4)+(j % 4+2) % 4)) (r (4*(j / 4)+(j % 4+3) % 4))
def B16 (r:Nat→Nat):Prop:=∀ j,j<16→r j<256
theorem sw_xor (r s:Nat→Nat) (k m:Nat) (hr:∀ j,j<4→r (4*k+j)<256) (hs:∀ j,j<4→s (4*m+j)<256) :
  bits .xor .u32 (sw r k) (sw s m)=((w4 (r (4*k) ^^^ s (4*m)) (r (4*k+1) ^^^ s (4*m+1)) (r (4*k+2) ^^^ s (4*m+2)) (r (4*k+3) ^^^ s (4*m+3)):Nat):Int):=by
 have r0:=hr 0 (by omega);have r1:=hr 1 (by omega);have r2:=hr 2 (by omega);have r3:=hr 3 (by omega)
 have s0:=hs 0 (by omega);have s1:=hs 1 (by omega);have s2:=hs 2 (by omega);have s3:=hs 3 (by omega)
 rw [Nat.add_zero] at r0 s0
 unfold sw
 rw [xor_u32 _ _ (w4_lt _ _ _ _ r0 r1 r2 r3) (w4_lt _ _ _ _ s0 s1 s2 s3),w4_xor _ _ _ _ _ _ _ _ r0 r1 r2 r3 s0 s1 s2 s3]
theorem lay_st (R r:Nat→Nat) (ks:List Int) (i:Nat) (hr:B16 r) (hR:∀ j,j<16→R (16*i+j)<256) (hk:∀ k,k<4→ks.getD (4*i+k) 0=sw R (4*i+k)):lay (st r) ks i=st (layR R i r):=by
 have h0:=hk 0 (by omega);have h1:=hk 1 (by omega);have h2:=hk 2 (by omega);have h3:=hk 3 (by omega)
 have key:∀ k,k<4→bits .xor .u32 (sw r k) (sw R (4*i+k))=sw (layR R i r) k:=fun k hk=>by
  rw [sw_xor r R k (4*i+k) (fun j hj=>hr _ (by omega)) (fun j hj=>by rw [show 4*(4*i+k)+j=16*i+(4*k+j) by omega];exact hR _ (by omega))]
  unfold sw layR
  rw [show 16*i+4*k=4*(4*i+k) by omega,show 16*i+(4*k+1)=4*(4*i+k)+1 by omega,show 16*i+(4*k+2)=4*(4*i+k)+2 by omega,show 16*i+(4*k+3)=4*(4*i+k)+3 by omega]
 rw [Nat.add_zero] at h0
 have k0:=key 0 (by omega);have k1:=key 1 (by omega);have k2:=key 2 (by omega);have k3:=key 3 (by omega)
 rw [Nat.add_zero] at k0
 unfold lay st
 simp only [h0,h1,h2,h3,k0,k1,k2,k3]
theorem tn_int (x:Nat):((tn x:Nat):Int)=TB.getD x 0:=Int.toNat_of_nonneg (TB_at x).1
theorem tn_lt (x:Nat):tn x<256:=by
 have h:=(TB_at x).2
 rw [← tn_int x] at h
 generalize tn x=y at *
 omega
attribute [irreducible] tn
theorem to0 (w:Nat) (h:w<4294967296):((w:Int) / 16777216 % 256).toNat=w / 16777216:=by omega
theorem to1 (w:Nat):((w:Int) / 65536 % 256).toNat=w / 65536 % 256:=by omega
theorem to2 (w:Nat):((w:Int) / 256 % 256).toNat=w / 256 % 256:=by omega
theorem to3 (w:Nat):((w:Int) % 256).toNat=w % 256:=by omega
theorem col_w4 (a b c d a1 a2 a3 b0 b2 b3 c0 c1 c3 d0 d1 d2:Nat) (ha:a<256) (hb:b<256) (hc:c<256) (hd:d<256) (ha1:a1<256) (ha2:a2<256) (ha3:a3<256) (hb0:b0<256) (hb2:b2<256) (hb3:b3<256) (hc0:c0<256) (hc1:c1<256) (hc3:c3<256) (hd0:d0<256) (hd1:d1<256) (hd2:d2<256) :
  col TB ((w4 a a1 a2 a3:Nat):Int) ((w4 b0 b b2 b3:Nat):Int) ((w4 c0 c1 c c3:Nat):Int) ((w4 d0 d1 d2 d:Nat):Int)=((w4 (tn a) (tn b) (tn c) (tn d):Nat):Int):=by
 rw [col_be4]
 have e0:=(to0 _ (w4_lt a a1 a2 a3 ha ha1 ha2 ha3)).trans (w4_0 a a1 a2 a3 ha ha1 ha2 ha3)
 have e1:=(to1 (w4 b0 b b2 b3)).trans (w4_1 b0 b b2 b3 hb0 hb hb2 hb3)
 have e2:=(to2 (w4 c0 c1 c c3)).trans (w4_2 c0 c1 c c3 hc0 hc1 hc hc3)
 have e3:=(to3 (w4 d0 d1 d2 d)).trans (w4_3 d0 d1 d2 d hd0 hd1 hd2 hd)
 rw [e0,e1,e2,e3,be4_sum _ _ _ _ (TB_at _) (TB_at _) (TB_at _) (TB_at _),← tn_int a,← tn_int b,← tn_int c,← tn_int d]
 clear e0 e1 e2 e3
 generalize tn a=ta
 generalize tn b=tb'
 generalize tn c=tc
 generalize tn d=td
 unfold w4
 omega
theorem mvd_st (r:Nat→Nat) (hr:B16 r):mvd TB (st r)=st (mvR r):=by
 have h:∀ j,j<16→r j<256:=hr
 unfold mvd st sw
 simp only [Nat.mul_zero,Nat.zero_add,Nat.reduceMul,Nat.reduceAdd]
 rw [col_w4 (r 0) (r 5) (r 10) (r 15) _ _ _ _ _ _ _ _ _ _ _ _ (h _ (by omega)) (h _ (by omega)) (h _ (by omega)) (h _ (by omega)) (h _ (by omega)) (h _ (by omega)) (h _ (by omega)) (h _ (by omega)) (h _ (by omega)) (h _ (by omega)) (h _ (by omega)) (h _ (by omega)) (h _ (by omega)) (h _ (by omega)) (h _ (by omega)) (h _ (by omega)),
  col_w4 (r 4) (r 9) (r 14) (r 3) _ _ _ _ _ _ _ _ _ _ _ _ (h _ (by omega)) (h _ (by omega)) (h _ (by omega)) (h _ (by omega)) (h _ (by omega)) (h _ (by omega)) (h _ (by omega)) (h _ (by omega)) (h _ (by omega)) (h _ (by omega)) (h _ (by omega)) (h _ (by omega)) (h _ (by omega)) (h _ (by omega)) (h _ (by omega)) (h _ (by omega)),
  col_w4 (r 8) (r 13) (r 2) (r 7) _ _ _ _ _ _ _ _ _ _ _ _ (h _ (by omega)) (h _ (by omega)) (h _ (by omega)) (h _ (by omega)) (h _ (by omega)) (h _ (by omega)) (h _ (by omega)) (h _ (by omega)) (h _ (by omega)) (h _ (by omega)) (h _ (by omega)) (h _ (by omega)) (h _ (by omega)) (h _ (by omega)) (h _ (by omega)) (h _ (by omega)),
  col_w4 (r 12) (r 1) (r 6) (r 11) _ _ _ _ _ _ _ _ _ _ _ _ (h _ (by omega)) (h _ (by omega)) (h _ (by omega)) (h _ (by omega)) (h _ (by omega)) (h _ (by omega)) (h _ (by omega)) (h _ (by omega)) (h _ (by omega)) (h _ (by omega)) (h _ (by omega)) (h _ (by omega)) (h _ (by omega)) (h _ (by omega)) (h _ (by omega)) (h _ (by omega))]
 rfl
theorem mxd_st (r:Nat→Nat) (hr:B16 r):mxd (st r)=st (mxR r):=by
 have h:∀ j,j<16→r j<256:=hr
 unfold mxd st sw
 simp only [Nat.mul_zero,Nat.zero_add,Nat.reduceMul,Nat.reduceAdd]
 rw [mixw_w4 _ _ _ _ (h _ (by omega)) (h _ (by omega)) (h _ (by omega)) (h _ (by omega)),mixw_w4 _ _ _ _ (h _ (by omega)) (h _ (by omega)) (h _ (by omega)) (h _ (by omega)),mixw_w4 _ _ _ _ (h _ (by omega)) (h _ (by omega)) (h _ (by omega)) (h _ (by omega)),mixw_w4 _ _ _ _ (h _ (by omega)) (h _ (by omega)) (h _ (by omega)) (h _ (by omega))]
 rfl
theorem mvR_b (r:Nat→Nat):B16 (mvR r):=fun _ _=>tn_lt _
theorem mxR_b (r:Nat→Nat) (hr:B16 r):B16 (mxR r):=fun _ _=>mb_lt (hr _ (by omega)) (hr _ (by omega)) (hr _ (by omega)) (hr _ (by omega))
theorem layR_b (R r:Nat→Nat) (i:Nat) (hr:B16 r) (hR:∀ j,j<16→R (16*i+j)<256):B16 (layR R i r):=fun j hj=>x8 (hr j hj) (hR j hj)
def rdR (R r:Nat→Nat):Nat→Nat→Nat
 | 0=>layR R 0 r
 | k+1=>layR R (k+1) (mxR (mvR (rdR R r k)))
def blR (R:Nat→Nat) (N:Nat) (r:Nat→Nat):Nat→Nat:=layR R (N+1) (mvR (rdR R r N))
theorem rdR_st (R r:Nat→Nat) (ks:List Int) (N:Nat) (hr:B16 r) (hR:∀ j,j<16*(N+1)→R j<256) (hk:∀ k,k<4*(N+1)→ks.getD k 0=sw R k):rounds TB ks (st r) N=st (rdR R r N)∧B16 (rdR R r N):=by
 induction N with
 | zero =>
  rw [rounds_zero,rdR]
  exact ⟨lay_st R r ks 0 hr (fun j hj=>hR _ (by omega)) (fun k h=>hk _ (by omega)),layR_b R r 0 hr (fun j hj=>hR _ (by omega))⟩
 | succ N ih =>
  obtain ⟨e,b⟩:=ih (fun j hj=>hR j (by omega)) (fun k h=>hk k (by omega))
  have b2:=mxR_b _ (mvR_b (rdR R r N))
  rw [rounds_succ,e,mvd_st _ b,mxd_st _ (mvR_b _),rdR]
  exact ⟨lay_st R _ ks (N+1) b2 (fun j hj=>hR _ (by omega)) (fun k h=>hk _ (by omega)),layR_b R _ (N+1) b2 (fun j hj=>hR _ (by omega))⟩
theorem last_st (R r:Nat→Nat) (ks:List Int) (N:Nat) (hr:B16 r) (hR:∀ j,j<16*(N+2)→R j<256) (hk:∀ k,k<4*(N+2)→ks.getD k 0=sw R k):last TB ks N (st r)=st (blR R N r)∧B16 (blR R N r):=by
 obtain ⟨e,b⟩:=rdR_st R r ks N hr (fun j hj=>hR j (by omega)) (fun k h=>hk k (by omega))
 unfold last blR
 rw [e,mvd_st _ b]
 exact ⟨lay_st R _ ks (N+1) (mvR_b _) (fun j hj=>hR _ (by omega)) (fun k h=>hk _ (by omega)),layR_b R _ (N+1) (mvR_b _) (fun j hj=>hR _ (by omega))⟩
end Aes
end
section
open Go.RowKit
namespace Aes
def up (r:Nat→Nat) (k:Nat):List Int:=(List.range k).map fun j=>((r j:Nat):Int)
theorem up_len (r:Nat→Nat) (k:Nat):(up r k).length=k:=by simp [up]
theorem up_succ (r:Nat→Nat) (k:Nat):up r (k+1)=up r k++[((r k:Nat):Int)]:=by simp [up,List.range_succ]
theorem up_get (r:Nat→Nat) (k j:Nat) (h:j<k):(up r k).getD j 0=((r j:Nat):Int):=by
 rw [List.getD_eq_getElem?_getD,List.getElem?_eq_getElem (by rw [up_len];exact h)]
 simp [up]
theorem up_zero (r:Nat→Nat):up r 0 = []:=rfl
theorem mxr_up (r:Nat→Nat):mxr r 4=up (mxR r) 16:=rfl
attribute [irreducible] up
def stR (R r:Nat→Nat) (N k:Nat):Nat→Nat:=if k≤N then rdR R r k else blR R N r
end Aes
theorem ovl_up (RL:List Int) (R r:Nat→Nat) (i:Nat) (hr:Aes.B16 r) (hR:∀ j,j<16→RL.getD (16*i+j) 0=((R (16*i+j):Nat):Int)∧R (16*i+j)<256) (k:Nat) (hk:k≤16) :
  ovl RL (Aes.up r 16) i k=Aes.up (Aes.layR R i r) k:=by
 induction k with
 | zero=>rw [ovl,Aes.up_zero]
 | succ k ih =>
  rw [ovl,ih (by omega),Aes.up_succ (Aes.layR R i r) k,Aes.up_get r 16 k (by omega),(hR k (by omega)).1,Aes.xor_u8 _ _ (hr k (by omega)) (hR k (by omega)).2]
  rfl
theorem stR_b (R r:Nat→Nat) (N k:Nat) (hr:Aes.B16 r) (hR:∀ j,j<16*(N+2)→R j<256):Aes.B16 (Aes.stR R r N k):=by
 unfold Aes.stR
 split
 ·rename_i h
  cases k with
  | zero=>rw [Aes.rdR];exact Aes.layR_b R r 0 hr (fun j hj=>hR _ (by omega))
  | succ k=>rw [Aes.rdR];exact Aes.layR_b R _ (k+1) (Aes.mxR_b _ (Aes.mvR_b _)) (fun j hj=>hR _ (by omega))
 ·exact Aes.layR_b R _ (N+1) (Aes.mvR_b _) (fun j hj=>hR _ (by omega))
theorem stR_mid (R r:Nat→Nat) (N k:Nat) (h:k+1≤N):Aes.stR R r N (k+1)=Aes.layR R (k+1) (Aes.mxR (Aes.mvR (Aes.stR R r N k))):=by
 unfold Aes.stR
 rw [if_pos h,if_pos (by omega),Aes.rdR]
theorem stR_end (R r:Nat→Nat) (N:Nat):Aes.stR R r N (N+1)=Aes.layR R (N+1) (Aes.mvR (Aes.stR R r N N)):=by
 unfold Aes.stR
 rw [if_neg (by omega),if_pos (by omega),Aes.blR]
theorem append_bs {ops:Array Oper} {rest:List Oper} {a:Act} {w:World} {Q:Exit→Act→World→Prop} {D:Option Tmp} {T:TypeId} {ps:String} {af:Array Edge} (s x:Operand) (ys:List Int) (base:Nat) (v:Value) (n:Nat) (l:List Int) (b o m c:Nat) (hs:a.eval s=v)
  (hx:a.eval x = .slice (some ⟨b,o,none⟩) m c) (hm:ys.length=m) (hc:∀ j,j<m→w.cell? ⟨b,o+j,none⟩=some (.int .u8 (ys.getD j 0))) (hown:w.ownsRow base 5 1 v n (U8s l)) (hn:n+m≤1000000000000) (hb:base≤w.heap.size)
  (h:∀ v' w',w'.ownsRow base 5 1 v' (n+m) (U8s (l++ys))→w.grownBy w' v.ownBlock→wpList Tryz.prog ops Q rest (a.put D v') w') :
  wpList Tryz.prog ops Q ({ dst:=D,op:=.call { callee:=.builtin .append,args:=#[s,x],argTypes:=#[22,22] },type:=T,pos:=ps,after:=af,guard:=none } :: rest) a w:=by
 obtain ⟨i0,hi,hz0,hz1,hz2⟩:=info_parts Tryz.info_u8
 refine wpList_append_own _ rfl s x 22 rfl base 5 i0 (.int .u8 0) 1 1 Tryz.underlying22 hi hz0 hz1 hz2 rfl (by decide) v n (U8s l) hs hown ⟨b,o,none⟩ m c (ys.map (Value.int .u8)) hx (by simp [hm]) ?_ ?_ (by unfold maxLen;omega) (by omega) hb ?_
 ·intro j u hj
  have hjl:j<ys.length:=by have:=(List.getElem?_eq_some_iff.1 hj).1;simpa using this
  rw [Addr.add_mid,hc j (by omega)]
  rw [List.getElem?_map,List.getElem?_eq_getElem hjl] at hj
  rw [List.getD_eq_getElem?_getD,List.getElem?_eq_getElem hjl]
  simpa using hj
 ·intro u hu
  rw [List.mem_map] at hu
  obtain ⟨x,_,rfl⟩:=hu
  rfl
 ·intro v' w' h1 h2 _
  refine h v' w' ?_ h2
  have e:U8s l++ys.map (Value.int .u8)=U8s (l++ys):=by unfold U8s;simp
  rw [← e]
  exact h1
theorem own_empty (w:World) (B:Nat) (h:B≤w.heap.size):(w.alloc (.cells #[] 5)).ownsRow B 5 1 (.slice (some ⟨w.heap.size,0,none⟩) 0 0) 0 (U8s []):=by
 unfold U8s
 exact ⟨rfl,Or.inr ⟨w.heap.size,0,#[],rfl,h,heap_alloc_new w _,Nat.le_refl _,by unfold maxLen;omega,rfl,rfl⟩⟩
theorem RCiph.old {w x:World} {g n:Nat} {R:List Int} (h:RCiph w g n R) (hb:Below w.heap.size w x):RCiph x g n R:=by
 obtain ⟨wb,wc,tb,tc,h0,hW,hT⟩:=h
 refine ⟨wb,wc,tb,tc,(hb.block _ (lt_of_block h0)).trans h0,fun i hi=>?_,fun j hj=>(hb.cell (World.block_lt_of_cell? w _ (hT j hj))).trans (hT j hj)⟩
 obtain ⟨b,c,h1,h2⟩:=hW i hi
 exact ⟨b,c,(hb.cell (World.block_lt_of_cell? w _ h1)).trans h1,fun j hj=>(hb.cell (World.block_lt_of_cell? w _ (h2 j hj))).trans (h2 j hj)⟩
theorem splice_whole (cur cs:List Value) (h:cs.length=cur.length):splice cur 0 cs=cs:=by
 unfold splice
 rw [List.take_zero,List.drop_of_length_le (by omega)]
 simp
theorem over_ref' (g n:Nat) (R S:List Int) (r:Nat) (ri:Int) (hri:ri=(r:Int)) (hr:r<15) (hn:4*r+4≤n) (hn2:n≤60) (sb sc:Nat) (w:World) (hC:RCiph w g n R) (hS:∀ j,j<16→w.cell? ⟨sb,j,none⟩=some (.int .u8 (S.getD j 0))) :
  Calls Tryz.prog 223 #[.pointer (some ⟨g,0,none⟩),.slice (some ⟨sb,0,none⟩) 16 sc,.int .i64 ri] w fun e w'=>∃ g c,e = .returned (.slice (some ⟨g,0,none⟩) 16 c)∧w'.ownsRow w.heap.size 5 1 (.slice (some ⟨g,0,none⟩) 16 c) 16 (U8s (ovl R S r 16))∧Below w.heap.size w w':=by
 subst hri
 exact over_ref g n R S r hr hn hn2 sb sc w hC hS
theorem cell_alloc_old {w:World} {b j:Nat} {v:Value} (o:Obj) (h:w.cell? ⟨b,j,none⟩=some v):(w.alloc o).cell? ⟨b,j,none⟩=some v :=
 (((Below.refl _ w).alloc (Nat.le_refl _) o).cell (World.block_lt_of_cell? w _ h)).trans h
set_option maxHeartbeats 4000000 in
set_option maxRecDepth 100000 in
theorem block_ref (g:Nat) (RL:List Int) (R r:Nat→Nat) (N:Nat) (w:World) (hC:RCiph w g (4*(N+2)) RL) (hN:N+2≤15) (hR:∀ j,j<16*(N+2)→RL.getD j 0=((R j:Nat):Int)∧R j<256) (hr:Aes.B16 r) :
  Calls Tryz.prog 221 #[.pointer (some ⟨g,0,none⟩),Bk (Aes.up r 16)] w (BkSay (Aes.up (Aes.blR R N r) 16) w):=by
 unfold Bk
 have HC:=Lib.hid hC;clear hC
 have HR:=Lib.hid hR;clear hR
 have Hr:=Lib.hid hr;clear hr
 obtain ⟨A,HA0,HA1⟩:∃ A:Array Value,Hid (A=((Aes.up r 16).map (Value.int .u8)).toArray)∧Hid (A.size=16):=⟨_,rfl,by show _=_;simp [Aes.up_len]⟩
 rw [← HA0.out]
 go_enter Tryz.func221,Tryz.ntmps221
 go_upto_region 1 with fail
 have HX:Hid (((w.alloc (.cells A 246)).alloc (.cells #[.int .u8 0,.int .u8 0,.int .u8 0,.int .u8 0,.int .u8 0,.int .u8 0,.int .u8 0,.int .u8 0,.int .u8 0,.int .u8 0,.int .u8 0,.int .u8 0,.int .u8 0,.int .u8 0,.int .u8 0,.int .u8 0] 246)).heap[w.heap.size]?=some (.cells A 246 (0,0))):=heap_alloc2_old w _ _
 have HZ:Hid (((w.alloc (.cells A 246)).alloc (.cells #[.int .u8 0,.int .u8 0,.int .u8 0,.int .u8 0,.int .u8 0,.int .u8 0,.int .u8 0,.int .u8 0,.int .u8 0,.int .u8 0,.int .u8 0,.int .u8 0,.int .u8 0,.int .u8 0,.int .u8 0,.int .u8 0] 246)).heap[w.heap.size+1]?=some (.cells (List.replicate 16 (Value.int .u8 0)).toArray 246 (0,0))):=heap_alloc2_new w _ _
 have HB1:Hid (Below w.heap.size w ((w.alloc (.cells A 246)).alloc (.cells #[.int .u8 0,.int .u8 0,.int .u8 0,.int .u8 0,.int .u8 0,.int .u8 0,.int .u8 0,.int .u8 0,.int .u8 0,.int .u8 0,.int .u8 0,.int .u8 0,.int .u8 0,.int .u8 0,.int .u8 0,.int .u8 0] 246))):=((Below.refl _ w).alloc (Nat.le_refl _) _).alloc (by simp) _
 generalize (w.alloc (.cells A 246)).alloc (.cells #[.int .u8 0,.int .u8 0,.int .u8 0,.int .u8 0,.int .u8 0,.int .u8 0,.int .u8 0,.int .u8 0,.int .u8 0,.int .u8 0,.int .u8 0,.int .u8 0,.int .u8 0,.int .u8 0,.int .u8 0,.int .u8 0] 246)=w1 at *
 have HX2:Hid (∀ j,j<16→w1.cell? ⟨w.heap.size,j,none⟩=some (.int .u8 ((Aes.up r 16).getD j 0))):=fun j hj=>by
  have h:=HX.out
  rw [HA0.out] at h
  exact u8_cellB h j (by rw [Aes.up_len];exact hj)
 go_upto_region 2 with ((with_reducible refine append_bs _ _ (Aes.up r 16) w1.heap.size _ 0 [] w.heap.size 0 16 16 ?_ ?_ (Aes.up_len _ _) ?_ (own_empty w1 _ (Nat.le_refl _)) ?_ ?_ ?_);(exact rfl);(exact rfl);(intro j hj;rw [Nat.zero_add];exact cell_alloc_old _ (HX2.out j hj));omega;simp;intro v2 w2 hown2 hgrow2)
 have HB2:Hid (Below w.heap.size w w2):=(HB1.out.alloc HB1.out.size _).grown hgrow2 (by have:=HB1.out.size;simp;omega) (fun j hj=>by cases hj;exact HB1.out.size)
 have HZ2:Hid (w2.heap[w.heap.size+1]?=some (.cells (List.replicate 16 (Value.int .u8 0)).toArray 246 (0,0))):=(hgrow2.block _ (by have:=lt_of_block HZ.out;simp;omega) (by have:=lt_of_block HZ.out;simp [Value.ownBlock];omega)).trans ((heap_alloc_old _ _ (lt_of_block HZ.out)).trans HZ.out)
 obtain ⟨s2,c2,hv⟩:=own_someB hown2 (by decide)
 subst hv
 have HO2:=Lib.hid hown2
 clear hown2 hgrow2 HX HZ HB1 HX2
 have HRC2:Hid (RCiph w2 g (4*(N+2)) RL):=HC.out.old HB2.out
 go_upto_region 3 with (go_at_call 223;refine (over_ref g (4*(N+2)) RL (Aes.up r 16) 0 (by omega) (by omega) (by omega) s2 c2 _ HRC2.out (fun j hj=>by rw [u8_at HO2.out j hj];rfl)).mono ?_;rintro e w3 ⟨s3,c3,rfl,ho3,hb3⟩)
 have HO3:=Lib.hid ho3
 have HB3:Hid (Below w.heap.size w w3):=HB2.out.trans (hb3.mono HB2.out.size)
 have HZ3:Hid (w3.heap[w.heap.size+1]?=some (.cells (List.replicate 16 (Value.int .u8 0)).toArray 246 (0,0))):=(hb3.block _ (lt_of_block HZ2.out)).trans HZ2.out
 have HS3:Hid (∀ j,j<16→w3.cell? ⟨s3,j,none⟩=some (.int .u8 ((Aes.stR R r N 0 j:Nat):Int))):=fun j hj=>by
  rw [u8_at HO3.out j hj,ovl_up RL R r 0 Hr.out (fun j hj=>HR.out _ (by omega)) 16 (by omega),Aes.up_get _ 16 j hj]
  rfl
 have HCW:Hid (∀ x,Below w.heap.size w x→RCiph x g (4*(N+2)) RL):=fun x hx=>HC.out.old hx
 clear ho3 hb3 HO3 HB2 HZ2 HO2 HRC2 HC
 obtain ⟨wb,wc,tb,tc,h0,_,_⟩:=HCW.out _ HB3.out
 have c0:w3.cell? ⟨g,0,none⟩=some (.slice (some ⟨wb,0,none⟩) (4*(N+2)) wc):=by rw [cell_of_row w3 g 0 _ _ _ h0];rfl
 clear h0
 go_upto_region 4 with fail
 rw [show ((N:Int)+2-1)=(N:Int)+1 by omega]
 clear c0
 go_wp2
 go_loopw [5,7] (fun v5 v7 wr=>∃ (k sb sc:Nat),k≤N+1∧v7 = .int .i64 ((k:Int)+1)∧v5 = .slice (some ⟨sb,0,none⟩) 16 sc∧Hid (∀ j,j<16→wr.cell? ⟨sb,j,none⟩=some (.int .u8 ((Aes.stR R r N k j:Nat):Int)))∧Hid (wr.heap[w.heap.size+1]?=some (.cells (List.replicate 16 (Value.int .u8 0)).toArray 246 (0,0)))∧Hid (Below w.heap.size w wr)) (fun _ v7 _=>N+3-(intOf v7).toNat)
 case atStart=>exact ⟨0,s3,c3,by omega,rfl,rfl,HS3.out,HZ3.out,HB3.out⟩
 case round =>
  clear HS3 HZ3 HB3
  obtain ⟨k,sb,sc,hk,rfl,rfl,HS,HZ,HB⟩:=hrel
  by_cases hlt:k<N+1
  ·go_wp2
   obtain ⟨wo,rfl⟩:∃ wo:World,wo=wr:=⟨_,rfl⟩
   rw [show decide (k≤N)=true from decide_eq_true (by omega)]
   go_loopw [8,9] (fun v8 v9 wr=>∃ j:Nat,j≤16∧v9 = .int .i64 j∧Hid (wr.ownsRow wo.heap.size 5 1 v8 j (U8s (Aes.up (Aes.mvR (Aes.stR R r N k)) j)))∧Hid (Below wo.heap.size wo wr)) (fun _ v9 _=>16-(intOf v9).toNat)
   case atStart=>exact ⟨0,Nat.zero_le _,rfl,by rw [Aes.up_zero];unfold U8s;exact World.ownsRow_nil _ _ _ _,Below.refl _ _⟩
   case round =>
    obtain ⟨j,hj,rfl,HO,HBI⟩:=hrel
    by_cases hjl:j<16
    ·obtain ⟨q,t,hq,ht,rfl⟩:∃ q t:Nat,q<4∧t<4∧j=4*q+t:=⟨j / 4,j % 4,by omega,by omega,by omega⟩
     obtain ⟨wb2,wc2,tb,tc,h0,_,hT⟩:=HCW.out _ HB.out
     obtain ⟨z,hz⟩:∃ z,z=(q+t) % 4:=⟨_,rfl⟩
     have hz4:z<4:=by omega
     have h1:=HS.out (4*z+t) (by omega)
     have hy:=stR_b R r N k Hr.out (fun j hj=>(HR.out j hj).2) (4*z+t) (by omega)
     have HX:Hid (Aes.up (Aes.mvR (Aes.stR R r N k)) (4*q+t)++[Aes.TB.getD (Aes.stR R r N k (4*z+t)) 0]=Aes.up (Aes.mvR (Aes.stR R r N k)) (4*q+t+1)):=by
      show _=_
      rw [Aes.up_succ,Aes.mvR,show (4*q+t) / 4=q by omega,show (4*q+t) % 4=t by omega,← hz,Aes.tn_int]
     have h2:=hT _ hy
     generalize Aes.stR R r N k (4*z+t)=y at *
     generalize Aes.TB.getD y 0=x at *
     have e0:wo.cell? ⟨g,1,none⟩=some (.slice (some ⟨tb,0,none⟩) 256 tc):=by rw [cell_of_row wo g 1 _ _ _ h0];rfl
     have c0:=(HBI.out.cell (World.block_lt_of_cell? wo _ e0)).trans e0
     have c1:=(HBI.out.cell (World.block_lt_of_cell? wo _ h1)).trans h1
     have c2:=(HBI.out.cell (World.block_lt_of_cell? wo _ h2)).trans h2
     clear h0 hT h1 h2 e0
     have d1:((4*(q:Int)+t).tdiv 4)=q:=by rw [Int.tdiv_eq_ediv_of_nonneg (by omega)];omega
     have d2:((4*(q:Int)+t).tmod 4)=t:=by rw [Int.tmod_eq_emod_of_nonneg (by omega)];omega
     have d3:IntKind.i64.wrap ((q:Int)+t)=(q:Int)+t:=IntWalk.i64_in _ ⟨by omega,by omega⟩
     have d4:((q:Int)+t).tmod 4=z:=by rw [Int.tmod_eq_emod_of_nonneg (by omega)];omega
     have d5:IntKind.i64.wrap (4*(z:Int))=4*(z:Int):=IntWalk.i64_in _ ⟨by omega,by omega⟩
     have d6:IntKind.i64.wrap (4*(z:Int)+t)=4*(z:Int)+t:=IntWalk.i64_in _ ⟨by omega,by omega⟩
     have HZT:=Lib.hid hz;clear hz
     go_wp2
     have d7:IntKind.i64.wrap (q:Int)=q:=IntWalk.i64_in _ ⟨by omega,by omega⟩
     have d8:IntKind.i64.wrap (z:Int)=z:=IntWalk.i64_in _ ⟨by omega,by omega⟩
     have d9:IntKind.i64.wrap (t:Int)=t:=IntWalk.i64_in _ ⟨by omega,by omega⟩
     have f1:0≤4*(z:Int)+t:=by omega
     have f2:(4*(z:Int)+t).toNat=4*z+t:=by omega
     have f3:4*(z:Int)+t<16:=by omega
     have f4:0≤(y:Int):=by omega
     have f5:(y:Int)<256:=by omega
     have f6:((y:Int)).toNat=y:=by omega
     have g0:wr.drew.cell? ⟨g,1,none⟩=some (.slice (some ⟨tb,0,none⟩) 256 tc):=c0
     have g1:wr.drew.cell? ⟨sb,4*z+t,none⟩=some (.int .u8 (y:Int)):=c1
     have g2:wr.drew.cell? ⟨tb,y,none⟩=some (.int .u8 x):=c2
     go_region_law ((with_reducible refine step_append_u8 wr _ (.tmp 33) (.tmp 53) wo.heap.size u8 (4*q+t) (Aes.up (Aes.mvR (Aes.stR R r N k)) (4*q+t)) ?_ ?_ ?_ ?_ HO.out ?_ ?_ ?_);(exact rfl);(exact rfl);(exact rfl);(exact rfl);omega;(exact HBI.out.size);intro v' w4 hown' hgrow;have hb1:=below_own'B HBI.out HBI.out.size HO.out hgrow)
     all_goals
      rw [HX.out] at hown'
      clear hgrow HO HBI HX
      go_wp2
      exact ⟨⟨4*q+t+1,by omega,by go_num,hown',hb1⟩,by simp [intOf];omega⟩
    ·have E:j=16:=by omega
     subst E
     obtain ⟨s8,c8,hv⟩:=own_someB HO.out (by decide)
     subst hv
     have h16:(16:Int)≤((16:Nat):Int):=by decide
     have HBW:Hid (Below w.heap.size w wr):=HB.out.trans (HBI.out.mono HB.out.size)
     have HZW:Hid (wr.heap[w.heap.size+1]?=some (.cells (List.replicate 16 (Value.int .u8 0)).toArray 246 (0,0))):=(HBI.out.block _ (lt_of_block HZ.out)).trans HZ.out
     have HT8:Hid (∀ j,j<16→wr.cell? ⟨s8,j,none⟩=some (.int .u8 ((Aes.mvR (Aes.stR R r N k) j:Nat):Int))):=fun j hj=>by
      rw [u8_at HO.out j hj,Aes.up_get _ 16 j hj]
     have HCR:=Lib.hid (HCW.out _ HBW.out)
     clear HO HBI HS HZ HB hjl
     by_cases hkN:k<N
     ·go_wp2_with (first
       | (go_at_call 224;refine (mixed_ref (Aes.mvR (Aes.stR R r N k)) (Aes.mvR_b _) s8 c8 _ HT8.out).mono ?_;rintro e w5 ⟨s5,c5,rfl,ho5,hb5⟩;have HO5:=Lib.hid ho5;have HB5:=Lib.hid hb5;clear ho5 hb5;have HCR5:=Lib.hid (HCR.out.old HB5.out))
       | (go_at_call 223;refine (over_ref' g (4*(N+2)) RL (Aes.mxr (Aes.mvR (Aes.stR R r N k)) 4) (k+1) _ (by push_cast;rfl) (by omega) (by omega) (by omega) s5 c5 _ HCR5.out (fun j hj=>u8_at HO5.out j hj)).mono ?_;rintro e w6 ⟨s6,c6,rfl,ho6,hb6⟩;have HO6:=Lib.hid ho6;have HB6:=Lib.hid hb6;clear ho6 hb6))
      refine ⟨⟨k+1,s6,c6,by omega,by go_num,rfl,?_,?_,?_⟩,by simp [intOf];omega⟩
      ·intro j hj
       rw [u8_at HO6.out j hj,Aes.mxr_up,ovl_up RL R _ (k+1) (Aes.mxR_b _ (Aes.mvR_b _)) (fun j hj=>HR.out _ (by omega)) 16 (by omega),Aes.up_get _ 16 j hj,stR_mid R r N k (by omega)]
      ·exact (HB6.out.block _ (by have:=HB5.out.size;have:=lt_of_block HZW.out;omega)).trans ((HB5.out.block _ (lt_of_block HZW.out)).trans HZW.out)
      ·exact HBW.out.trans ((HB5.out.trans (HB6.out.mono HB5.out.size)).mono HBW.out.size)
     ·obtain rfl:k=N:=by omega
      go_wp2_with (go_at_call 223;refine (over_ref' g (4*(k+2)) RL (Aes.up (Aes.mvR (Aes.stR R r k k)) 16) (k+1) _ (by push_cast;rfl) (by omega) (by omega) (by omega) s8 c8 _ HCR.out (fun j hj=>by rw [HT8.out j hj,Aes.up_get _ 16 j hj])).mono ?_;rintro e w6 ⟨s6,c6,rfl,ho6,hb6⟩;have HO6:=Lib.hid ho6;have HB6:=Lib.hid hb6;clear ho6 hb6)
      refine ⟨⟨k+1,s6,c6,by omega,by go_num,rfl,?_,?_,?_⟩,by simp [intOf];omega⟩
      ·intro j hj
       rw [u8_at HO6.out j hj,ovl_up RL R _ (k+1) (Aes.mvR_b _) (fun j hj=>HR.out _ (by omega)) 16 (by omega),Aes.up_get _ 16 j hj,stR_end R r k]
      ·exact (HB6.out.block _ (lt_of_block HZW.out)).trans HZW.out
      ·exact HBW.out.trans (HB6.out.mono HBW.out.size)
  ·have E:k=N+1:=by omega
   subst E
   have HOUT:Hid (∀ j,j<16→wr.cell? ⟨sb,j,none⟩=some (.int .u8 ((Aes.up (Aes.blR R N r) 16).getD j 0))):=fun j hj=>by
    rw [HS.out j hj,Aes.up_get _ 16 j hj,Aes.stR,if_neg (by omega)]
   generalize hU:Aes.up (Aes.blR R N r) 16=U at *
   have HUL:Hid (U.length=16):=by show _=_;rw [← hU,Aes.up_len]
   clear hU HS
   go_upto_region 16 with fail
   have HG5:Hid ((wr.alloc (.cells #[.int .u8 0,.int .u8 0,.int .u8 0,.int .u8 0,.int .u8 0,.int .u8 0,.int .u8 0,.int .u8 0,.int .u8 0,.int .u8 0,.int .u8 0,.int .u8 0,.int .u8 0,.int .u8 0,.int .u8 0,.int .u8 0] 246)).heap[wr.heap.size]?=some (.cells (List.replicate 16 (Value.int .u8 0)).toArray 246 (0,0))):=heap_alloc_new _ _
   have HZ5:Hid ((wr.alloc (.cells #[.int .u8 0,.int .u8 0,.int .u8 0,.int .u8 0,.int .u8 0,.int .u8 0,.int .u8 0,.int .u8 0,.int .u8 0,.int .u8 0,.int .u8 0,.int .u8 0,.int .u8 0,.int .u8 0,.int .u8 0,.int .u8 0] 246)).heap[w.heap.size+1]?=some (.cells (List.replicate 16 (Value.int .u8 0)).toArray 246 (0,0))):=(heap_alloc_old _ _ (lt_of_block HZ.out)).trans HZ.out
   have HS5:Hid (∀ j,j<16→(wr.alloc (.cells #[.int .u8 0,.int .u8 0,.int .u8 0,.int .u8 0,.int .u8 0,.int .u8 0,.int .u8 0,.int .u8 0,.int .u8 0,.int .u8 0,.int .u8 0,.int .u8 0,.int .u8 0,.int .u8 0,.int .u8 0,.int .u8 0] 246)).cell? ⟨sb,j,none⟩=some (.int .u8 (U.getD j 0))):=fun j hj=>cell_alloc_old _ (HOUT.out j hj)
   have HB5:Hid (Below w.heap.size w (wr.alloc (.cells #[.int .u8 0,.int .u8 0,.int .u8 0,.int .u8 0,.int .u8 0,.int .u8 0,.int .u8 0,.int .u8 0,.int .u8 0,.int .u8 0,.int .u8 0,.int .u8 0,.int .u8 0,.int .u8 0,.int .u8 0,.int .u8 0] 246))):=HB.out.alloc HB.out.size _
   have HNE:Hid (w.heap.size+1<wr.heap.size):=lt_of_block HZ.out
   clear HZ HB HOUT
   generalize wr.alloc (.cells #[.int .u8 0,.int .u8 0,.int .u8 0,.int .u8 0,.int .u8 0,.int .u8 0,.int .u8 0,.int .u8 0,.int .u8 0,.int .u8 0,.int .u8 0,.int .u8 0,.int .u8 0,.int .u8 0,.int .u8 0,.int .u8 0] 246)=w5 at *
   generalize wr.heap.size=G at *
   obtain ⟨A,HA1,HA2,HA3⟩:∃ A:Array Value,Hid (A=(U.map (Value.int .u8)).toArray)∧Hid (A.size=16)∧Hid (A.all (·.oneCell')=true) :=
    ⟨_,rfl,by show _=_;simp [HUL.out],u8_all _⟩
   go_upto_region 17 with ((with_reducible refine row_copy _ _ _ _ 5 G 0 16 16 ⟨sb,0,none⟩ 16 sc 246 (List.replicate 16 (Value.int .u8 0)) (U.map (Value.int .u8)) ?_ ?_ HG5.out Tryz.underlying22 (by kernel_rfl) ?_ ?_ ?_ (u8_oneB _) ?_);(exact rfl);(exact rfl);(rw [List.length_map,HUL.out];rfl);(intro j v hj;have hjl:j<U.length:=(by have:=(List.getElem?_eq_some_iff.1 hj).1;simpa using this);rw [Addr.add_mid,Nat.zero_add,HS5.out j (by rw [HUL.out] at hjl;exact hjl)];rw [List.getElem?_map,List.getElem?_eq_getElem hjl] at hj;rw [List.getD_eq_getElem?_getD,List.getElem?_eq_getElem hjl];simpa using hj);(rw [List.length_map,HUL.out];simp);intro w6 G6 ch6)
   have G6':Hid (w6.heap[G]?=some (.cells A 246 (0,0))):=by
    show _=_
    rw [G6.out,splice_whole _ _ (by rw [List.length_map,HUL.out];rfl),HA1.out]
   have HZ6:Hid (w6.heap[w.heap.size+1]?=some (.cells (List.replicate 16 (Value.int .u8 0)).toArray 246 (0,0))):=(ch6.block _ (by have:=HNE.out;omega)).trans HZ5.out
   have HB6:Hid (Below w.heap.size w w6):=ch6.below HB5.out (by have:=HNE.out;omega)
   clear G6 ch6 HG5 HZ5 HS5 HB5
   go_wp2_with (first
    | ((with_reducible refine row_load _ _ _ _ _ _ _ ?_ G6'.out Tryz.underlying246 ?_ (row_size Tryz.size16 HA2) ?_);(exact rfl);(exact rfl))
    | ((with_reducible refine row_store _ _ _ _ _ _ _ ?_ ?_ HZ6.out (row_size Tryz.size16 HA2) ?_ HA3.out ?_);(exact rfl);(exact rfl);(rw [HA2.out];rfl);intro w7 G7 ch7))
   refine bodyPost_ret (results_cell_row rfl _ _ (w.heap.size+1) 246 A (0,0) _ rfl G7.out Tryz.underlying246 rfl (row_size Tryz.size16 HA2)) rfl ⟨?_,ch7.below HB6.out (by omega)⟩
   rw [HA1.out,Bk]
end
end Go.Proofs.YtnnalemboeccbaaGreatDoor
