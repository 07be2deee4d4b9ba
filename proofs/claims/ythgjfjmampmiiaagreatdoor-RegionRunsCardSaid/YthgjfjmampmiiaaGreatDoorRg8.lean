/-
  RgQ, RgRo, RgOp (merged)
-/
import Derived.Test.YthgjfjmampmiiaaGreatDoorRg3
namespace Go.Proofs.YthgjfjmampmiiaaGreatDoor
open Go.Proofs.Tryz
set_option maxHeartbeats 4000000
set_option maxRecDepth 100000
section
open Go.RowKit
theorem xJ (g s:Int):prog.built 45 [(0,.int .i64 g),(1,.int .i64 s),(2,.int .i64 2)]=some (br (Rg.ny g s)):=by
 rw [rV Tryz.dN Tryz.oz];obtain ⟨pl,D3⟩:∃ pl:Nat→Option (Nat × Nat),pl=fun (i:Nat)=>([(0,1),(1,1),(2,1),(3,32),(35,33),(68,2),(70,2),(72,32),(104,32)]:List (Nat × Nat)).toArray[i]?:=⟨_,rfl⟩;rw [← D3];have p0:pl 0=some (0,1):=by rw [D3];rfl
 have p1:pl 1=some (1,1):=by rw [D3];rfl
 have p2:pl 2=some (2,1):=by rw [D3];rfl
 clear D3;unfold br Rg.ny cv;generalize (bW Rg.zero.su++((Value.int .i64 Rg.zero.rt.1 :: bW Rg.zero.rt.2)++([.int .i64 Rg.zero.bs,.int .i64 Rg.zero.bl]++([.int .i64 Rg.zero.ts,.int .i64 Rg.zero.tl]++(bW Rg.zero.b1++bW Rg.zero.b2)))))=X;change Instr.fill pl (([]:List Value)++(([Value.int .i64 Rg.zero.gen]:List Value)++(([Value.int .i64 Rg.zero.st]:List Value)++(([Value.int .i64 Rg.zero.ep]:List Value)++X)))).toArray _=some (([Value.int .i64 g,Value.int .i64 s,Value.int .i64 2]:List Value)++X).toArray;rw [cQ pl ([]:List Value) ([Value.int .i64 Rg.zero.gen]:List Value) ([Value.int .i64 g]:List Value) _ 0 0 1 (Value.int .i64 g) _ p0 rfl rfl rfl rfl];rw [cQ pl (([]:List Value)++([Value.int .i64 g]:List Value)) ([Value.int .i64 Rg.zero.st]:List Value) ([Value.int .i64 s]:List Value) _ 1 1 1 (Value.int .i64 s) _ p1 rfl rfl rfl rfl];rw [cQ pl ((([]:List Value)++([Value.int .i64 g]:List Value))++([Value.int .i64 s]:List Value)) ([Value.int .i64 Rg.zero.ep]:List Value) ([Value.int .i64 2]:List Value) _ 2 2 1 (Value.int .i64 2) _ p2 rfl rfl rfl rfl];unfold Instr.fill
 rfl
theorem wj (g s:Int) (hg:Pk.aT g) (hs:Pk.aT s) (w:World):qc 22 #[.int .i64 g,.int .i64 s] w (fun e w'=>e = .returned (RV (Rg.ny g s))∧Hid (qw w w')):=by
 obtain ⟨Z,hZ⟩:∃ Z,Hid (br Rg.zero=Z):=⟨_,rfl⟩;have AB:Hid (Z.size=136):=by show _=_;rw [← hZ.out];exact aA Rg.bw
 have hz:=(zero_of_info Tryz.dN).1;rw [show (cv Rg.zero).toArray=Z from hZ.out] at hz;have GV:¬ Z = #[]:=fun h=>by have:=AB.out;rw [h] at this;simp at this
 have Bj:=ae Tryz.ah AB;have KO:=qh (xJ g s);have Aw:Hid ((br (Rg.ny g s)).size=136):=aA (Rg.tH hg hs);have An:Hid ((br (Rg.ny g s)).all (·.oneCell')=true):=dm _;have JF:=qh (cM (Rg.ny g s));rw [JF.out];clear hg hs JF;generalize br (Rg.ny g s)=A at *;have R0:Hid ((w.alloc (.cells Z 45)).heap[w.heap.size]?=qo Z 45):=heap_alloc_new w _;have B0:Hid (qw w (w.alloc (.cells Z 45))):=qb w _;go_enter func22,ntmps22;go_wp2_with (first
  | ((with_reducible refine mK _ _ _ _ ?_ KO.out ?_);(exact rfl))
  | ((with_reducible refine ak _ _ _ _ _ _ _ ?_ ?_ R0.out (ae Tryz.ah Aw) ?_ An.out ?_);(exact rfl);(exact rfl);(rw [Aw.out,AB.out]);intro w4 G4 DM))
 refine bodyPost_ret (results_cell_row rfl _ _ w.heap.size 45 _ (0,0) _ rfl G4.out underlying45 rfl (ae Tryz.ah Aw)) rfl ⟨rfl,DM.below B0.out qn⟩
theorem yl (w:World):qc 6 #[] w (lY w):=by
 have Ch:Hid (∀ y,qc 22 #[.int .i64 1,.int .i64 2] y (fun e w'=>e = .returned (.agg (br Rg.r1))∧Hid (qw y w'))):=fun y=>by
  have h:=wj 1 2 (by unfold Pk.aT;omega) (by unfold Pk.aT;omega) y;rw [cM] at h;unfold Rg.r1;exact h
 have BS:Hid (∀ y,qc 22 #[.int .i64 2,.int .i64 3] y (fun e w'=>e = .returned (.agg (br Rg.r2))∧Hid (qw y w'))):=fun y=>by
  have h:=wj 2 3 (by unfold Pk.aT;omega) (by unfold Pk.aT;omega) y;rw [cM] at h;unfold Rg.r2;exact h
 have Fe:Hid (∀ K y d g,Vs w K y d g Rg.m0 Nm.St.none→qc 30 #[qp d,.iface 66 (qp g),.agg (br Rg.r1),.int .i64 1] y (ahb w K d g (.int .i64 0) Rg.m1 Rg.S1 y)):=fun K y d g h=>by
  have h2:=sM Rg.r1 Rg.kN 1 h Rg.ai0 (Nat.zero_le _);rw [Rg.e1,cM] at h2;unfold Rg.m1 Rg.S1;exact h2
 have Fs:Hid (∀ K y d g,Vs w K y d g Rg.m1 Rg.S1→qc 30 #[qp d,.iface 66 (qp g),.agg (br Rg.r2),.int .i64 5] y (ahb w K d g (.int .i64 0) Rg.m2 Rg.S2 y)):=fun K y d g h=>by
  have h2:=sM Rg.r2 Rg.kU 5 h Rg.ai9 (Nat.le_trans Rg.aja (by omega));rw [Rg.e2,cM] at h2;unfold Rg.m2 Rg.S2;exact h2
 have HA:Hid (∀ K y d g,Vs w K y d g Rg.m2 Rg.S2→qc 14 #[qp d,.iface 66 (qp g)] y (fun e z=>∃ q c,e = .returned (.slice (some ⟨q,0,none⟩) 2 c)∧Hid (Rs z (some ⟨q,0,none⟩) c [Rg.r2,Rg.r1])∧Hid (qw w z))):=fun K y d g h=>by
  refine (agA h Rg.aiM).mono ?_;rintro e z ⟨v,rfl,ho,Ca,hv,hk⟩;rw [Rg.a2] at ho Ca;obtain ⟨p,c,rfl,hs⟩:=ho.out.es Ca.out;obtain ⟨ab,ao,rfl,_⟩:=hs.at_ (by simp);have ha:ao=0:=by
   rcases ho.out.2 with ⟨h1,_⟩ | ⟨g',cap,cur,h1,_⟩
   ·cases h1
   ·injection h1 with h1 _ _;injection h1 with h1;injection h1 with _ h1 _
  subst ha;exact ⟨ab,c,rfl,hs,hv.out.low⟩
 have HP:Hid (∀ y,qc 24 #[.agg (br Rg.r1)] y (eW (Rg.pt Rg.r1) y)):=fun y=>by rw [← cM];exact rT Rg.r1 Rg.kN Rg.qH y
 have HC:Hid (∀ y q c,Rs y (some ⟨q,0,none⟩) c [Rg.r2,Rg.r1]→qc 31 #[.slice (some ⟨q,0,none⟩) 2 c,.int .i64 1] y (fun e w'=>e = .returned (.tuple #[.agg (br Rg.r1),.bool true])∧Hid (qw y w'))):=fun y q c h=>by
  have h2:=uI [Rg.r2,Rg.r1] (some ⟨q,0,none⟩) 2 c rfl (by omega) 1 (by unfold Pk.aT;omega) y h;rw [Rg.c1] at h2;unfold rR at h2;have e:RV ((some Rg.r1).getD Rg.zero) = .agg (br Rg.r1):=cM _;rw [e] at h2;exact h2
 have AM:Hid ((br Rg.r1).size=136):=aA Rg.kN;have Ax:Hid ((br Rg.r1).all (·.oneCell')=true):=dm _;have Ar:Hid ((br Rg.r2).size=136):=aA Rg.kU;have Jp:Hid (∀ y,(Op.equalIn 10000 45 (.agg (br Rg.r1)) (.agg (br Rg.r1))).run prog y = .ok true y):=fun y=>by have h:=pQ _ _ Rg.kN Rg.kN y;rw [decide_eq_true rfl] at h;exact h
 have Hw:Hid (∀ y,(Op.equalIn 10000 45 (.agg (br Rg.r2)) (.agg (br Rg.r2))).run prog y = .ok true y):=fun y=>by have h:=pQ _ _ Rg.kU Rg.kU y;rw [decide_eq_true rfl] at h;exact h
 have AD:Hid (∀ y q c,Rs y (some ⟨q,0,none⟩) c [Rg.r2,Rg.r1]→y.rangeAt q 0 (br Rg.r2).toList):=fun y q c h=>by
  have h2:=h.rng (i:=0) (by simp);rw [Nat.zero_mul,Nat.add_zero] at h2;exact h2
 have HM:Hid (Dk.fresh 4=Rg.m0):=by show _=_;unfold Rg.m0;rfl
 obtain ⟨Z,hZ⟩:∃ Z,Hid (br Rg.zero=Z):=⟨_,rfl⟩;have AB:Hid (Z.size=136):=by show _=_;rw [← hZ.out];exact aA Rg.bw
 have hz:=(zero_of_info Tryz.dN).1;rw [show (cv Rg.zero).toArray=Z from hZ.out] at hz;have GV:¬ Z = #[]:=fun h=>by have:=AB.out;rw [h] at this;simp at this
 have Bj:=ae Tryz.ah AB;generalize br Rg.r1=A1 at *;generalize br Rg.r2=A2 at *;go_enter func6,ntmps6;go_upto_region 5 with (first
  | (go_at_call 7;refine (ajl 4 (by omega) (by omega) _).mono ?_;rintro e1 w1 ⟨d,lb,rb,cb,rfl,DH,Ag⟩;have Ai:=qh Ag)
  | (go_at_call 29;refine (zI _).mono ?_;rintro e2 w2 ⟨g,b,c,rfl,DI,Ex,Al⟩;have Kt:Hid (Vs w w2.heap.size w2 d g Rg.m0 Nm.St.none):=by rw [← HM.out];exact adm DH.out Ai.out Ex.out DI.out Al))
 clear DH Ex DI Al Ag HM;generalize w2.heap.size=K at *;go_upto_region 6 with (first
  | (go_at_call 22;refine (Ch.out _).mono ?_;rintro e3 w3 ⟨rfl,Ao⟩;have IV:=qh (Kt.out.av Ao.out))
  | (go_at_call 30;refine (Fe.out _ _ _ _ IV.out).mono ?_;rintro e4 w4 ⟨rfl,Ku,FO⟩))
 go_upto_region 7 with (first
  | (go_at_call 22;refine (BS.out _).mono ?_;rintro e5 w5 ⟨rfl,Ay⟩;have Fq:=qh (Ku.out.av Ay.out))
  | (go_at_call 30;refine (Fs.out _ _ _ _ Fq.out).mono ?_;rintro e6 w6 ⟨rfl,Lw,Js⟩))
 go_upto_region 8 with (go_at_call 14;refine (HA.out _ _ _ _ Lw.out).mono ?_;rintro e7 w7 ⟨q,c,rfl,DD,AU⟩)
 clear Fe Fs HA Kt IV Ku Fq Lw Ai Ao Ay FO Js;go_upto_region 9 with (first
  | (go_at_call 22;refine (Ch.out _).mono ?_;rintro e8 w8 ⟨rfl,AQ⟩)
  | (go_at_call 24;refine (HP.out _).mono ?_;rintro e9 w9 ⟨p9,c9,rfl,Lh,Sk,Dh⟩;have HBq:=qh (AQ.out.trans (Dh.out.mono AQ.out.size));have Ib:=qh (DD.out.av HBq.out)))
 clear HP Lh Sk Dh AQ;go_upto_region 10 with (first
  | (go_at_call 31;refine (HC.out _ _ _ Ib.out).mono ?_;rintro e10 w10 ⟨rfl,Jm⟩)
  | ((with_reducible refine ak _ _ _ _ _ _ _ ?_ ?_ (heap_alloc_new _ _) (ae Tryz.ah AM) ?_ Ax.out ?_);(exact rfl);(exact rfl);(rw [AM.out,AB.out]);intro w11 Ix LD))
 have KM:Hid (qw w10 w11):=LD.below (qb w10 _) qn;have HBr:Hid (qw w9 w11):=Jm.out.trans (KM.out.mono Jm.out.size);have DC:=qh (Ib.out.av HBr.out);have BZ:Hid (qw w w11.drew):=(AU.out.trans ((HBq.out.trans (HBr.out.mono HBq.out.size)).mono AU.out.size)).drew;have LZ:Hid (Rs w11.drew (some ⟨q,0,none⟩) c [Rg.r2,Rg.r1]):=DC.out.drew;have GZ:Hid (w11.drew.heap[w10.heap.size]?=qo A1 45):=Ix.out;clear HC AU HBq DD Ib Jm KM HBr DC LD Ix;refine wp_region_any (by kernel_rfl) ?_;change wpAny _ _ _ _ _ _ _ (World.drew _);obtain ⟨z,Nz⟩:∃ x,x=w11.drew:=⟨_,rfl⟩;rw [← Nz] at BZ LZ GZ ⊢;clear Nz;generalize w10.heap.size=g9 at *;have Um:=Jp.out;have DW:=Hw.out;have KZ:Hid (∀ y,qw z y→y.rangeAt q 0 A2.toList∧y.heap[g9]?=qo A1 45):=fun y hy=>⟨AD.out y q c (LZ.out.av hy),(hy.block _ (lt_of_block GZ.out)).trans GZ.out⟩;have D0:Hid (qw z z):=Below.refl _ _;refine wpAny_of_held (S:=fun y=>y.rangeAt q 0 A2.toList∧y.heap[g9]?=qo A1 45) _ _ _ _ ?_;have SD:=KZ.out _ D0.out;refine aS 0 42 (.int .i64 0) SD rfl (by intro x hx;have y0:=hx;(first | exact aj 45 (.tmp 64) q 0 A2 _ rfl hx.1 underlying45 rfl (ae Tryz.ah Ar) | exact aj 45 (.tmp 9) g9 0 A1 _ rfl (fun j v hv=>by rw [cell_of_row x g9 (0+j) _ _ _ hx.2,Nat.zero_add];simpa using hv) underlying45 rfl (ae Tryz.ah AM) | go_simp);try (intro h;omega)) ?_;refine aS 1 43 (.bool true) SD rfl (by intro x hx;have y0:=hx;(first | exact aj 45 (.tmp 64) q 0 A2 _ rfl hx.1 underlying45 rfl (ae Tryz.ah Ar) | exact aj 45 (.tmp 9) g9 0 A1 _ rfl (fun j v hv=>by rw [cell_of_row x g9 (0+j) _ _ _ hx.2,Nat.zero_add];simpa using hv) underlying45 rfl (ae Tryz.ah AM) | go_simp);try (intro h;omega)) ?_;refine aS 2 44 (.bool true) SD rfl (by intro x hx;have y0:=hx;(first | exact aj 45 (.tmp 64) q 0 A2 _ rfl hx.1 underlying45 rfl (ae Tryz.ah Ar) | exact aj 45 (.tmp 9) g9 0 A1 _ rfl (fun j v hv=>by rw [cell_of_row x g9 (0+j) _ _ _ hx.2,Nat.zero_add];simpa using hv) underlying45 rfl (ae Tryz.ah AM) | go_simp);try (intro h;omega)) ?_;refine aS 3 45 (.int .i64 0) SD rfl (by intro x hx;have y0:=hx;(first | exact aj 45 (.tmp 64) q 0 A2 _ rfl hx.1 underlying45 rfl (ae Tryz.ah Ar) | exact aj 45 (.tmp 9) g9 0 A1 _ rfl (fun j v hv=>by rw [cell_of_row x g9 (0+j) _ _ _ hx.2,Nat.zero_add];simpa using hv) underlying45 rfl (ae Tryz.ah AM) | go_simp);try (intro h;omega)) ?_;refine aS 4 46 (.bool true) SD rfl (by intro x hx;have y0:=hx;(first | exact aj 45 (.tmp 64) q 0 A2 _ rfl hx.1 underlying45 rfl (ae Tryz.ah Ar) | exact aj 45 (.tmp 9) g9 0 A1 _ rfl (fun j v hv=>by rw [cell_of_row x g9 (0+j) _ _ _ hx.2,Nat.zero_add];simpa using hv) underlying45 rfl (ae Tryz.ah AM) | go_simp);try (intro h;omega)) ?_;refine aS 5 47 (.bool true) SD rfl (by intro x hx;have y0:=hx;(first | exact aj 45 (.tmp 64) q 0 A2 _ rfl hx.1 underlying45 rfl (ae Tryz.ah Ar) | exact aj 45 (.tmp 9) g9 0 A1 _ rfl (fun j v hv=>by rw [cell_of_row x g9 (0+j) _ _ _ hx.2,Nat.zero_add];simpa using hv) underlying45 rfl (ae Tryz.ah AM) | go_simp);try (intro h;omega)) ?_;refine aS 6 48 (.bool true) SD rfl (by intro x hx;have y0:=hx;(first | exact aj 45 (.tmp 64) q 0 A2 _ rfl hx.1 underlying45 rfl (ae Tryz.ah Ar) | exact aj 45 (.tmp 9) g9 0 A1 _ rfl (fun j v hv=>by rw [cell_of_row x g9 (0+j) _ _ _ hx.2,Nat.zero_add];simpa using hv) underlying45 rfl (ae Tryz.ah AM) | go_simp);try (intro h;omega)) ?_;refine aS 7 49 (.int .i64 0) SD rfl (by intro x hx;have y0:=hx;(first | exact aj 45 (.tmp 64) q 0 A2 _ rfl hx.1 underlying45 rfl (ae Tryz.ah Ar) | exact aj 45 (.tmp 9) g9 0 A1 _ rfl (fun j v hv=>by rw [cell_of_row x g9 (0+j) _ _ _ hx.2,Nat.zero_add];simpa using hv) underlying45 rfl (ae Tryz.ah AM) | go_simp);try (intro h;omega)) ?_;refine aS 8 50 (.bool true) SD rfl (by intro x hx;have y0:=hx;(first | exact aj 45 (.tmp 64) q 0 A2 _ rfl hx.1 underlying45 rfl (ae Tryz.ah Ar) | exact aj 45 (.tmp 9) g9 0 A1 _ rfl (fun j v hv=>by rw [cell_of_row x g9 (0+j) _ _ _ hx.2,Nat.zero_add];simpa using hv) underlying45 rfl (ae Tryz.ah AM) | go_simp);try (intro h;omega)) ?_;refine aS 9 51 (.bool true) SD rfl (by intro x hx;have y0:=hx;(first | exact aj 45 (.tmp 64) q 0 A2 _ rfl hx.1 underlying45 rfl (ae Tryz.ah Ar) | exact aj 45 (.tmp 9) g9 0 A1 _ rfl (fun j v hv=>by rw [cell_of_row x g9 (0+j) _ _ _ hx.2,Nat.zero_add];simpa using hv) underlying45 rfl (ae Tryz.ah AM) | go_simp);try (intro h;omega)) ?_;refine aS 10 52 (.bool true) SD rfl (by intro x hx;have y0:=hx;(first | exact aj 45 (.tmp 64) q 0 A2 _ rfl hx.1 underlying45 rfl (ae Tryz.ah Ar) | exact aj 45 (.tmp 9) g9 0 A1 _ rfl (fun j v hv=>by rw [cell_of_row x g9 (0+j) _ _ _ hx.2,Nat.zero_add];simpa using hv) underlying45 rfl (ae Tryz.ah AM) | go_simp);try (intro h;omega)) ?_;refine aS 11 53 (.slice p9 192 c9) SD rfl (by intro x hx;have y0:=hx;(first | exact aj 45 (.tmp 64) q 0 A2 _ rfl hx.1 underlying45 rfl (ae Tryz.ah Ar) | exact aj 45 (.tmp 9) g9 0 A1 _ rfl (fun j v hv=>by rw [cell_of_row x g9 (0+j) _ _ _ hx.2,Nat.zero_add];simpa using hv) underlying45 rfl (ae Tryz.ah AM) | go_simp);try (intro h;omega)) ?_;refine aS 12 54 (.int .i64 192) SD rfl (by intro x hx;have y0:=hx;(first | exact aj 45 (.tmp 64) q 0 A2 _ rfl hx.1 underlying45 rfl (ae Tryz.ah Ar) | exact aj 45 (.tmp 9) g9 0 A1 _ rfl (fun j v hv=>by rw [cell_of_row x g9 (0+j) _ _ _ hx.2,Nat.zero_add];simpa using hv) underlying45 rfl (ae Tryz.ah AM) | go_simp);try (intro h;omega)) ?_;refine aS 13 55 (.bool true) SD rfl (by intro x hx;have y0:=hx;(first | exact aj 45 (.tmp 64) q 0 A2 _ rfl hx.1 underlying45 rfl (ae Tryz.ah Ar) | exact aj 45 (.tmp 9) g9 0 A1 _ rfl (fun j v hv=>by rw [cell_of_row x g9 (0+j) _ _ _ hx.2,Nat.zero_add];simpa using hv) underlying45 rfl (ae Tryz.ah AM) | go_simp);try (intro h;omega)) ?_;refine aS 14 56 (.bool true) SD rfl (by intro x hx;have y0:=hx;(first | exact aj 45 (.tmp 64) q 0 A2 _ rfl hx.1 underlying45 rfl (ae Tryz.ah Ar) | exact aj 45 (.tmp 9) g9 0 A1 _ rfl (fun j v hv=>by rw [cell_of_row x g9 (0+j) _ _ _ hx.2,Nat.zero_add];simpa using hv) underlying45 rfl (ae Tryz.ah AM) | go_simp);try (intro h;omega)) ?_;refine aS 15 57 (.bool true) SD rfl (by intro x hx;have y0:=hx;(first | exact aj 45 (.tmp 64) q 0 A2 _ rfl hx.1 underlying45 rfl (ae Tryz.ah Ar) | exact aj 45 (.tmp 9) g9 0 A1 _ rfl (fun j v hv=>by rw [cell_of_row x g9 (0+j) _ _ _ hx.2,Nat.zero_add];simpa using hv) underlying45 rfl (ae Tryz.ah AM) | go_simp);try (intro h;omega)) ?_;refine aS 16 58 (.slice (some ⟨q,0,none⟩) 2 c) SD rfl (by intro x hx;have y0:=hx;(first | exact aj 45 (.tmp 64) q 0 A2 _ rfl hx.1 underlying45 rfl (ae Tryz.ah Ar) | exact aj 45 (.tmp 9) g9 0 A1 _ rfl (fun j v hv=>by rw [cell_of_row x g9 (0+j) _ _ _ hx.2,Nat.zero_add];simpa using hv) underlying45 rfl (ae Tryz.ah AM) | go_simp);try (intro h;omega)) ?_;refine aS 17 59 (.int .i64 2) SD rfl (by intro x hx;have y0:=hx;(first | exact aj 45 (.tmp 64) q 0 A2 _ rfl hx.1 underlying45 rfl (ae Tryz.ah Ar) | exact aj 45 (.tmp 9) g9 0 A1 _ rfl (fun j v hv=>by rw [cell_of_row x g9 (0+j) _ _ _ hx.2,Nat.zero_add];simpa using hv) underlying45 rfl (ae Tryz.ah AM) | go_simp);try (intro h;omega)) ?_;refine aS 18 60 (.bool true) SD rfl (by intro x hx;have y0:=hx;(first | exact aj 45 (.tmp 64) q 0 A2 _ rfl hx.1 underlying45 rfl (ae Tryz.ah Ar) | exact aj 45 (.tmp 9) g9 0 A1 _ rfl (fun j v hv=>by rw [cell_of_row x g9 (0+j) _ _ _ hx.2,Nat.zero_add];simpa using hv) underlying45 rfl (ae Tryz.ah AM) | go_simp);try (intro h;omega)) ?_;refine aS 19 61 (.bool true) SD rfl (by intro x hx;have y0:=hx;(first | exact aj 45 (.tmp 64) q 0 A2 _ rfl hx.1 underlying45 rfl (ae Tryz.ah Ar) | exact aj 45 (.tmp 9) g9 0 A1 _ rfl (fun j v hv=>by rw [cell_of_row x g9 (0+j) _ _ _ hx.2,Nat.zero_add];simpa using hv) underlying45 rfl (ae Tryz.ah AM) | go_simp);try (intro h;omega)) ?_;refine aS 20 62 (.bool true) SD rfl (by intro x hx;have y0:=hx;(first | exact aj 45 (.tmp 64) q 0 A2 _ rfl hx.1 underlying45 rfl (ae Tryz.ah Ar) | exact aj 45 (.tmp 9) g9 0 A1 _ rfl (fun j v hv=>by rw [cell_of_row x g9 (0+j) _ _ _ hx.2,Nat.zero_add];simpa using hv) underlying45 rfl (ae Tryz.ah AM) | go_simp);try (intro h;omega)) ?_;refine aS 21 63 (.slice (some ⟨q,0,none⟩) 2 c) SD rfl (by intro x hx;have y0:=hx;(first | exact aj 45 (.tmp 64) q 0 A2 _ rfl hx.1 underlying45 rfl (ae Tryz.ah Ar) | exact aj 45 (.tmp 9) g9 0 A1 _ rfl (fun j v hv=>by rw [cell_of_row x g9 (0+j) _ _ _ hx.2,Nat.zero_add];simpa using hv) underlying45 rfl (ae Tryz.ah AM) | go_simp);try (intro h;omega)) ?_;refine aS 22 64 (qp q) SD rfl (by intro x hx;have y0:=hx;(first | exact aj 45 (.tmp 64) q 0 A2 _ rfl hx.1 underlying45 rfl (ae Tryz.ah Ar) | exact aj 45 (.tmp 9) g9 0 A1 _ rfl (fun j v hv=>by rw [cell_of_row x g9 (0+j) _ _ _ hx.2,Nat.zero_add];simpa using hv) underlying45 rfl (ae Tryz.ah AM) | go_simp);try (intro h;omega)) ?_;refine aS 23 65 (.agg A2) SD rfl (by intro x hx;have y0:=hx;(first | exact aj 45 (.tmp 64) q 0 A2 _ rfl hx.1 underlying45 rfl (ae Tryz.ah Ar) | exact aj 45 (.tmp 9) g9 0 A1 _ rfl (fun j v hv=>by rw [cell_of_row x g9 (0+j) _ _ _ hx.2,Nat.zero_add];simpa using hv) underlying45 rfl (ae Tryz.ah AM) | go_simp);try (intro h;omega)) ?_;refine aD 24 (by kernel_rfl) ?_;refine wpOp_step rfl (fun Kc Af=>?_);go_simp;refine (BS.out _).mono ?_;rintro e21 z1 ⟨rfl,HBz1⟩;have D1:=qh (D0.out.trans (HBz1.out.mono D0.out.size));dsimp only;refine Af _ _ ⟨KZ.out _ D1.out,?_⟩;clear Af Kc;try simp only [Act.put,aQ,aR,aO]
 clear SD;have SD:=KZ.out _ D1.out;refine aS 25 67 (.bool true) SD rfl (by intro x hx;have y0:=hx;(first | exact aj 45 (.tmp 64) q 0 A2 _ rfl hx.1 underlying45 rfl (ae Tryz.ah Ar) | exact aj 45 (.tmp 9) g9 0 A1 _ rfl (fun j v hv=>by rw [cell_of_row x g9 (0+j) _ _ _ hx.2,Nat.zero_add];simpa using hv) underlying45 rfl (ae Tryz.ah AM) | go_simp);try (intro h;omega)) ?_;refine aS 26 68 (.bool true) SD rfl (by intro x hx;have y0:=hx;(first | exact aj 45 (.tmp 64) q 0 A2 _ rfl hx.1 underlying45 rfl (ae Tryz.ah Ar) | exact aj 45 (.tmp 9) g9 0 A1 _ rfl (fun j v hv=>by rw [cell_of_row x g9 (0+j) _ _ _ hx.2,Nat.zero_add];simpa using hv) underlying45 rfl (ae Tryz.ah AM) | go_simp);try (intro h;omega)) ?_;refine aS 27 69 (.bool true) SD rfl (by intro x hx;have y0:=hx;(first | exact aj 45 (.tmp 64) q 0 A2 _ rfl hx.1 underlying45 rfl (ae Tryz.ah Ar) | exact aj 45 (.tmp 9) g9 0 A1 _ rfl (fun j v hv=>by rw [cell_of_row x g9 (0+j) _ _ _ hx.2,Nat.zero_add];simpa using hv) underlying45 rfl (ae Tryz.ah AM) | go_simp);try (intro h;omega)) ?_;refine aS 28 70 (.bool true) SD rfl (by intro x hx;have y0:=hx;(first | exact aj 45 (.tmp 64) q 0 A2 _ rfl hx.1 underlying45 rfl (ae Tryz.ah Ar) | exact aj 45 (.tmp 9) g9 0 A1 _ rfl (fun j v hv=>by rw [cell_of_row x g9 (0+j) _ _ _ hx.2,Nat.zero_add];simpa using hv) underlying45 rfl (ae Tryz.ah AM) | go_simp);try (intro h;omega)) ?_;refine aS 29 71 (.bool true) SD rfl (by intro x hx;have y0:=hx;(first | exact aj 45 (.tmp 64) q 0 A2 _ rfl hx.1 underlying45 rfl (ae Tryz.ah Ar) | exact aj 45 (.tmp 9) g9 0 A1 _ rfl (fun j v hv=>by rw [cell_of_row x g9 (0+j) _ _ _ hx.2,Nat.zero_add];simpa using hv) underlying45 rfl (ae Tryz.ah AM) | go_simp);try (intro h;omega)) ?_;refine aS 30 72 (.bool true) SD rfl (by intro x hx;have y0:=hx;(first | exact aj 45 (.tmp 64) q 0 A2 _ rfl hx.1 underlying45 rfl (ae Tryz.ah Ar) | exact aj 45 (.tmp 9) g9 0 A1 _ rfl (fun j v hv=>by rw [cell_of_row x g9 (0+j) _ _ _ hx.2,Nat.zero_add];simpa using hv) underlying45 rfl (ae Tryz.ah AM) | go_simp);try (intro h;omega)) ?_;refine aS 31 73 (.agg A1) SD rfl (by intro x hx;have y0:=hx;(first | exact aj 45 (.tmp 64) q 0 A2 _ rfl hx.1 underlying45 rfl (ae Tryz.ah Ar) | exact aj 45 (.tmp 9) g9 0 A1 _ rfl (fun j v hv=>by rw [cell_of_row x g9 (0+j) _ _ _ hx.2,Nat.zero_add];simpa using hv) underlying45 rfl (ae Tryz.ah AM) | go_simp);try (intro h;omega)) ?_;refine aD 32 (by kernel_rfl) ?_;refine wpOp_step rfl (fun Kc Af=>?_);go_simp;refine (Ch.out _).mono ?_;rintro e22 z2 ⟨rfl,HBz2⟩;have D2:=qh (D1.out.trans (HBz2.out.mono D1.out.size));dsimp only;refine Af _ _ ⟨KZ.out _ D2.out,?_⟩;clear Af Kc;try simp only [Act.put,aQ,aR,aO]
 clear SD;have SD:=KZ.out _ D2.out;refine aS 33 75 (.bool true) SD rfl (by intro x hx;have y0:=hx;(first | exact aj 45 (.tmp 64) q 0 A2 _ rfl hx.1 underlying45 rfl (ae Tryz.ah Ar) | exact aj 45 (.tmp 9) g9 0 A1 _ rfl (fun j v hv=>by rw [cell_of_row x g9 (0+j) _ _ _ hx.2,Nat.zero_add];simpa using hv) underlying45 rfl (ae Tryz.ah AM) | go_simp);try (intro h;omega)) ?_;refine aS 34 76 (.bool true) SD rfl (by intro x hx;have y0:=hx;(first | exact aj 45 (.tmp 64) q 0 A2 _ rfl hx.1 underlying45 rfl (ae Tryz.ah Ar) | exact aj 45 (.tmp 9) g9 0 A1 _ rfl (fun j v hv=>by rw [cell_of_row x g9 (0+j) _ _ _ hx.2,Nat.zero_add];simpa using hv) underlying45 rfl (ae Tryz.ah AM) | go_simp);try (intro h;omega)) ?_;refine aH 35 0 (.bool true) SD rfl (by intro x hx;have y0:=hx;(first | exact aj 45 (.tmp 64) q 0 A2 _ rfl hx.1 underlying45 rfl (ae Tryz.ah Ar) | exact aj 45 (.tmp 9) g9 0 A1 _ rfl (fun j v hv=>by rw [cell_of_row x g9 (0+j) _ _ _ hx.2,Nat.zero_add];simpa using hv) underlying45 rfl (ae Tryz.ah AM) | go_simp);try (intro h;omega)) ?_;try simp only [Act.put,List.setIfInBounds_toArray,List.set_cons_zero]
 refine wpAnyH_done (by kernel_rfl) ?_ _;go_wp2;go_ret;exact ⟨rfl,BZ.out.trans (D2.out.mono BZ.out.size)⟩
end
section
open Go.ChangeShapes Go.WideShapes Go.RowKit
theorem qW:prog.cellsOf 43=2:=by kernel_rfl
theorem yc:prog.cellsOf 45=136:=by kernel_rfl
theorem jd {H:Type} {enc:TypeId × Value→H} {W:World} {fuel:Nat} {cs:List Value} {x:DataW H × List MemPlace} (hlen:cs.length=2) (hf:DataW.trod enc prog W 0 (fun _=>true) true fuel 43 cs=some x) :
  ∃ s l:Int,cs = [.int .i64 s,.int .i64 l]∧Pk.aT s∧Pk.aT l:=by
 obtain ⟨xs,m,_,_,_,Et,CR⟩:=DataW.trod_struct underlying43 hf;have Dq:xs.length=2:=by simpa using Et
 have h0:=CR 0 _ rfl;have h1:=CR 1 _ rfl;rw [List.getElem?_eq_getElem (by omega)] at h0 h1;obtain ⟨k0,e0,_,w0⟩:=DataW.trod_int underlying3 h0;obtain ⟨k1,e1,_,w1⟩:=DataW.trod_int underlying3 h1;refine ⟨k0,k1,?_,eQ w0,eQ w1⟩;rcases cs with _ | ⟨u0,_ | ⟨u1,_ | ⟨u2,q⟩⟩⟩
 ·simp at hlen
 ·simp at hlen
 ·obtain rfl:u0 = .int .i64 k0:=by simpa [Tryz.cm] using e0
  obtain rfl:u1 = .int .i64 k1:=by simpa [Tryz.cm] using e1
  rfl
 ·simp at hlen
theorem gv {l:List Value} (o n:Nat):l.drop o=(l.drop o).take n++l.drop (o+n):=by
 conv=>lhs;rw [← List.take_append_drop n (l.drop o)]
 rw [List.drop_drop]
theorem lQ {H:Type} {enc:TypeId × Value→H} {W:World} {fuel:Nat} {cs:List Value} {x:DataW H × List MemPlace} (hlen:cs.length=136) (hf:DataW.trod enc prog W 0 (fun _=>true) true fuel 45 cs=some x) :
  ∃ r:Rg.R,cs=cv r∧Rg.Ok r:=by
 obtain ⟨xs,m,_,_,_,Et,CR⟩:=DataW.trod_struct underlying45 hf;have Ti:xs.length=9:=by simpa using Et
 have h0:=CR 0 _ rfl;have h1:=CR 1 _ rfl;have h2:=CR 2 _ rfl;have h3:=CR 3 _ rfl;have h4:=CR 4 _ rfl;have h5:=CR 5 _ rfl;have h6:=CR 6 _ rfl;have h7:=CR 7 _ rfl;have h8:=CR 8 _ rfl;rw [List.getElem?_eq_getElem (by omega)] at h0 h1 h2 h3 h4 h5 h6 h7 h8;obtain ⟨k0,e0,_,w0⟩:=DataW.trod_int underlying3 h0;obtain ⟨k1,e1,_,w1⟩:=DataW.trod_int underlying3 h1;obtain ⟨k2,e2,_,w2⟩:=DataW.trod_int underlying3 h2;have g3:DataW.trod enc prog W 0 (fun _=>true) true m 39 ((cs.drop 3).take 32)=some xs[3]:=by
  rw [← iP];exact h3
 obtain ⟨l3,e3,Np,As⟩:=dM (by simp;omega) g3;have g4:DataW.trod enc prog W 0 (fun _=>true) true m 41 ((cs.drop 35).take 33)=some xs[4]:=by
  rw [← xQ];exact h4
 obtain ⟨r4,e4,KF⟩:=mS (by simp;omega) g4;have g5:DataW.trod enc prog W 0 (fun _=>true) true m 43 ((cs.drop 68).take 2)=some xs[5]:=by
  rw [← qW];exact h5
 obtain ⟨s5,p5,e5,Pr,QR⟩:=jd (by simp;omega) g5;have g6:DataW.trod enc prog W 0 (fun _=>true) true m 43 ((cs.drop 70).take 2)=some xs[6]:=by
  rw [← qW];exact h6
 obtain ⟨s6,p6,e6,Jg,QS⟩:=jd (by simp;omega) g6;have g7:DataW.trod enc prog W 0 (fun _=>true) true m 39 ((cs.drop 72).take 32)=some xs[7]:=by
  rw [← iP];exact h7
 obtain ⟨l7,e7,GQ,Bh⟩:=dM (by simp;omega) g7;have g8:DataW.trod enc prog W 0 (fun _=>true) true m 39 ((cs.drop 104).take 32)=some xs[8]:=by
  rw [← iP];exact h8
 obtain ⟨l8,e8,Ja,BV⟩:=dM (by simp;omega) g8;refine ⟨⟨k0,k1,k2,l3,r4,s5,p5,s6,p6,l7,l8⟩,?_,⟨eQ w0,eQ w1,eQ w2,⟨Np,As⟩,⟨KF.2.2,KF.1,KF.2.1⟩,Pr,QR,Jg,QS,⟨GQ,Bh⟩,⟨Ja,BV⟩⟩⟩;have q0:cs.take 3 = [.int .i64 k0,.int .i64 k1,.int .i64 k2]:=by
  rcases cs with _ | ⟨u0,_ | ⟨u1,_ | ⟨u2,q⟩⟩⟩
  ·simp at hlen
  ·simp at hlen
  ·simp at hlen
  ·obtain rfl:u0 = .int .i64 k0:=by simpa [Tryz.cm] using e0
   obtain rfl:u1 = .int .i64 k1:=by simpa [Tryz.cm] using e1
   obtain rfl:u2 = .int .i64 k2:=by simpa [Tryz.cm] using e2
   rfl
 have q8:cs.drop 104=l8.map (Value.int .u8):=by
  rw [← e8,List.take_of_length_le (by simp;omega)]
 have e4':(cs.drop 35).take 33=Value.int .i64 r4.1 :: r4.2.map (Value.int .u8):=e4;unfold cv;rw [← List.take_append_drop 3 cs,q0,gv 3 32,e3,gv 35 33,e4',gv 68 2,e5,gv 70 2,e6,gv 72 32,e7,q8]
end
section
open Go.ChangeShapes Go.WideShapes Go.RowKit
namespace Rg
structure O where
 k:Int
 n:Int
 m:Int
 r:R
 D:List Int
 L:List Int
def dF:O:=⟨0,0,0,zero,[],[]⟩
end Rg
def oc (x:Rg.O) (pd:Option Addr) (cd:Nat) (pf:Option Addr) (cf:Nat):List Value:=[.int .i64 x.k,.int .i64 x.n,.int .i64 x.m]++(cv x.r++[.slice pd x.D.length cd,.slice pf x.L.length cf])
structure eR (w:World) (x:Rg.O) (pd:Option Addr) (cd:Nat) (pf:Option Addr) (cf:Nat):Prop where
 ok:Rg.Ok x.r
 k:Pk.aT x.k
 n:Pk.aT x.n
 m:Pk.aT x.m
 D:Bs w pd cd x.D
 L:IAt w pf x.L
theorem eR.av {w y:World} {x:Rg.O} {pd:Option Addr} {cd:Nat} {pf:Option Addr} {cf:Nat} (h:eR w x pd cd pf cf) (hb:qw w y):eR y x pd cd pf cf:=⟨h.ok,h.k,h.n,h.m,h.D.av hb,h.L.av hb⟩
theorem ag8 {x:Rg.O} (h:Rg.Ok x.r) (pd:Option Addr) (cd:Nat) (pf:Option Addr) (cf:Nat):(oc x pd cd pf cf).length=141:=by unfold oc;simp [dr h]
def Os (y:World) (p:Option Addr) (X:List Rg.O):Prop:=0<X.length→∃ ab ao,p=some ⟨ab,ao,none⟩∧∀ i,i<X.length→∃ pd cd pf cf,y.rangeAt ab (ao+i*141) (oc (X.getD i Rg.dF) pd cd pf cf)∧eR y (X.getD i Rg.dF) pd cd pf cf
theorem Os.av {w y:World} {p:Option Addr} {X:List Rg.O} (h:Os w p X) (hb:qw w y):Os y p X:=fun h0=>by
 obtain ⟨ab,ao,e,hi⟩:=h h0;refine ⟨ab,ao,e,fun i Nk=>?_⟩;obtain ⟨pd,cd,pf,cf,h1,h2⟩:=hi i Nk;exact ⟨pd,cd,pf,cf,pX h1 hb,h2.av hb⟩
theorem sX:prog.cellsOf 48=141:=by kernel_rfl
theorem tX:prog.cellsOf 46=1:=by kernel_rfl
theorem yR:prog.cellsOf 22=1:=by kernel_rfl
theorem k8 {H:Type} {enc:TypeId × Value→H} {W:World} {m:Nat} {c:Value} {x:DataW H × List MemPlace} (hf:DataW.trod enc prog W 0 (fun _=>true) true m 46 [c]=some x) :
  ∃ (L:List Int) (p:Option Addr) (cap:Nat),c = .slice p L.length cap∧IAt W p L:=by
 rcases open_ints underlying46 underlying3 Tryz.cm hf with ⟨A7,_⟩ | ⟨a,len,cap,zs,A7,_,hl,hm,hz,_,BK,QZ⟩
 ·obtain rfl:c = .slice none 0 0:=by simpa using A7
  exact ⟨[],none,0,rfl,fun h0=>by simp at h0⟩
 ·obtain rfl:c = .slice (some a) len cap:=by simpa using A7
  simp only [if_true] at hz;have J3:(zs.take len).length=len:=by simp;omega
  refine ⟨zs.take len,some a,cap,by rw [J3],fun h0=>?_⟩;rw [J3] at h0 ⊢;obtain ⟨ab,ao,spot⟩:=a;have D5:spot=none:=by simpa [Addr.add] using World.cell?_spot (BK 0 (by omega))
  subst D5;refine ⟨ab,ao,rfl,fun j hj=>?_⟩;have h:=BK j (by omega);rw [Addr.add_mid] at h;rw [h];congr 2;simp [List.getD_eq_getElem?_getD,hj]
theorem nB {H:Type} {enc:TypeId × Value→H} {W:World} {fuel:Nat} {cs:List Value} {x:DataW H × List MemPlace} (hlen:cs.length=141) (hf:DataW.trod enc prog W 0 (fun _=>true) true fuel 48 cs=some x) :
  ∃ (o:Rg.O) (pd:Option Addr) (cd:Nat) (pf:Option Addr) (cf:Nat),cs=oc o pd cd pf cf∧eR W o pd cd pf cf:=by
 obtain ⟨xs,m,_,_,_,Et,CR⟩:=DataW.trod_struct underlying48 hf;have Ti:xs.length=6:=by simpa using Et
 have h0:=CR 0 _ rfl;have h1:=CR 1 _ rfl;have h2:=CR 2 _ rfl;have h3:=CR 3 _ rfl;have h4:=CR 4 _ rfl;have h5:=CR 5 _ rfl;rw [List.getElem?_eq_getElem (by omega)] at h0 h1 h2 h3 h4 h5;obtain ⟨k0,e0,_,w0⟩:=DataW.trod_int underlying3 h0;obtain ⟨k1,e1,_,w1⟩:=DataW.trod_int underlying3 h1;obtain ⟨k2,e2,_,w2⟩:=DataW.trod_int underlying3 h2;have g3:DataW.trod enc prog W 0 (fun _=>true) true m 45 ((cs.drop 3).take 136)=some xs[3]:=by
  rw [← yc];exact h3
 obtain ⟨r,e3,hr⟩:=lQ (by simp;omega) g3;have q4:(cs.drop 139).take 1 = [cs.getD 139 (.bool false)]:=by
  rw [List.getD_eq_getElem?_getD,List.getElem?_eq_getElem (by omega)];rw [List.drop_eq_getElem_cons (by omega)]
  rfl
 have q5:(cs.drop 140).take 1 = [cs.getD 140 (.bool false)]:=by
  rw [List.getD_eq_getElem?_getD,List.getElem?_eq_getElem (by omega)];rw [List.drop_eq_getElem_cons (by omega)]
  rfl
 have g4:DataW.trod enc prog W 0 (fun _=>true) true m 22 [cs.getD 139 (.bool false)]=some xs[4]:=by
  rw [← q4,← yR];exact h4
 have g5:DataW.trod enc prog W 0 (fun _=>true) true m 46 [cs.getD 140 (.bool false)]=some xs[5]:=by
  rw [← q5,← tX];exact h5
 obtain ⟨Ld,pd,cd,e4,bd⟩:=jc g4;obtain ⟨Lf,pf,cf,e5,bf⟩:=k8 g5;refine ⟨⟨k0,k1,k2,r,Ld,Lf⟩,pd,cd,pf,cf,?_,hr,eQ w0,eQ w1,eQ w2,bd,bf⟩;have q0:cs.take 3 = [.int .i64 k0,.int .i64 k1,.int .i64 k2]:=by
  rcases cs with _ | ⟨u0,_ | ⟨u1,_ | ⟨u2,q⟩⟩⟩
  ·simp at hlen
  ·simp at hlen
  ·simp at hlen
  ·obtain rfl:u0 = .int .i64 k0:=by simpa [Tryz.cm] using e0
   obtain rfl:u1 = .int .i64 k1:=by simpa [Tryz.cm] using e1
   obtain rfl:u2 = .int .i64 k2:=by simpa [Tryz.cm] using e2
   rfl
 have q6:cs.drop 139 = [.slice pd Ld.length cd,.slice pf Lf.length cf]:=by
  rw [gv 139 1,q4,e4];have:cs.drop (139+1)=(cs.drop 140).take 1:=by rw [List.take_of_length_le (by simp;omega)]
  rw [this,q5,e5]
  rfl
 unfold oc;rw [← List.take_append_drop 3 cs,q0,gv 3 136,e3,q6]
theorem abf {H:Type} {enc:TypeId × Value→H} {W:World} {base:Nat} {v:Value} {d:DataW H} {ps:List MemPlace} (Ca:Value.okWide prog W .any base 23 v)
  (h:DataW.Trod enc prog W 0 (fun _=>true) true 23 v d ps):∃ (X:List Rg.O) (p:Option Addr) (cap:Nat),v = .slice p X.length cap∧Os W p X:=by
 obtain ⟨a0,len,cap,rfl⟩:=okWide_slice underlying23 Ca;obtain ⟨fuel,hf⟩:=h;rcases Go.Deep.open_slice underlying23 hf with ⟨A7,_⟩ | ⟨a,len',AO,m,n,D,Pl,A7,_,hl,hm,Pf,_,hi⟩
 ·simp [Value.cells] at A7;obtain ⟨rfl,rfl,rfl⟩:=A7;exact ⟨[],none,0,rfl,fun h0=>by simp at h0⟩
 ·simp [Value.cells] at A7;obtain ⟨rfl,rfl,rfl⟩:=A7;simp only [if_true] at Pf;have key:∀ i,i<len→∃ x:Rg.O,∃ ab ao,a = ⟨ab,ao,none⟩∧∃ pd cd pf cf,W.rangeAt ab (ao+i*141) (oc x pd cd pf cf)∧eR W x pd cd pf cf:=fun i Nk=>by
   obtain ⟨cs0,Dx,_⟩:=hi 0 (by omega);rw [sX,Nat.zero_mul] at Dx;obtain ⟨_,SS,OA⟩:=World.cells?_some Dx;have z0:=OA 0 (by omega);rw [List.getElem?_eq_getElem (by omega)] at z0;obtain ⟨cs',hc,ht⟩:=hi i (by omega);rw [sX] at hc;obtain ⟨_,EI,hat⟩:=World.cells?_some hc;obtain ⟨o,pd,cd,pf,cf,he,hop⟩:=nB EI ht;obtain ⟨ab,ao,spot⟩:=a;have D5:spot=none:=by simpa [Addr.add] using World.cell?_spot z0
   subst D5;refine ⟨o,ab,ao,rfl,pd,cd,pf,cf,fun j u hu=>?_,hop⟩;rw [← he] at hu;have hj:=(List.getElem?_eq_some_iff.1 hu).1;have hx:=hat j (by omega);rw [Go.Deep.add_add,Addr.add_mid,hu] at hx;rw [show ao+i*141+j=ao+(i*141+j) by omega];exact hx
  obtain ⟨L,hL,hq⟩:=wK (Q:=fun i x=>∃ ab ao,a = ⟨ab,ao,none⟩∧∃ pd cd pf cf,W.rangeAt ab (ao+i*141) (oc x pd cd pf cf)∧eR W x pd cd pf cf) len key;have hget:∀ i,i<len→∃ ab ao,a = ⟨ab,ao,none⟩∧∃ pd cd pf cf,W.rangeAt ab (ao+i*141) (oc (L.getD i Rg.dF) pd cd pf cf)∧eR W (L.getD i Rg.dF) pd cd pf cf:=fun i Nk=>by
   refine hq i _ ?_;rw [List.getD_eq_getElem?_getD,List.getElem?_eq_getElem (by omega)]
   rfl
  refine ⟨L,some a,cap,by rw [hL],fun h0=>?_⟩;obtain ⟨ab,ao,e,_⟩:=hget 0 (by omega);subst e;refine ⟨ab,ao,rfl,fun i Nk=>?_⟩;obtain ⟨ab',ao',e',pd,cd,pf,cf,h1,h2⟩:=hget i (by omega);cases e'
  exact ⟨pd,cd,pf,cf,h1,h2⟩
end
end Go.Proofs.YthgjfjmampmiiaaGreatDoor
