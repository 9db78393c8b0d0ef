/- For every world and number the program's RaisePower answers as the specification's does, writes into nothing that it is handed, and its answer is memory of its own: the law FnExactRaisePower returns true at every input, and changes nothing that was there. No condition. -/
import Derived.Test.YtccmhgeigkmicaaGreatRows
import Derived.Test.YtccmhgeigkmicaaGreatZPraiseai
set_option linter.unusedVariables false
set_option linter.unusedSimpArgs false
set_option maxHeartbeats 16000000
namespace Go.Proofs.YtccmhgeigkmicaaGreat
open Go.ChangeShapes Go.WideShapes Go.ChangeAt Go.RowKit F256
theorem zhP {w:World} {b:Nat} {t:TypeId} {a0 a1 a2 a3 a4 a5 a6 a7 a8 a9 a10 a11 a12 a13 a14:Value} (h:Box w b #[a0,a1,a2,a3,a4,a5,a6,a7,a8,a9,a10,a11,a12,a13,a14] t) :
 w.cell? ⟨b,0,none⟩=some a0∧w.cell? ⟨b,1,none⟩=some a1∧w.cell? ⟨b,2,none⟩=some a2∧w.cell? ⟨b,3,none⟩=some a3∧w.cell? ⟨b,4,none⟩=some a4∧w.cell? ⟨b,5,none⟩=some a5∧w.cell? ⟨b,6,none⟩=some a6∧w.cell? ⟨b,7,none⟩=some a7∧w.cell? ⟨b,8,none⟩=some a8∧w.cell? ⟨b,9,none⟩=some a9∧w.cell? ⟨b,10,none⟩=some a10∧w.cell? ⟨b,11,none⟩=some a11∧w.cell? ⟨b,12,none⟩=some a12∧w.cell? ⟨b,13,none⟩=some a13∧w.cell? ⟨b,14,none⟩=some a14:=
 ⟨h.cell 0,h.cell 1,h.cell 2,h.cell 3,h.cell 4,h.cell 5,h.cell 6,h.cell 7,h.cell 8,h.cell 9,h.cell 10,h.cell 11,h.cell 12,h.cell 13,h.cell 14⟩
theorem zhx (d:WorldD) (s:Int):∃ q,RaiseAns d s q:=by
 obtain ⟨x,hx⟩:=zhq d
 by_cases h:x=0
 ·subst h
  by_cases h1:InP s (-1) 1000000000
  ·cases h2:d.down with
   | false=>exact ⟨_,.inr ⟨hx,.inr ⟨h1,.inl ⟨h2,rfl⟩⟩⟩⟩
   | true=>exact ⟨_,.inr ⟨hx,.inr ⟨h1,.inr ⟨h2,rfl⟩⟩⟩⟩
  ·exact ⟨_,.inr ⟨hx,.inl ⟨h1,rfl⟩⟩⟩
 ·exact ⟨_,.inl ⟨x,h,hx,rfl⟩⟩
theorem zhy {d:WorldD} {s:Int} {q:WorldResultD} (hq:RaiseAns d s q) (hsz:za1 d≤1048576):zaT q≤90000000:=by
 rcases hq with ⟨x,_,_,rfl⟩ | ⟨_,⟨_,rfl⟩ | ⟨_,⟨_,rfl⟩ | ⟨_,rfl⟩⟩⟩
 ·exact Nat.zero_le _
 ·exact Nat.zero_le _
 ·exact Nat.zero_le _
 ·have h1:=zdU d
  show zbp d≤_
  omega
theorem zff {d:WorldD} {s:Int} {q:WorldResultD} {w:World} {f:Nat} {args:Array Value} (hq:RaiseAns d s q) (h:Calls Tryz.prog f args w (zdu (RaiseAns d s) w)):Calls Tryz.prog f args w fun e w'=>∃ cs,e=.returned (.agg cs.toArray)∧OwnT zat w' w.heap.size w'.heap.size q cs∧Below w.heap.size w w':=
 h.mono fun e w' ⟨d',cs,h1,h2,h3,h4⟩=>⟨cs,h1,by rw [hq.one h2];exact h3,h4⟩
set_option maxRecDepth 20000 in
theorem zcb (d:WorldD) (cs:List Value) (i0:Int) (w:World) (rd0:zae.rd w w.heap.size d cs) (hi0:-9223372036854775808≤i0∧i0≤9223372036854775807) :
 Calls Tryz.prog 3 #[.agg cs.toArray,.int .i64 i0] w fun e w'=>e=.returned (.bool true)∧Below w.heap.size w w':=by
 obtain ⟨v0,v1,v2,v3,v4,v5,v6,v7,v8,vp0,vl0,vq0,vp1,vl1,vq1,vp2,vl2,vq2,v9,v10,vb,rfl⟩:=zem rd0;have HR:=hid rd0;have HHi0:=hid hi0;clear rd0 hi0;have T0:=zaI w (rwV v0 v1 v2 v3 v4 v5 v6 v7 v8 vp0 vl0 vq0 vp1 vl1 vq1 vp2 vl2 vq2 v9 v10 vb).toArray 28
 go_enter Tryz.func3,Tryz.ntmps3
 go_wp2_with (refine zau 28 (.tmp 2) rfl rfl (w.heap.size) rfl T0.b1 Tryz.underlying28 zec rfl ?_)
 refine (zgv _ d w.heap.size 1048576 _ (zae.rd_below HR.out T0.bel (Nat.le_refl _)) T0.bel.size (by omega)).mono ?_;rintro e w1 ⟨x,rfl,hx,b1⟩;have T1:=T0.call b1;have HT1:=hid T1;clear b1 T0
 rcases hx with rfl | ⟨hsz,hx⟩
 ·clear T1
  go_wp2;go_ret;exact ⟨rfl,HT1.out.bel⟩
 have hx0:¬ x<0:=by omega
 clear hx;obtain ⟨q,hq⟩:=zhx d i0;obtain ⟨N,hN⟩:∃ N,N=1+zaT q:=⟨_,rfl⟩
 have hj:1+zaT q≤100000000:=by have:=zhy hq hsz;omega
 obtain ⟨M,hM⟩:∃ M,M=1+zbp d:=⟨_,rfl⟩
 have hk:1+zbp d≤100000000:=by have:=zdU d;omega
 have CT:∀ w',Below w1.heap.size w1 w'→Calls Tryz.prog 6 #[.agg (rwV v0 v1 v2 v3 v4 v5 v6 v7 v8 vp0 vl0 vq0 vp1 vl1 vq1 vp2 vl2 vq2 v9 v10 vb).toArray] w' fun e w''=>∃ cs',e=.returned (.agg cs'.toArray)∧OwnT zae w'' w'.heap.size w''.heap.size d cs'∧Below w'.heap.size w' w'':=fun w' hb=>
  zgo _ d w.heap.size w' (zae.rd_below (zae.rd_below HR.out HT1.out.bel (Nat.le_refl _)) hb HT1.out.bel.size) (Nat.le_trans HT1.out.bel.size hb.size) hsz
 have CS:=fun (cs':List Value) (hi:Nat) (w':World) (h1:zae.rd w' hi d cs') (h2:hi≤w'.heap.size)=>zff hq (zeq d i0 cs' hi w' h1 h2 hsz HHi0.out);have CI:=fun (cs':List Value) (hi:Nat) (w':World) (h1:zae.rd w' hi d cs') (h2:hi≤w'.heap.size)=>zff hq (zet d i0 cs' hi w' h1 h2 hsz HHi0.out);have CE:=fun c1 c2 h1 h2 w'=>zda c1 c2 q h1 h2 w';have CW:=fun c1 c2 h1 h2 w'=>zdR c1 c2 d h1 h2 w';have CM:=fun {w':World} {lo hi:Nat} {cs:List Value} (h:OwnT zat w' lo hi q cs)=>zhD zcM h 1 hj;have CK:=fun {w':World} {lo hi:Nat} {cs:List Value} (h:OwnT zae w' lo hi d cs)=>zhD zc2 h 1 hk;have CH:=fun (cs:List Value) (hi:Nat) (w':World) (h:zat.rd w' hi (zbq 1 q) cs) (hh:hi≤w'.heap.size)=>zcN cs q hi 1 w' h hh hj;rw [← hN] at CM CH;rw [← hM] at CK;clear hN hM hj hk hq hsz
 go_wp2_with (refine zau 28 (.tmp 2) rfl rfl (w.heap.size) rfl T1.b1 Tryz.underlying28 zec rfl ?_)
 refine (CT _ (Below.refl _ _)).mono ?_;rintro e w2 ⟨c2,rfl,o2,b2⟩;have z1:w.heap.size<w1.heap.size:=T1.b1.lt;clear T1
 go_wp2_with fail
 refine (CS _ _ _ o2.rd (Nat.le_refl _)).mono ?_;rintro e w3 ⟨cS,rfl,oS,b3⟩;obtain ⟨sc,s0,s1,s2,s3,s4,s5,s6,s7,s8,sp0,sl0,sq0,sp1,sl1,sq1,sp2,sl2,sq2,s9,s10,sb,rfl⟩:=zg7 oS.rd;have z2:w1.heap.size≤w2.heap.size:=b2.size;have z3:w2.heap.size≤w3.heap.size:=b3.size;have B3:Below w1.heap.size w1 w3:=b2.trans (b3.mono b2.size);clear o2 b2 b3
 go_upto_region 6 with (refine zbd 36 6 (.tmp 21) _ _ 16 rfl rfl rfl rfl rfl rfl rfl rfl zfG rfl rfl oS.one ?_)
 have bA:=bAl w3 (.cells (.int .i64 sc::rwV s0 s1 s2 s3 s4 s5 s6 s7 s8 sp0 sl0 sq0 sp1 sl1 sq1 sp2 sl2 sq2 s9 s10 sb).toArray 36);have S4:=zaF w3 (.int .i64 sc::rwV s0 s1 s2 s3 s4 s5 s6 s7 s8 sp0 sl0 sq0 sp1 sl1 sq1 sp2 sl2 sq2 s9 s10 sb).toArray 36;obtain ⟨W4,hW4⟩:∃ x,x=w3.alloc (.cells (.int .i64 sc::rwV s0 s1 s2 s3 s4 s5 s6 s7 s8 sp0 sl0 sq0 sp1 sl1 sq1 sp2 sl2 sq2 s9 s10 sb).toArray 36):=⟨_,rfl⟩;rw [← hW4] at bA S4 ⊢;have B4:=B3.trans (bA.mono (by omega));have P4:=HT1.out.call B4;have OS4:=oS.call bA;have z4:w3.heap.size<W4.heap.size:=S4.lt;clear bA hW4 oS B3
 go_wp2_with (refine zau 28 (.tmp 2) rfl rfl (w.heap.size) rfl P4.b1 Tryz.underlying28 zec rfl ?_)
 refine (CT _ B4).mono ?_;rintro e w5 ⟨cX,rfl,oX,b5⟩;obtain ⟨x0,x1,x2,x3,x4,x5,x6,x7,x8,xp0,xl0,xq0,xp1,xl1,xq1,xp2,xl2,xq2,x9,x10,xb,rfl⟩:=zen oX;have z5:W4.heap.size≤w5.heap.size:=b5.size;have B5:=B4.trans (b5.mono (by omega));have S5:=S4.call b5;have OS5:=OS4.call b5;clear P4 b5 B4 S4 OS4
 go_upto_region 7 with (refine zbd 34 7 (.tmp 23) _ _ 15 rfl rfl rfl rfl rfl rfl rfl rfl zg6 rfl rfl oX.one ?_)
 have bA:=bAl w5 (.cells (rwV x0 x1 x2 x3 x4 x5 x6 x7 x8 xp0 xl0 xq0 xp1 xl1 xq1 xp2 xl2 xq2 x9 x10 xb).toArray 34);have X6:=zaF w5 (rwV x0 x1 x2 x3 x4 x5 x6 x7 x8 xp0 xl0 xq0 xp1 xl1 xq1 xp2 xl2 xq2 x9 x10 xb).toArray 34;obtain ⟨W6,hW6⟩:∃ x,x=w5.alloc (.cells (rwV x0 x1 x2 x3 x4 x5 x6 x7 x8 xp0 xl0 xq0 xp1 xl1 xq1 xp2 xl2 xq2 x9 x10 xb).toArray 34):=⟨_,rfl⟩;rw [← hW6] at bA X6 ⊢;have B6:=B5.trans (bA.mono (by omega));have S6:=S5.call bA;have OS6:=OS5.call bA;have OX6:=oX.call bA;have z6:w5.heap.size<W6.heap.size:=X6.lt;clear bA hW6 oX B5 S5 OS5
 go_wp2_with (refine zau 34 (.tmp 7) rfl rfl (w5.heap.size) rfl X6 Tryz.underlying34 zco rfl ?_)
 refine (CI _ _ _ OX6.rd (by omega)).mono ?_;rintro e w7 ⟨cG,rfl,oG,b7⟩;obtain ⟨gc,g0,g1,g2,g3,g4,g5,g6,g7,g8,gp0,gl0,gq0,gp1,gl1,gq1,gp2,gl2,gq2,g9,g10,gb,rfl⟩:=zg7 oG.rd;have z7:W6.heap.size≤w7.heap.size:=b7.size;have B7:=B6.trans (b7.mono (by omega));have S7:=S6.call b7;have OS7:=OS6.call b7;have X7:=X6.call b7;have OX7:=OX6.call b7;clear b7 B6 S6 OS6 X6 OX6
 go_upto_region 8 with (refine zbd 36 8 (.tmp 26) _ _ 16 rfl rfl rfl rfl rfl rfl rfl rfl zfG rfl rfl oG.one ?_)
 have bA:=bAl w7 (.cells (.int .i64 gc::rwV g0 g1 g2 g3 g4 g5 g6 g7 g8 gp0 gl0 gq0 gp1 gl1 gq1 gp2 gl2 gq2 g9 g10 gb).toArray 36);have G8:=zaF w7 (.int .i64 gc::rwV g0 g1 g2 g3 g4 g5 g6 g7 g8 gp0 gl0 gq0 gp1 gl1 gq1 gp2 gl2 gq2 g9 g10 gb).toArray 36;obtain ⟨W8,hW8⟩:∃ x,x=w7.alloc (.cells (.int .i64 gc::rwV g0 g1 g2 g3 g4 g5 g6 g7 g8 gp0 gl0 gq0 gp1 gl1 gq1 gp2 gl2 gq2 g9 g10 gb).toArray 36):=⟨_,rfl⟩;rw [← hW8] at bA G8 ⊢;have B8:=B7.trans (bA.mono (by omega));have S8:=S7.call bA;have OS8:=OS7.call bA;have X8:=X7.call bA;have OX8:=OX7.call bA;have OG8:=oG.call bA;have z8:w7.heap.size<W8.heap.size:=G8.lt;clear bA hW8 oG B7 S7 OS7 X7 OX7
 go_wp2_with (first | (refine zau 36 (.tmp 8) rfl rfl (w7.heap.size) rfl G8 Tryz.underlying36 zaS rfl ?_) | (refine zau 36 (.tmp 6) rfl rfl (w3.heap.size) rfl S8 Tryz.underlying36 zaS rfl ?_))
 refine (CE _ _ _ _ _ OG8.rd OS8.rd (by omega) (by omega)).mono ?_;rintro e w9 ⟨rfl,b9⟩;have z9:W8.heap.size≤w9.heap.size:=b9.size;have B9:=B8.trans (b9.mono (by omega));have S9:=hid (S8.call b9);have OS9:=hid (OS8.call b9);have X9:=hid (X8.call b9);have OX9:=hid (OX8.call b9);have G9:=hid (G8.call b9);have OG9:=hid (OG8.call b9);have HB9:=hid B9;have P9:=hid (HT1.out.call B9);have u_0:w9.cell? ⟨w5.heap.size,0,none⟩=some (.int .i64 x0):=X9.out.cell 0;have u_1:w9.cell? ⟨w5.heap.size,1,none⟩=some (.int .i64 x1):=X9.out.cell 1;have u_2:w9.cell? ⟨w5.heap.size,2,none⟩=some (.int .i64 x2):=X9.out.cell 2;have u_3:w9.cell? ⟨w5.heap.size,3,none⟩=some (.int .i64 x3):=X9.out.cell 3;have u_4:w9.cell? ⟨w5.heap.size,4,none⟩=some (.int .i64 x4):=X9.out.cell 4;have u_5:w9.cell? ⟨w5.heap.size,5,none⟩=some (.int .i64 x5):=X9.out.cell 5;have u_6:w9.cell? ⟨w5.heap.size,6,none⟩=some (.int .i64 x6):=X9.out.cell 6;have u_7:w9.cell? ⟨w5.heap.size,7,none⟩=some (.int .i64 x7):=X9.out.cell 7;have u_8:w9.cell? ⟨w5.heap.size,8,none⟩=some (.int .i64 x8):=X9.out.cell 8
 have u_9:w9.cell? ⟨w5.heap.size,9,none⟩=some (.slice xp0 xl0 xq0):=X9.out.cell 9;have u_10:w9.cell? ⟨w5.heap.size,10,none⟩=some (.slice xp1 xl1 xq1):=X9.out.cell 10;have u_11:w9.cell? ⟨w5.heap.size,11,none⟩=some (.slice xp2 xl2 xq2):=X9.out.cell 11;have u_12:w9.cell? ⟨w5.heap.size,12,none⟩=some (.int .i64 x9):=X9.out.cell 12;have u_13:w9.cell? ⟨w5.heap.size,13,none⟩=some (.int .i64 x10):=X9.out.cell 13;have u_14:w9.cell? ⟨w5.heap.size,14,none⟩=some (.bool xb):=X9.out.cell 14;have y_0:w9.cell? ⟨w.heap.size,0,none⟩=some (.int .i64 v0):=P9.out.b1.cell 0;have y_1:w9.cell? ⟨w.heap.size,1,none⟩=some (.int .i64 v1):=P9.out.b1.cell 1;have y_2:w9.cell? ⟨w.heap.size,2,none⟩=some (.int .i64 v2):=P9.out.b1.cell 2;have y_3:w9.cell? ⟨w.heap.size,3,none⟩=some (.int .i64 v3):=P9.out.b1.cell 3;have y_4:w9.cell? ⟨w.heap.size,4,none⟩=some (.int .i64 v4):=P9.out.b1.cell 4;have y_5:w9.cell? ⟨w.heap.size,5,none⟩=some (.int .i64 v5):=P9.out.b1.cell 5;have y_6:w9.cell? ⟨w.heap.size,6,none⟩=some (.int .i64 v6):=P9.out.b1.cell 6;have y_7:w9.cell? ⟨w.heap.size,7,none⟩=some (.int .i64 v7):=P9.out.b1.cell 7;have y_8:w9.cell? ⟨w.heap.size,8,none⟩=some (.int .i64 v8):=P9.out.b1.cell 8;have y_9:w9.cell? ⟨w.heap.size,9,none⟩=some (.slice vp0 vl0 vq0):=P9.out.b1.cell 9;have y_10:w9.cell? ⟨w.heap.size,10,none⟩=some (.slice vp1 vl1 vq1):=P9.out.b1.cell 10;have y_11:w9.cell? ⟨w.heap.size,11,none⟩=some (.slice vp2 vl2 vq2):=P9.out.b1.cell 11;have y_12:w9.cell? ⟨w.heap.size,12,none⟩=some (.int .i64 v9):=P9.out.b1.cell 12;have y_13:w9.cell? ⟨w.heap.size,13,none⟩=some (.int .i64 v10):=P9.out.b1.cell 13;have y_14:w9.cell? ⟨w.heap.size,14,none⟩=some (.bool vb):=P9.out.b1.cell 14;clear b9 B8 S8 OS8 X8 OX8 G8 OG8 B9
 go_upto_region 10 with fail
 go_cut [35] (fun v wx=>v=.bool false∧Below w9.heap.size w9 wx)
 case first=>
  go_region_with (first | (go_at_call 6;refine (CT _ (HB9.out.trans ((below_drewN (Below.refl _ _) 1).mono HB9.out.size))).mono ?_;rintro ee wb ⟨cs',rfl,oR,bb⟩;have bR:Below w9.heap.size w9 wb:=(below_drewN (Below.refl _ _) 1).trans bb;obtain ⟨qb0,qb1,qb2,qb3,qb4,qb5,qb6,qb7,qb8,qb9,qb10,qb11,qb12,qb13,qb14⟩:=zhP (X9.out.call bR)) | (go_at_call 9;refine (CW _ _ _ _ _ (OX9.out.call bR).rd oR.rd (Nat.le_trans (by omega) bR.size) (Nat.le_refl _)).mono ?_;rintro ee wc' ⟨rfl,bc⟩;have bC:Below w9.heap.size w9 wc':=bR.trans (bc.mono bR.size)))
  all_goals
   go_wp2
   go_meet
   exact ⟨rfl,bC⟩
 case rest=>
  obtain ⟨rfl,b10⟩:=hcut;obtain ⟨w10,rfl⟩:∃ x,x=wc:=⟨_,rfl⟩;clear u_0 u_1 u_2 u_3 u_4 u_5 u_6 u_7 u_8 u_9 u_10 u_11 u_12 u_13 u_14 y_0 y_1 y_2 y_3 y_4 y_5 y_6 y_7 y_8 y_9 y_10 y_11 y_12 y_13 y_14;have z10:w9.heap.size≤w10.heap.size:=b10.size;have B10:=HB9.out.trans (b10.mono (by omega));have S10:=S9.out.call b10;have OS10:=OS9.out.call b10;have X10:=X9.out.call b10;have OX10:=OX9.out.call b10;have G10:=G9.out.call b10;have OG10:=OG9.out.call b10;clear b10 HB9 S9 OS9 X9 OX9 G9 OG9 P9
  have hm0:¬ (M:Int)<0:=by omega
  go_wp2_with (refine zau 34 (.tmp 7) rfl rfl (w5.heap.size) rfl X10 Tryz.underlying34 zco rfl ?_)
  refine (CK OX10).mono ?_;rintro e w11 ⟨rfl,OX11,c11⟩;have z11:w10.heap.size≤w11.heap.size:=c11.size;have B11:=B10.trans (c11.bel (B:=w1.heap.size) (by omega) (by omega));have S11:=S10.chg c11 (.inl (by omega));have OS11:=OS10.chg c11 (.inl (by omega));have G11:=G10.chg c11 (.inr (by omega));have OG11:=OG10.chg c11 (.inr (by omega));have u_0:w11.cell? ⟨w7.heap.size,0,none⟩=some (.int .i64 gc):=G11.cell 0;have u_1:w11.cell? ⟨w7.heap.size,1,none⟩=some (.int .i64 g0):=G11.cell 1;have u_2:w11.cell? ⟨w7.heap.size,2,none⟩=some (.int .i64 g1):=G11.cell 2;have u_3:w11.cell? ⟨w7.heap.size,3,none⟩=some (.int .i64 g2):=G11.cell 3;have u_4:w11.cell? ⟨w7.heap.size,4,none⟩=some (.int .i64 g3):=G11.cell 4;have u_5:w11.cell? ⟨w7.heap.size,5,none⟩=some (.int .i64 g4):=G11.cell 5;have u_6:w11.cell? ⟨w7.heap.size,6,none⟩=some (.int .i64 g5):=G11.cell 6;have u_7:w11.cell? ⟨w7.heap.size,7,none⟩=some (.int .i64 g6):=G11.cell 7;have u_8:w11.cell? ⟨w7.heap.size,8,none⟩=some (.int .i64 g7):=G11.cell 8;have u_9:w11.cell? ⟨w7.heap.size,9,none⟩=some (.int .i64 g8):=G11.cell 9;have u_10:w11.cell? ⟨w7.heap.size,10,none⟩=some (.slice gp0 gl0 gq0):=G11.cell 10;have u_11:w11.cell? ⟨w7.heap.size,11,none⟩=some (.slice gp1 gl1 gq1):=G11.cell 11;have u_12:w11.cell? ⟨w7.heap.size,12,none⟩=some (.slice gp2 gl2 gq2):=G11.cell 12;have u_13:w11.cell? ⟨w7.heap.size,13,none⟩=some (.int .i64 g9):=G11.cell 13;have u_14:w11.cell? ⟨w7.heap.size,14,none⟩=some (.int .i64 g10):=G11.cell 14;have u_15:w11.cell? ⟨w7.heap.size,15,none⟩=some (.bool gb):=G11.cell 15;have y_0:w11.cell? ⟨w3.heap.size,0,none⟩=some (.int .i64 sc):=S11.cell 0;have y_1:w11.cell? ⟨w3.heap.size,1,none⟩=some (.int .i64 s0):=S11.cell 1;have y_2:w11.cell? ⟨w3.heap.size,2,none⟩=some (.int .i64 s1):=S11.cell 2;have y_3:w11.cell? ⟨w3.heap.size,3,none⟩=some (.int .i64 s2):=S11.cell 3;have y_4:w11.cell? ⟨w3.heap.size,4,none⟩=some (.int .i64 s3):=S11.cell 4;have y_5:w11.cell? ⟨w3.heap.size,5,none⟩=some (.int .i64 s4):=S11.cell 5;have y_6:w11.cell? ⟨w3.heap.size,6,none⟩=some (.int .i64 s5):=S11.cell 6;have y_7:w11.cell? ⟨w3.heap.size,7,none⟩=some (.int .i64 s6):=S11.cell 7;have y_8:w11.cell? ⟨w3.heap.size,8,none⟩=some (.int .i64 s7):=S11.cell 8;have y_9:w11.cell? ⟨w3.heap.size,9,none⟩=some (.int .i64 s8):=S11.cell 9;have y_10:w11.cell? ⟨w3.heap.size,10,none⟩=some (.slice sp0 sl0 sq0):=S11.cell 10;have y_11:w11.cell? ⟨w3.heap.size,11,none⟩=some (.slice sp1 sl1 sq1):=S11.cell 11;have y_12:w11.cell? ⟨w3.heap.size,12,none⟩=some (.slice sp2 sl2 sq2):=S11.cell 12;have y_13:w11.cell? ⟨w3.heap.size,13,none⟩=some (.int .i64 s9):=S11.cell 13;have y_14:w11.cell? ⟨w3.heap.size,14,none⟩=some (.int .i64 s10):=S11.cell 14;have y_15:w11.cell? ⟨w3.heap.size,15,none⟩=some (.bool sb):=S11.cell 15
  clear OX11 c11 B10 S10 OS10 X10 OX10 G10 OG10
  go_wp2_with fail
  refine (CE _ _ _ _ _ OG11.rd OS11.rd (by omega) (by omega)).mono ?_;rintro e w12 ⟨rfl,b12⟩;have z12:w11.heap.size≤w12.heap.size:=b12.size;have B12:=B11.trans (b12.mono (by omega));have S12:=S11.call b12;have OS12:=OS11.call b12;have G12:=G11.call b12;have OG12:=OG11.call b12;clear b12 B11 S11 OS11 G11 OG11 u_0 u_1 u_2 u_3 u_4 u_5 u_6 u_7 u_8 u_9 u_10 u_11 u_12 u_13 u_14 u_15 y_0 y_1 y_2 y_3 y_4 y_5 y_6 y_7 y_8 y_9 y_10 y_11 y_12 y_13 y_14 y_15
  go_wp2_with (refine zau 36 (.tmp 8) rfl rfl (w7.heap.size) rfl G12 Tryz.underlying36 zaS rfl ?_)
  refine (CM OG12).mono ?_;rintro e w13 ⟨rfl,OG13,c13⟩;have z13:w12.heap.size≤w13.heap.size:=c13.size;have B13:=B12.trans (c13.bel (B:=w1.heap.size) (by omega) (by omega));have S13:=S12.chg c13 (.inl (by omega));have OS13:=OS12.chg c13 (.inl (by omega));have G13:=G12.chg c13 (.inr (by omega));clear c13 B12 S12 OS12 G12 OG12
  go_wp2_with (refine zau 36 (.tmp 8) rfl rfl (w7.heap.size) rfl G13 Tryz.underlying36 zaS rfl ?_)
  refine (CH _ _ _ OG13.rd (by omega)).mono ?_;rintro e w14 ⟨rfl,b14⟩;have z14:w13.heap.size≤w14.heap.size:=b14.size;have B14:=B13.trans (b14.mono (by omega));have S14:=S13.call b14;have OS14:=OS13.call b14;have G14:=G13.call b14;have OG14:=OG13.call b14;have P14:=HT1.out.call B14;clear b14 B13 S13 OS13 G13 OG13
  have hn0:¬ (N:Int)<0:=by omega
  go_wp2_with (refine zau 28 (.tmp 2) rfl rfl (w.heap.size) rfl P14.b1 Tryz.underlying28 zec rfl ?_)
  refine (CT _ B14).mono ?_;rintro e w15 ⟨c15,rfl,o15,b15⟩
  go_wp2_with fail
  refine (CI _ _ _ o15.rd (Nat.le_refl _)).mono ?_;rintro e w16 ⟨cH,rfl,oH,b16⟩;obtain ⟨hc,h0,h1,h2,h3,h4,h5,h6,h7,h8,hp0,hl0,hq0,hp1,hl1,hq1,hp2,hl2,hq2,h9,h10,hb,rfl⟩:=zg7 oH.rd;have z15:w14.heap.size≤w15.heap.size:=b15.size;have z16:w15.heap.size≤w16.heap.size:=b16.size;have B16:=(B14.trans (b15.mono (by omega))).trans (b16.mono (by omega));have S16:=(S14.call b15).call b16;have OS16:=(OS14.call b15).call b16;have G16:=(G14.call b15).call b16;have OG16:=(OG14.call b15).call b16;clear P14 o15 b15 b16 B14 S14 OS14 G14 OG14
  go_upto_region 25 with (refine zbd 36 12 (.tmp 61) _ _ 16 rfl rfl rfl rfl rfl rfl rfl rfl zfG rfl rfl oH.one ?_)
  have bA:=bAl w16 (.cells (.int .i64 hc::rwV h0 h1 h2 h3 h4 h5 h6 h7 h8 hp0 hl0 hq0 hp1 hl1 hq1 hp2 hl2 hq2 h9 h10 hb).toArray 36);have H17:=zaF w16 (.int .i64 hc::rwV h0 h1 h2 h3 h4 h5 h6 h7 h8 hp0 hl0 hq0 hp1 hl1 hq1 hp2 hl2 hq2 h9 h10 hb).toArray 36;obtain ⟨W17,hW17⟩:∃ x,x=w16.alloc (.cells (.int .i64 hc::rwV h0 h1 h2 h3 h4 h5 h6 h7 h8 hp0 hl0 hq0 hp1 hl1 hq1 hp2 hl2 hq2 h9 h10 hb).toArray 36):=⟨_,rfl⟩;rw [← hW17] at bA H17 ⊢;have B17:=B16.trans (bA.mono (by omega));have S17:=S16.call bA;have OS17:=OS16.call bA;have G17:=G16.call bA;have OG17:=OG16.call bA;have OH17:=oH.call bA;have z17:w16.heap.size<W17.heap.size:=H17.lt;clear bA hW17 oH B16 S16 OS16 G16 OG16
  go_wp2_with (first | (refine zau 36 (.tmp 12) rfl rfl (w16.heap.size) rfl H17 Tryz.underlying36 zaS rfl ?_) | (refine zau 36 (.tmp 6) rfl rfl (w3.heap.size) rfl S17 Tryz.underlying36 zaS rfl ?_))
  refine (CE _ _ _ _ _ OH17.rd OS17.rd (by omega) (by omega)).mono ?_;rintro e w18 ⟨rfl,b18⟩;have z18:W17.heap.size≤w18.heap.size:=b18.size;have B18:=B17.trans (b18.mono (by omega));have G18:=G17.call b18;have OG18:=OG17.call b18;clear b18 B17 S17 OS17 G17 OG17 OH17 H17
  go_wp2_with (refine zau 36 (.tmp 8) rfl rfl (w7.heap.size) rfl G18 Tryz.underlying36 zaS rfl ?_)
  refine (CH _ _ _ OG18.rd (by omega)).mono ?_;rintro e w19 ⟨rfl,b19⟩;have HB:Hid (Below w.heap.size w w19):=(HT1.out.call (B18.trans (b19.mono (by omega)))).bel;clear b19 B18 G18 OG18;go_wp2;go_ret;exact ⟨rfl,HB.out⟩
set_option maxRecDepth 100000 in
theorem zbV (os:Os) (started:os.Started) (H:Type) (enc:TypeId×Value→H) :
 ReturnsInHanded {} Tryz.checked os 3 .any (Rows.fnExactRaisePowerSpec.pre6 enc Tryz.prog Tryz.f3 Rows.fnExactRaisePowerRow.domain false) (Rows.fnExactRaisePowerSpec.post enc Tryz.prog Tryz.f3 false true false false):=by
 refine returnsInHanded_of_change (C:=Tryz.checked) zgF started (by kernel_rfl) Tryz.func3
  (ChangeSpec.witness6 (enc:=enc) (C:=Tryz.checked) false ⟨#[],#[.agg (rwV 0 0 0 0 0 0 0 0 0 none 0 0 none 0 0 none 0 0 0 0 false).toArray,.int .i64 0],[]⟩ 8 (by kernel_rfl) (by kernel_rfl) (by kernel_rfl) (by kernel_rfl)) ?_
 intro W base args ds gs before hval0 hW hcnd _;have hval:∀ (j:Nat) t v,Tryz.f3.params[j]?=some t→args[j]?=some v→Value.okWide Tryz.prog W .any base t v:=hval0;have hW':=hW;obtain ⟨p,q,hA0,hV,rfl,hfz,hnd⟩:=hW;have hA:DataW.TrodAll enc Tryz.prog W 0 (fun _=>true) true Tryz.f3.params.toList args.toList ds p:=hA0;rw [Tryz.params3] at hA hval;obtain ⟨v0,vs0,d0,ds0,p0,q0,hargs,rfl,rfl,h0,r0⟩:=trodAll_cons hA;obtain ⟨v1,vs1,d1,ds1,p1,q1,rfl,rfl,rfl,h1,r1⟩:=trodAll_cons r0;obtain ⟨rfl,rfl,rfl⟩:=trodAll_nil r1
 obtain rfl:args=#[v0,v1]:=by cases args;simp_all
 obtain ⟨rfl,rfl⟩:=trodVars_none hV;have k0:=h0
 have lt0:∀ x∈p0,x.block<W.heap.size:=by obtain ⟨m,hm⟩:=k0;exact DataW.trod_lt m _ _ _ hm
 obtain ⟨cs0,a0,rfl,rd0⟩:=zdG zgg Tryz.underlying28 (hval 0 28 v0 rfl rfl) h0;obtain ⟨n1,rfl,rfl,rfl,hn1⟩:=open_int Tryz.underlying2 (hval 1 2 v1 rfl rfl) h1;clear hA0 hval0;refine (zcb a0 cs0 n1 W rd0 (bounds_i64 hn1)).mono fun e W' ⟨he,bel⟩=>?_;subst he;exact ⟨_,rfl,_,_,_,[],_,[],hW',trodAll_mk1 (shut_bool Tryz.underlying4 _),(trodAll_cons_mk (Below.trod zgb (by kernel_rfl) (of_decide_eq_true (by kernel_rfl)) k0 bel lt0) (trodAll_cons_mk (shut_int Tryz.underlying2 hn1) trodAll_mk0)),rfl,bel.frame _,fun h=>by cases h⟩
end Go.Proofs.YtccmhgeigkmicaaGreat
