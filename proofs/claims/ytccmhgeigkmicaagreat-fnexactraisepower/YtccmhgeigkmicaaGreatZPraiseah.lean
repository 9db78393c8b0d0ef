/- Walks of the program's recInBounds and RecFault. -/
import Derived.Test.YtccmhgeigkmicaaGreatZPraiseag
set_option linter.unusedVariables false
set_option linter.unusedSimpArgs false
set_option maxHeartbeats 16000000
namespace Go.Proofs.YtccmhgeigkmicaaGreat
open Go.RowKit F256
theorem zcR (s:Nat→Int) (hs:zan s) (r:RecD) (cs:List Value) (hi:Nat) (w:World) (h:zab.rd w hi r cs) (hhi:hi≤w.heap.size) (hk:InP r.kind 1 4) :
 Calls Tryz.prog 107 #[zai s,.agg cs.toArray] w (zbu (za9 s r) w):=by
 obtain ⟨kind,seq,name,length,group,row,rows,data,delta⟩:=r;obtain ⟨ao6,cap6,ao7,cap7,ao8,cap8,rfl,g6,g7,g8,k0,k1,k2,k3,k4,k5⟩:=zbe h;have HRD:=hid h;obtain ⟨v7,e7,⟨_,_,e7',hm7,_⟩,_⟩:=g7
 cases e7
 cases e7'
 obtain ⟨v8,e8,⟨_,_,e8',hm8,_⟩,_⟩:=g8
 cases e8
 cases e8'
 unfold maxLen at hm7 hm8
 simp only at hk hm7 hm8
 have HS:=hid hs
 have hk4:kind=1∨kind=2∨kind=3∨kind=4:=by unfold InP at hk;omega
 clear h g6 k0 k1 k2 k3 k4 k5 hk hs
 rcases hk4 with rfl | rfl | rfl | rfl
 ·have T0:=zay w (rwS s).toArray #[.int .i64 1,.int .i64 seq,.string name,.int .i64 length,.int .i64 group,.int .i64 row,.slice ao6 rows.1 cap6,.slice ao7 data.1 cap7,.slice ao8 delta.1 cap8] 30 75
  obtain ⟨t1,h1⟩:=exB (zbm s ⟨1,seq,name,length,group,row,rows,data,delta⟩);have C:=zbt (zgA s HS.out ⟨1,seq,name,length,group,row,rows,data,delta⟩ _ hi _ (zab.rd_below HRD.out T0.bel hhi) (Nat.le_trans hhi T0.bel.size)) h1
  have HE:Hid (za9 s ⟨1,seq,name,length,group,row,rows,data,delta⟩↔t1=true):=by
   show za9 s ⟨1,seq,name,length,group,row,rows,data,delta⟩↔_
   rw [h1];unfold za9
   simp
  clear h1;unfold zai at C ⊢
  go_enter Tryz.func107,Tryz.ntmps107
  go_wp2_with fail
  refine C.mono ?_;rintro e w1 ⟨rfl,b1⟩;have HB:Hid (Below w.heap.size w w1):=(T0.call b1).bel;clear b1 C T0;go_wp2;go_ret
  cases t1 with
  | true=>exact zaA rfl (HE.out.2 (by simp)) HB.out
  | false=>exact zaq rfl (fun h=>by have:=HE.out.1 h;simp at this) HB.out
 ·have T0:=zay w (rwS s).toArray #[.int .i64 2,.int .i64 seq,.string name,.int .i64 length,.int .i64 group,.int .i64 row,.slice ao6 rows.1 cap6,.slice ao7 data.1 cap7,.slice ao8 delta.1 cap8] 30 75
  obtain ⟨t1,h1⟩:=exB (InP group 0 (s 0-1));obtain ⟨t2,h2⟩:=exB (InP row 0 (s 4-1));obtain ⟨t3,h3⟩:∃ b,((data.1:Int)==s 2*4)=b:=⟨_,rfl⟩;obtain ⟨t4,h4⟩:∃ b,((delta.1:Int)==s 2*4)=b:=⟨_,rfl⟩;have C1:=fun w'=>zef HS.out h1 w';have C2:=fun w'=>zg9 HS.out h2 w';have C3:=fun w'=>zdw HS.out (ao:=ao7) (cap:=cap7) (by omega) h3 w';have C4:=fun w'=>zdw HS.out (ao:=ao8) (cap:=cap8) (by omega) h4 w'
  have HE:Hid (za9 s ⟨2,seq,name,length,group,row,rows,data,delta⟩↔(t1=true∧t2=true∧t3=true∧t4=true)):=by
   show za9 s ⟨2,seq,name,length,group,row,rows,data,delta⟩↔_
   rw [h1,h2,← h3,← h4];unfold za9 zhI
   simp
  clear h1 h2 h3 h4;unfold zai at C1 C2 C3 C4 ⊢
  go_enter Tryz.func107,Tryz.ntmps107
  go_wp2_with fail
  refine (C1 _).mono ?_;rintro e w1 ⟨rfl,b1⟩;have T1:Two w w1 (rwS s).toArray #[.int .i64 2,.int .i64 seq,.string name,.int .i64 length,.int .i64 group,.int .i64 row,.slice ao6 rows.1 cap6,.slice ao7 data.1 cap7,.slice ao8 delta.1 cap8] 30 75:=T0.call b1;have HB1:=hid T1.bel;clear b1;have x1_0:w1.cell? ⟨w.heap.size,0,none⟩=some (.int .i64 (s 0)):=T1.b1.cell 0;have y1_0:w1.cell? ⟨w.heap.size+1,0,none⟩=some (.int .i64 2):=T1.b2.cell 0;have x1_1:w1.cell? ⟨w.heap.size,1,none⟩=some (.int .i64 (s 1)):=T1.b1.cell 1;have y1_1:w1.cell? ⟨w.heap.size+1,1,none⟩=some (.int .i64 seq):=T1.b2.cell 1;have x1_2:w1.cell? ⟨w.heap.size,2,none⟩=some (.int .i64 (s 2)):=T1.b1.cell 2;have y1_2:w1.cell? ⟨w.heap.size+1,2,none⟩=some (.string name):=T1.b2.cell 2;have x1_3:w1.cell? ⟨w.heap.size,3,none⟩=some (.int .i64 (s 3)):=T1.b1.cell 3;have y1_3:w1.cell? ⟨w.heap.size+1,3,none⟩=some (.int .i64 length):=T1.b2.cell 3;have x1_4:w1.cell? ⟨w.heap.size,4,none⟩=some (.int .i64 (s 4)):=T1.b1.cell 4;have y1_4:w1.cell? ⟨w.heap.size+1,4,none⟩=some (.int .i64 group):=T1.b2.cell 4;have x1_5:w1.cell? ⟨w.heap.size,5,none⟩=some (.int .i64 (s 5)):=T1.b1.cell 5;have y1_5:w1.cell? ⟨w.heap.size+1,5,none⟩=some (.int .i64 row):=T1.b2.cell 5;have x1_6:w1.cell? ⟨w.heap.size,6,none⟩=some (.int .i64 (s 6)):=T1.b1.cell 6;have y1_6:w1.cell? ⟨w.heap.size+1,6,none⟩=some (.slice ao6 rows.1 cap6):=T1.b2.cell 6;have x1_7:w1.cell? ⟨w.heap.size,7,none⟩=some (.int .i64 (s 7)):=T1.b1.cell 7;have y1_7:w1.cell? ⟨w.heap.size+1,7,none⟩=some (.slice ao7 data.1 cap7):=T1.b2.cell 7;have x1_8:w1.cell? ⟨w.heap.size,8,none⟩=some (.int .i64 (s 8)):=T1.b1.cell 8;have y1_8:w1.cell? ⟨w.heap.size+1,8,none⟩=some (.slice ao8 delta.1 cap8):=T1.b2.cell 8
  cases t1 with
  | false=>
   clear T1;go_wp2;go_ret;exact zaq rfl (fun h=>by have:=HE.out.1 h;simp at this) HB1.out
  | true=>
   go_wp2_with fail
   refine (C2 _).mono ?_;rintro e w2 ⟨rfl,b2⟩;have T2:Two w w2 (rwS s).toArray #[.int .i64 2,.int .i64 seq,.string name,.int .i64 length,.int .i64 group,.int .i64 row,.slice ao6 rows.1 cap6,.slice ao7 data.1 cap7,.slice ao8 delta.1 cap8] 30 75:=T1.call b2;have HB2:=hid T2.bel;clear b2;have x2_0:w2.cell? ⟨w.heap.size,0,none⟩=some (.int .i64 (s 0)):=T2.b1.cell 0;have y2_0:w2.cell? ⟨w.heap.size+1,0,none⟩=some (.int .i64 2):=T2.b2.cell 0;have x2_1:w2.cell? ⟨w.heap.size,1,none⟩=some (.int .i64 (s 1)):=T2.b1.cell 1;have y2_1:w2.cell? ⟨w.heap.size+1,1,none⟩=some (.int .i64 seq):=T2.b2.cell 1;have x2_2:w2.cell? ⟨w.heap.size,2,none⟩=some (.int .i64 (s 2)):=T2.b1.cell 2;have y2_2:w2.cell? ⟨w.heap.size+1,2,none⟩=some (.string name):=T2.b2.cell 2;have x2_3:w2.cell? ⟨w.heap.size,3,none⟩=some (.int .i64 (s 3)):=T2.b1.cell 3;have y2_3:w2.cell? ⟨w.heap.size+1,3,none⟩=some (.int .i64 length):=T2.b2.cell 3;have x2_4:w2.cell? ⟨w.heap.size,4,none⟩=some (.int .i64 (s 4)):=T2.b1.cell 4;have y2_4:w2.cell? ⟨w.heap.size+1,4,none⟩=some (.int .i64 group):=T2.b2.cell 4;have x2_5:w2.cell? ⟨w.heap.size,5,none⟩=some (.int .i64 (s 5)):=T2.b1.cell 5;have y2_5:w2.cell? ⟨w.heap.size+1,5,none⟩=some (.int .i64 row):=T2.b2.cell 5;have x2_6:w2.cell? ⟨w.heap.size,6,none⟩=some (.int .i64 (s 6)):=T2.b1.cell 6;have y2_6:w2.cell? ⟨w.heap.size+1,6,none⟩=some (.slice ao6 rows.1 cap6):=T2.b2.cell 6;have x2_7:w2.cell? ⟨w.heap.size,7,none⟩=some (.int .i64 (s 7)):=T2.b1.cell 7;have y2_7:w2.cell? ⟨w.heap.size+1,7,none⟩=some (.slice ao7 data.1 cap7):=T2.b2.cell 7;have x2_8:w2.cell? ⟨w.heap.size,8,none⟩=some (.int .i64 (s 8)):=T2.b1.cell 8;have y2_8:w2.cell? ⟨w.heap.size+1,8,none⟩=some (.slice ao8 delta.1 cap8):=T2.b2.cell 8
   cases t2 with
   | false=>
    clear T2;go_wp2;go_ret;exact zaq rfl (fun h=>by have:=HE.out.1 h;simp at this) HB2.out
   | true=>
    go_wp2_with fail
    refine (C3 _).mono ?_;rintro e w3 ⟨rfl,b3⟩;have T3:Two w w3 (rwS s).toArray #[.int .i64 2,.int .i64 seq,.string name,.int .i64 length,.int .i64 group,.int .i64 row,.slice ao6 rows.1 cap6,.slice ao7 data.1 cap7,.slice ao8 delta.1 cap8] 30 75:=T2.call b3;have HB3:=hid T3.bel;clear b3;have x3_0:w3.cell? ⟨w.heap.size,0,none⟩=some (.int .i64 (s 0)):=T3.b1.cell 0;have y3_0:w3.cell? ⟨w.heap.size+1,0,none⟩=some (.int .i64 2):=T3.b2.cell 0;have x3_1:w3.cell? ⟨w.heap.size,1,none⟩=some (.int .i64 (s 1)):=T3.b1.cell 1;have y3_1:w3.cell? ⟨w.heap.size+1,1,none⟩=some (.int .i64 seq):=T3.b2.cell 1;have x3_2:w3.cell? ⟨w.heap.size,2,none⟩=some (.int .i64 (s 2)):=T3.b1.cell 2;have y3_2:w3.cell? ⟨w.heap.size+1,2,none⟩=some (.string name):=T3.b2.cell 2;have x3_3:w3.cell? ⟨w.heap.size,3,none⟩=some (.int .i64 (s 3)):=T3.b1.cell 3;have y3_3:w3.cell? ⟨w.heap.size+1,3,none⟩=some (.int .i64 length):=T3.b2.cell 3;have x3_4:w3.cell? ⟨w.heap.size,4,none⟩=some (.int .i64 (s 4)):=T3.b1.cell 4;have y3_4:w3.cell? ⟨w.heap.size+1,4,none⟩=some (.int .i64 group):=T3.b2.cell 4;have x3_5:w3.cell? ⟨w.heap.size,5,none⟩=some (.int .i64 (s 5)):=T3.b1.cell 5;have y3_5:w3.cell? ⟨w.heap.size+1,5,none⟩=some (.int .i64 row):=T3.b2.cell 5;have x3_6:w3.cell? ⟨w.heap.size,6,none⟩=some (.int .i64 (s 6)):=T3.b1.cell 6;have y3_6:w3.cell? ⟨w.heap.size+1,6,none⟩=some (.slice ao6 rows.1 cap6):=T3.b2.cell 6;have x3_7:w3.cell? ⟨w.heap.size,7,none⟩=some (.int .i64 (s 7)):=T3.b1.cell 7;have y3_7:w3.cell? ⟨w.heap.size+1,7,none⟩=some (.slice ao7 data.1 cap7):=T3.b2.cell 7;have x3_8:w3.cell? ⟨w.heap.size,8,none⟩=some (.int .i64 (s 8)):=T3.b1.cell 8;have y3_8:w3.cell? ⟨w.heap.size+1,8,none⟩=some (.slice ao8 delta.1 cap8):=T3.b2.cell 8
    cases t3 with
    | false=>
     clear T3;go_wp2;go_ret;exact zaq rfl (fun h=>by have:=HE.out.1 h;simp at this) HB3.out
    | true=>
     go_wp2_with fail
     refine (C4 _).mono ?_;rintro e w4 ⟨rfl,b4⟩;have T4:Two w w4 (rwS s).toArray #[.int .i64 2,.int .i64 seq,.string name,.int .i64 length,.int .i64 group,.int .i64 row,.slice ao6 rows.1 cap6,.slice ao7 data.1 cap7,.slice ao8 delta.1 cap8] 30 75:=T3.call b4;have HB4:=hid T4.bel;clear b4
     cases t4 with
     | false=>
      clear T4;go_wp2;go_ret;exact zaq rfl (fun h=>by have:=HE.out.1 h;simp at this) HB4.out
     | true=>
      clear T4;go_wp2;go_ret;exact zaA rfl (HE.out.2 (by simp)) HB4.out
 ·have T0:=zay w (rwS s).toArray #[.int .i64 3,.int .i64 seq,.string name,.int .i64 length,.int .i64 group,.int .i64 row,.slice ao6 rows.1 cap6,.slice ao7 data.1 cap7,.slice ao8 delta.1 cap8] 30 75
  obtain ⟨t1,h1⟩:=exB (InP group 0 (s 0+s 1-1));have C:=fun w'=>ze2 HS.out h1 w'
  have HE:Hid (za9 s ⟨3,seq,name,length,group,row,rows,data,delta⟩↔t1=true):=by
   show za9 s ⟨3,seq,name,length,group,row,rows,data,delta⟩↔_
   rw [h1];unfold za9 zhJ
   simp
  clear h1;unfold zai at C ⊢
  go_enter Tryz.func107,Tryz.ntmps107
  go_wp2_with fail
  refine (C _).mono ?_;rintro e w1 ⟨rfl,b1⟩;have HB:Hid (Below w.heap.size w w1):=(T0.call b1).bel;clear b1 C T0;go_wp2;go_ret
  cases t1 with
  | true=>exact zaA rfl (HE.out.2 (by simp)) HB.out
  | false=>exact zaq rfl (fun h=>by have:=HE.out.1 h;simp at this) HB.out
 ·have T0:=zay w (rwS s).toArray #[.int .i64 4,.int .i64 seq,.string name,.int .i64 length,.int .i64 group,.int .i64 row,.slice ao6 rows.1 cap6,.slice ao7 data.1 cap7,.slice ao8 delta.1 cap8] 30 75
  obtain ⟨t1,h1⟩:=exB (zf6 s ⟨4,seq,name,length,group,row,rows,data,delta⟩);have C:=zbt (zfP s HS.out ⟨4,seq,name,length,group,row,rows,data,delta⟩ _ hi _ (zab.rd_below HRD.out T0.bel hhi) (Nat.le_trans hhi T0.bel.size)) h1
  have HE:Hid (za9 s ⟨4,seq,name,length,group,row,rows,data,delta⟩↔t1=true):=by
   show za9 s ⟨4,seq,name,length,group,row,rows,data,delta⟩↔_
   rw [h1];unfold za9
   simp
  clear h1;unfold zai at C ⊢
  go_enter Tryz.func107,Tryz.ntmps107
  go_wp2_with fail
  refine C.mono ?_;rintro e w1 ⟨rfl,b1⟩;have HB:Hid (Below w.heap.size w w1):=(T0.call b1).bel;clear b1 C T0;go_wp2;go_ret
  cases t1 with
  | true=>exact zaA rfl (HE.out.2 (by simp)) HB.out
  | false=>exact zaq rfl (fun h=>by have:=HE.out.1 h;simp at this) HB.out
set_option maxRecDepth 20000 in
theorem zfR (s:Nat→Int) (r:RecD) (cs:List Value) (hi:Nat) (w:World) (h:zab.rd w hi r cs) (hhi:hi≤w.heap.size) (hnm:r.name.size≤1048576) :
 Calls Tryz.prog 85 #[zai s,.agg cs.toArray] w (zd9 s r w):=by
 obtain ⟨kind,seq,name,length,group,row,rows,data,delta⟩:=r;obtain ⟨ao6,cap6,ao7,cap7,ao8,cap8,rfl,-⟩:=zbe h;have HRD:=hid h
 simp only at hnm
 clear h;have T0:=zay w (rwS s).toArray #[.int .i64 kind,.int .i64 seq,.string name,.int .i64 length,.int .i64 group,.int .i64 row,.slice ao6 rows.1 cap6,.slice ao7 data.1 cap7,.slice ao8 delta.1 cap8] 30 75;have CSh:=fun w'=>zb3 s w';unfold zai at CSh ⊢
 go_enter Tryz.func85,Tryz.ntmps85
 go_wp2_with fail
 refine (CSh _).mono ?_;rintro e w1 ⟨x,rfl,hx,b1⟩;have T1:Two w w1 (rwS s).toArray #[.int .i64 kind,.int .i64 seq,.string name,.int .i64 length,.int .i64 group,.int .i64 row,.slice ao6 rows.1 cap6,.slice ao7 data.1 cap7,.slice ao8 delta.1 cap8] 30 75:=T0.call b1;have HT1:=hid T1;clear b1 T0 CSh;have x1_0:w1.cell? ⟨w.heap.size,0,none⟩=some (.int .i64 (s 0)):=T1.b1.cell 0;have y1_0:w1.cell? ⟨w.heap.size+1,0,none⟩=some (.int .i64 kind):=T1.b2.cell 0;have x1_1:w1.cell? ⟨w.heap.size,1,none⟩=some (.int .i64 (s 1)):=T1.b1.cell 1;have y1_1:w1.cell? ⟨w.heap.size+1,1,none⟩=some (.int .i64 seq):=T1.b2.cell 1;have x1_2:w1.cell? ⟨w.heap.size,2,none⟩=some (.int .i64 (s 2)):=T1.b1.cell 2;have y1_2:w1.cell? ⟨w.heap.size+1,2,none⟩=some (.string name):=T1.b2.cell 2;have x1_3:w1.cell? ⟨w.heap.size,3,none⟩=some (.int .i64 (s 3)):=T1.b1.cell 3;have y1_3:w1.cell? ⟨w.heap.size+1,3,none⟩=some (.int .i64 length):=T1.b2.cell 3;have x1_4:w1.cell? ⟨w.heap.size,4,none⟩=some (.int .i64 (s 4)):=T1.b1.cell 4;have y1_4:w1.cell? ⟨w.heap.size+1,4,none⟩=some (.int .i64 group):=T1.b2.cell 4;have x1_5:w1.cell? ⟨w.heap.size,5,none⟩=some (.int .i64 (s 5)):=T1.b1.cell 5;have y1_5:w1.cell? ⟨w.heap.size+1,5,none⟩=some (.int .i64 row):=T1.b2.cell 5;have x1_6:w1.cell? ⟨w.heap.size,6,none⟩=some (.int .i64 (s 6)):=T1.b1.cell 6;have y1_6:w1.cell? ⟨w.heap.size+1,6,none⟩=some (.slice ao6 rows.1 cap6):=T1.b2.cell 6;have x1_7:w1.cell? ⟨w.heap.size,7,none⟩=some (.int .i64 (s 7)):=T1.b1.cell 7;have y1_7:w1.cell? ⟨w.heap.size+1,7,none⟩=some (.slice ao7 data.1 cap7):=T1.b2.cell 7;have x1_8:w1.cell? ⟨w.heap.size,8,none⟩=some (.int .i64 (s 8)):=T1.b1.cell 8;have y1_8:w1.cell? ⟨w.heap.size+1,8,none⟩=some (.slice ao8 delta.1 cap8):=T1.b2.cell 8;clear T1
 rcases hx with ⟨rfl,hno⟩ | ⟨rfl,hok⟩
 ·go_wp2
  go_ret;exact recP rfl (Stair.fall hno) HT1.out.bel
 have HOK:=hid hok;clear hok
 by_cases hk:InP kind 1 4
 ·go_wp2_with fail
  refine (zaL (t:=true) (by omega) (exBT hk) _).mono ?_;rintro e w' ⟨rfl,hw'⟩;obtain rfl:=hw'.symm
  by_cases hq:InP seq 1 1000000000
  ·go_wp2_with fail
   refine (zaL (t:=true) (by omega) (exBT hq) _).mono ?_;rintro e w' ⟨rfl,hw'⟩;obtain rfl:=hw'.symm;have HK:=hid hk;have HQ:=hid hq
   have hk4:kind=1∨kind=2∨kind=3∨kind=4:=by unfold InP at hk;omega
   clear hk hq
   rcases hk4 with rfl | rfl | rfl | rfl
   ·go_wp2_with fail
    refine (ze4 name hnm _).mono ?_;rintro e w' ⟨x,rfl,hx,hw'⟩;obtain rfl:=hw'.symm
    rcases hx with ⟨rfl,hno⟩ | ⟨rfl,hyes⟩
    ·go_wp2
     go_ret;exact recP rfl (Stair.pass HOK.out (Stair.pass HK.out (Stair.pass HQ.out (Stair.fall (fun h=>hno (h rfl)))))) HT1.out.bel
    have HN:Hid (zcO ⟨1,seq,name,length,group,row,rows,data,delta⟩):=fun _=>hyes;clear hyes;obtain ⟨t5,h5⟩:=exB (za9 s ⟨1,seq,name,length,group,row,rows,data,delta⟩);have C5:=zbt (zcR s HOK.out ⟨1,seq,name,length,group,row,rows,data,delta⟩ _ hi w1 (zab.rd_below HRD.out HT1.out.bel hhi) (Nat.le_trans hhi HT1.out.bel.size) HK.out) h5;have H5:=hid h5;unfold zai at C5;clear h5
    go_wp2_with fail
    refine C5.mono ?_;rintro e w5 ⟨rfl,b5⟩;have T5:Two w w5 (rwS s).toArray #[.int .i64 1,.int .i64 seq,.string name,.int .i64 length,.int .i64 group,.int .i64 row,.slice ao6 rows.1 cap6,.slice ao7 data.1 cap7,.slice ao8 delta.1 cap8] 30 75:=HT1.out.call b5;have HB5:=hid T5.bel;clear b5 C5;have x5_0:w5.cell? ⟨w.heap.size,0,none⟩=some (.int .i64 (s 0)):=T5.b1.cell 0;have y5_0:w5.cell? ⟨w.heap.size+1,0,none⟩=some (.int .i64 1):=T5.b2.cell 0;have x5_1:w5.cell? ⟨w.heap.size,1,none⟩=some (.int .i64 (s 1)):=T5.b1.cell 1;have y5_1:w5.cell? ⟨w.heap.size+1,1,none⟩=some (.int .i64 seq):=T5.b2.cell 1;have x5_2:w5.cell? ⟨w.heap.size,2,none⟩=some (.int .i64 (s 2)):=T5.b1.cell 2;have y5_2:w5.cell? ⟨w.heap.size+1,2,none⟩=some (.string name):=T5.b2.cell 2;have x5_3:w5.cell? ⟨w.heap.size,3,none⟩=some (.int .i64 (s 3)):=T5.b1.cell 3;have y5_3:w5.cell? ⟨w.heap.size+1,3,none⟩=some (.int .i64 length):=T5.b2.cell 3;have x5_4:w5.cell? ⟨w.heap.size,4,none⟩=some (.int .i64 (s 4)):=T5.b1.cell 4;have y5_4:w5.cell? ⟨w.heap.size+1,4,none⟩=some (.int .i64 group):=T5.b2.cell 4;have x5_5:w5.cell? ⟨w.heap.size,5,none⟩=some (.int .i64 (s 5)):=T5.b1.cell 5;have y5_5:w5.cell? ⟨w.heap.size+1,5,none⟩=some (.int .i64 row):=T5.b2.cell 5;have x5_6:w5.cell? ⟨w.heap.size,6,none⟩=some (.int .i64 (s 6)):=T5.b1.cell 6;have y5_6:w5.cell? ⟨w.heap.size+1,6,none⟩=some (.slice ao6 rows.1 cap6):=T5.b2.cell 6;have x5_7:w5.cell? ⟨w.heap.size,7,none⟩=some (.int .i64 (s 7)):=T5.b1.cell 7;have y5_7:w5.cell? ⟨w.heap.size+1,7,none⟩=some (.slice ao7 data.1 cap7):=T5.b2.cell 7;have x5_8:w5.cell? ⟨w.heap.size,8,none⟩=some (.int .i64 (s 8)):=T5.b1.cell 8;have y5_8:w5.cell? ⟨w.heap.size+1,8,none⟩=some (.slice ao8 delta.1 cap8):=T5.b2.cell 8;clear T5
    cases t5 with
    | false=>
     go_wp2;go_ret;exact recP rfl (Stair.pass HOK.out (Stair.pass HK.out (Stair.pass HQ.out (Stair.pass HN.out (Stair.fall (fun h=>by have:=H5.out.2 h;simp at this)))))) HB5.out
    | true=>
     have HKP:Hid (za9 s ⟨1,seq,name,length,group,row,rows,data,delta⟩):=H5.out.1 (by simp)
     go_wp2_with fail
     refine (zhs seq name length group row rows data delta ao6 ao7 ao8 cap6 cap7 cap8 _).mono ?_;rintro e w6 ⟨rfl,b6⟩;have HB6:=hid (HB5.out.trans (b6.mono HB5.out.size));clear b6
     go_wp2_with fail
     refine (zb4 _ _ _ _ _ _ _ _ _ _ _ _ _ _ _ _).mono ?_;rintro e w7 ⟨t9,rfl,ht9,b7⟩;have HB7:=hid (HB6.out.trans (b7.mono HB6.out.size));clear b7
     have HT9:Hid (t9=true↔za5 ⟨1,seq,name,length,group,row,rows,data,delta⟩):=by
      show t9=true↔za5 ⟨1,seq,name,length,group,row,rows,data,delta⟩
      rw [ht9];unfold zc5 zbO za5 zcl
      simp [and_assoc]
      try (intros;rfl)
     clear ht9
     cases t9 with
     | false=>
      go_wp2;go_ret;exact recP rfl (Stair.pass HOK.out (Stair.pass HK.out (Stair.pass HQ.out (Stair.pass HN.out (Stair.pass HKP.out (Stair.fall (fun h=>by have:=HT9.out.2 h;simp at this))))))) HB7.out
     | true=>
      go_wp2;go_ret;exact recP rfl (Stair.pass HOK.out (Stair.pass HK.out (Stair.pass HQ.out (Stair.pass HN.out (Stair.pass HKP.out (Stair.pass (HT9.out.1 (by simp)) (Stair.last rfl))))))) HB7.out
   ·have HN:Hid (zcO ⟨2,seq,name,length,group,row,rows,data,delta⟩):=fun h=>by simp at h
    obtain ⟨t5,h5⟩:=exB (za9 s ⟨2,seq,name,length,group,row,rows,data,delta⟩);have C5:=zbt (zcR s HOK.out ⟨2,seq,name,length,group,row,rows,data,delta⟩ _ hi w1 (zab.rd_below HRD.out HT1.out.bel hhi) (Nat.le_trans hhi HT1.out.bel.size) HK.out) h5;have H5:=hid h5;unfold zai at C5;clear h5
    go_wp2_with fail
    refine C5.mono ?_;rintro e w5 ⟨rfl,b5⟩;have T5:Two w w5 (rwS s).toArray #[.int .i64 2,.int .i64 seq,.string name,.int .i64 length,.int .i64 group,.int .i64 row,.slice ao6 rows.1 cap6,.slice ao7 data.1 cap7,.slice ao8 delta.1 cap8] 30 75:=HT1.out.call b5;have HB5:=hid T5.bel;clear b5 C5;have x5_0:w5.cell? ⟨w.heap.size,0,none⟩=some (.int .i64 (s 0)):=T5.b1.cell 0;have y5_0:w5.cell? ⟨w.heap.size+1,0,none⟩=some (.int .i64 2):=T5.b2.cell 0;have x5_1:w5.cell? ⟨w.heap.size,1,none⟩=some (.int .i64 (s 1)):=T5.b1.cell 1;have y5_1:w5.cell? ⟨w.heap.size+1,1,none⟩=some (.int .i64 seq):=T5.b2.cell 1;have x5_2:w5.cell? ⟨w.heap.size,2,none⟩=some (.int .i64 (s 2)):=T5.b1.cell 2;have y5_2:w5.cell? ⟨w.heap.size+1,2,none⟩=some (.string name):=T5.b2.cell 2;have x5_3:w5.cell? ⟨w.heap.size,3,none⟩=some (.int .i64 (s 3)):=T5.b1.cell 3;have y5_3:w5.cell? ⟨w.heap.size+1,3,none⟩=some (.int .i64 length):=T5.b2.cell 3;have x5_4:w5.cell? ⟨w.heap.size,4,none⟩=some (.int .i64 (s 4)):=T5.b1.cell 4;have y5_4:w5.cell? ⟨w.heap.size+1,4,none⟩=some (.int .i64 group):=T5.b2.cell 4;have x5_5:w5.cell? ⟨w.heap.size,5,none⟩=some (.int .i64 (s 5)):=T5.b1.cell 5;have y5_5:w5.cell? ⟨w.heap.size+1,5,none⟩=some (.int .i64 row):=T5.b2.cell 5;have x5_6:w5.cell? ⟨w.heap.size,6,none⟩=some (.int .i64 (s 6)):=T5.b1.cell 6;have y5_6:w5.cell? ⟨w.heap.size+1,6,none⟩=some (.slice ao6 rows.1 cap6):=T5.b2.cell 6;have x5_7:w5.cell? ⟨w.heap.size,7,none⟩=some (.int .i64 (s 7)):=T5.b1.cell 7;have y5_7:w5.cell? ⟨w.heap.size+1,7,none⟩=some (.slice ao7 data.1 cap7):=T5.b2.cell 7;have x5_8:w5.cell? ⟨w.heap.size,8,none⟩=some (.int .i64 (s 8)):=T5.b1.cell 8;have y5_8:w5.cell? ⟨w.heap.size+1,8,none⟩=some (.slice ao8 delta.1 cap8):=T5.b2.cell 8;clear T5
    cases t5 with
    | false=>
     go_wp2;go_ret;exact recP rfl (Stair.pass HOK.out (Stair.pass HK.out (Stair.pass HQ.out (Stair.pass HN.out (Stair.fall (fun h=>by have:=H5.out.2 h;simp at this)))))) HB5.out
    | true=>
     have HKP:Hid (za9 s ⟨2,seq,name,length,group,row,rows,data,delta⟩):=H5.out.1 (by simp)
     go_wp2_with fail
     refine (zht seq name length group row rows data delta ao6 ao7 ao8 cap6 cap7 cap8 _).mono ?_;rintro e w6 ⟨rfl,b6⟩;have HB6:=hid (HB5.out.trans (b6.mono HB5.out.size));clear b6
     go_wp2_with fail
     refine (zb4 _ _ _ _ _ _ _ _ _ _ _ _ _ _ _ _).mono ?_;rintro e w7 ⟨t9,rfl,ht9,b7⟩;have HB7:=hid (HB6.out.trans (b7.mono HB6.out.size));clear b7
     have HT9:Hid (t9=true↔za5 ⟨2,seq,name,length,group,row,rows,data,delta⟩):=by
      show t9=true↔za5 ⟨2,seq,name,length,group,row,rows,data,delta⟩
      rw [ht9];unfold zc5 zbO za5 zcl
      simp [and_assoc]
      try (intros;rfl)
     clear ht9
     cases t9 with
     | false=>
      go_wp2;go_ret;exact recP rfl (Stair.pass HOK.out (Stair.pass HK.out (Stair.pass HQ.out (Stair.pass HN.out (Stair.pass HKP.out (Stair.fall (fun h=>by have:=HT9.out.2 h;simp at this))))))) HB7.out
     | true=>
      go_wp2;go_ret;exact recP rfl (Stair.pass HOK.out (Stair.pass HK.out (Stair.pass HQ.out (Stair.pass HN.out (Stair.pass HKP.out (Stair.pass (HT9.out.1 (by simp)) (Stair.last rfl))))))) HB7.out
   ·have HN:Hid (zcO ⟨3,seq,name,length,group,row,rows,data,delta⟩):=fun h=>by simp at h
    obtain ⟨t5,h5⟩:=exB (za9 s ⟨3,seq,name,length,group,row,rows,data,delta⟩);have C5:=zbt (zcR s HOK.out ⟨3,seq,name,length,group,row,rows,data,delta⟩ _ hi w1 (zab.rd_below HRD.out HT1.out.bel hhi) (Nat.le_trans hhi HT1.out.bel.size) HK.out) h5;have H5:=hid h5;unfold zai at C5;clear h5
    go_wp2_with fail
    refine C5.mono ?_;rintro e w5 ⟨rfl,b5⟩;have T5:Two w w5 (rwS s).toArray #[.int .i64 3,.int .i64 seq,.string name,.int .i64 length,.int .i64 group,.int .i64 row,.slice ao6 rows.1 cap6,.slice ao7 data.1 cap7,.slice ao8 delta.1 cap8] 30 75:=HT1.out.call b5;have HB5:=hid T5.bel;clear b5 C5;have x5_0:w5.cell? ⟨w.heap.size,0,none⟩=some (.int .i64 (s 0)):=T5.b1.cell 0;have y5_0:w5.cell? ⟨w.heap.size+1,0,none⟩=some (.int .i64 3):=T5.b2.cell 0;have x5_1:w5.cell? ⟨w.heap.size,1,none⟩=some (.int .i64 (s 1)):=T5.b1.cell 1;have y5_1:w5.cell? ⟨w.heap.size+1,1,none⟩=some (.int .i64 seq):=T5.b2.cell 1;have x5_2:w5.cell? ⟨w.heap.size,2,none⟩=some (.int .i64 (s 2)):=T5.b1.cell 2;have y5_2:w5.cell? ⟨w.heap.size+1,2,none⟩=some (.string name):=T5.b2.cell 2;have x5_3:w5.cell? ⟨w.heap.size,3,none⟩=some (.int .i64 (s 3)):=T5.b1.cell 3;have y5_3:w5.cell? ⟨w.heap.size+1,3,none⟩=some (.int .i64 length):=T5.b2.cell 3;have x5_4:w5.cell? ⟨w.heap.size,4,none⟩=some (.int .i64 (s 4)):=T5.b1.cell 4;have y5_4:w5.cell? ⟨w.heap.size+1,4,none⟩=some (.int .i64 group):=T5.b2.cell 4;have x5_5:w5.cell? ⟨w.heap.size,5,none⟩=some (.int .i64 (s 5)):=T5.b1.cell 5;have y5_5:w5.cell? ⟨w.heap.size+1,5,none⟩=some (.int .i64 row):=T5.b2.cell 5;have x5_6:w5.cell? ⟨w.heap.size,6,none⟩=some (.int .i64 (s 6)):=T5.b1.cell 6;have y5_6:w5.cell? ⟨w.heap.size+1,6,none⟩=some (.slice ao6 rows.1 cap6):=T5.b2.cell 6;have x5_7:w5.cell? ⟨w.heap.size,7,none⟩=some (.int .i64 (s 7)):=T5.b1.cell 7;have y5_7:w5.cell? ⟨w.heap.size+1,7,none⟩=some (.slice ao7 data.1 cap7):=T5.b2.cell 7;have x5_8:w5.cell? ⟨w.heap.size,8,none⟩=some (.int .i64 (s 8)):=T5.b1.cell 8;have y5_8:w5.cell? ⟨w.heap.size+1,8,none⟩=some (.slice ao8 delta.1 cap8):=T5.b2.cell 8;clear T5
    cases t5 with
    | false=>
     go_wp2;go_ret;exact recP rfl (Stair.pass HOK.out (Stair.pass HK.out (Stair.pass HQ.out (Stair.pass HN.out (Stair.fall (fun h=>by have:=H5.out.2 h;simp at this)))))) HB5.out
    | true=>
     have HKP:Hid (za9 s ⟨3,seq,name,length,group,row,rows,data,delta⟩):=H5.out.1 (by simp)
     go_wp2_with fail
     refine (zhu seq name length group row rows data delta ao6 ao7 ao8 cap6 cap7 cap8 _).mono ?_;rintro e w6 ⟨rfl,b6⟩;have HB6:=hid (HB5.out.trans (b6.mono HB5.out.size));clear b6
     go_wp2_with fail
     refine (zb4 _ _ _ _ _ _ _ _ _ _ _ _ _ _ _ _).mono ?_;rintro e w7 ⟨t9,rfl,ht9,b7⟩;have HB7:=hid (HB6.out.trans (b7.mono HB6.out.size));clear b7
     have HT9:Hid (t9=true↔za5 ⟨3,seq,name,length,group,row,rows,data,delta⟩):=by
      show t9=true↔za5 ⟨3,seq,name,length,group,row,rows,data,delta⟩
      rw [ht9];unfold zc5 zbO za5 zcl
      simp [and_assoc]
      try (intros;rfl)
     clear ht9
     cases t9 with
     | false=>
      go_wp2;go_ret;exact recP rfl (Stair.pass HOK.out (Stair.pass HK.out (Stair.pass HQ.out (Stair.pass HN.out (Stair.pass HKP.out (Stair.fall (fun h=>by have:=HT9.out.2 h;simp at this))))))) HB7.out
     | true=>
      go_wp2;go_ret;exact recP rfl (Stair.pass HOK.out (Stair.pass HK.out (Stair.pass HQ.out (Stair.pass HN.out (Stair.pass HKP.out (Stair.pass (HT9.out.1 (by simp)) (Stair.last rfl))))))) HB7.out
   ·have HN:Hid (zcO ⟨4,seq,name,length,group,row,rows,data,delta⟩):=fun h=>by simp at h
    obtain ⟨t5,h5⟩:=exB (za9 s ⟨4,seq,name,length,group,row,rows,data,delta⟩);have C5:=zbt (zcR s HOK.out ⟨4,seq,name,length,group,row,rows,data,delta⟩ _ hi w1 (zab.rd_below HRD.out HT1.out.bel hhi) (Nat.le_trans hhi HT1.out.bel.size) HK.out) h5;have H5:=hid h5;unfold zai at C5;clear h5
    go_wp2_with fail
    refine C5.mono ?_;rintro e w5 ⟨rfl,b5⟩;have T5:Two w w5 (rwS s).toArray #[.int .i64 4,.int .i64 seq,.string name,.int .i64 length,.int .i64 group,.int .i64 row,.slice ao6 rows.1 cap6,.slice ao7 data.1 cap7,.slice ao8 delta.1 cap8] 30 75:=HT1.out.call b5;have HB5:=hid T5.bel;clear b5 C5;have x5_0:w5.cell? ⟨w.heap.size,0,none⟩=some (.int .i64 (s 0)):=T5.b1.cell 0;have y5_0:w5.cell? ⟨w.heap.size+1,0,none⟩=some (.int .i64 4):=T5.b2.cell 0;have x5_1:w5.cell? ⟨w.heap.size,1,none⟩=some (.int .i64 (s 1)):=T5.b1.cell 1;have y5_1:w5.cell? ⟨w.heap.size+1,1,none⟩=some (.int .i64 seq):=T5.b2.cell 1;have x5_2:w5.cell? ⟨w.heap.size,2,none⟩=some (.int .i64 (s 2)):=T5.b1.cell 2;have y5_2:w5.cell? ⟨w.heap.size+1,2,none⟩=some (.string name):=T5.b2.cell 2;have x5_3:w5.cell? ⟨w.heap.size,3,none⟩=some (.int .i64 (s 3)):=T5.b1.cell 3;have y5_3:w5.cell? ⟨w.heap.size+1,3,none⟩=some (.int .i64 length):=T5.b2.cell 3;have x5_4:w5.cell? ⟨w.heap.size,4,none⟩=some (.int .i64 (s 4)):=T5.b1.cell 4;have y5_4:w5.cell? ⟨w.heap.size+1,4,none⟩=some (.int .i64 group):=T5.b2.cell 4;have x5_5:w5.cell? ⟨w.heap.size,5,none⟩=some (.int .i64 (s 5)):=T5.b1.cell 5;have y5_5:w5.cell? ⟨w.heap.size+1,5,none⟩=some (.int .i64 row):=T5.b2.cell 5;have x5_6:w5.cell? ⟨w.heap.size,6,none⟩=some (.int .i64 (s 6)):=T5.b1.cell 6;have y5_6:w5.cell? ⟨w.heap.size+1,6,none⟩=some (.slice ao6 rows.1 cap6):=T5.b2.cell 6;have x5_7:w5.cell? ⟨w.heap.size,7,none⟩=some (.int .i64 (s 7)):=T5.b1.cell 7;have y5_7:w5.cell? ⟨w.heap.size+1,7,none⟩=some (.slice ao7 data.1 cap7):=T5.b2.cell 7;have x5_8:w5.cell? ⟨w.heap.size,8,none⟩=some (.int .i64 (s 8)):=T5.b1.cell 8;have y5_8:w5.cell? ⟨w.heap.size+1,8,none⟩=some (.slice ao8 delta.1 cap8):=T5.b2.cell 8;clear T5
    cases t5 with
    | false=>
     go_wp2;go_ret;exact recP rfl (Stair.pass HOK.out (Stair.pass HK.out (Stair.pass HQ.out (Stair.pass HN.out (Stair.fall (fun h=>by have:=H5.out.2 h;simp at this)))))) HB5.out
    | true=>
     have HKP:Hid (za9 s ⟨4,seq,name,length,group,row,rows,data,delta⟩):=H5.out.1 (by simp)
     go_wp2_with fail
     refine (zhv seq name length group row rows data delta ao6 ao7 ao8 cap6 cap7 cap8 _).mono ?_;rintro e w6 ⟨rfl,b6⟩;have HB6:=hid (HB5.out.trans (b6.mono HB5.out.size));clear b6
     go_wp2_with fail
     refine (zb4 _ _ _ _ _ _ _ _ _ _ _ _ _ _ _ _).mono ?_;rintro e w7 ⟨t9,rfl,ht9,b7⟩;have HB7:=hid (HB6.out.trans (b7.mono HB6.out.size));clear b7
     have HT9:Hid (t9=true↔za5 ⟨4,seq,name,length,group,row,rows,data,delta⟩):=by
      show t9=true↔za5 ⟨4,seq,name,length,group,row,rows,data,delta⟩
      rw [ht9];unfold zc5 zbO za5 zcl
      simp [and_assoc]
      try (intros;rfl)
     clear ht9
     cases t9 with
     | false=>
      go_wp2;go_ret;exact recP rfl (Stair.pass HOK.out (Stair.pass HK.out (Stair.pass HQ.out (Stair.pass HN.out (Stair.pass HKP.out (Stair.fall (fun h=>by have:=HT9.out.2 h;simp at this))))))) HB7.out
     | true=>
      go_wp2;go_ret;exact recP rfl (Stair.pass HOK.out (Stair.pass HK.out (Stair.pass HQ.out (Stair.pass HN.out (Stair.pass HKP.out (Stair.pass (HT9.out.1 (by simp)) (Stair.last rfl))))))) HB7.out
  ·go_wp2_with fail
   refine (zaL (t:=false) (by omega) (exBF hq) _).mono ?_;rintro e w' ⟨rfl,hw'⟩;obtain rfl:=hw'.symm;go_wp2;go_ret;exact recP rfl (Stair.pass HOK.out (Stair.pass hk (Stair.fall hq))) HT1.out.bel
 ·go_wp2_with fail
  refine (zaL (t:=false) (by omega) (exBF hk) _).mono ?_;rintro e w' ⟨rfl,hw'⟩;obtain rfl:=hw'.symm;go_wp2;go_ret;exact recP rfl (Stair.pass HOK.out (Stair.fall hk)) HT1.out.bel
theorem zgD (d:WorldD) (hs:zan d.shape) (cs:List Value) (hi:Nat) (w:World) (h:zae.rd w hi d cs) (hhi:hi≤w.heap.size) :
 Calls Tryz.prog 47 #[.agg cs.toArray] w (zbu (OnP d) w):=by
 obtain ⟨ao1,cap1,ao2,cap2,ao3,cap3,rfl,g1,g2,g3,-⟩:=zaN h;obtain ⟨v2,e2,⟨h2,hcp2⟩,_⟩:=g2
 cases e2
 have H2:=hid h2;have HCP:=hid hcp2;have hm2:=h2.mx;unfold maxLen at hm2;have hb:=okB hs;have HS:=hid hs;clear h h2 hcp2 g1 g3 hs;have T0:=zaI w #[.int .i64 (d.shape 0),.int .i64 (d.shape 1),.int .i64 (d.shape 2),.int .i64 (d.shape 3),.int .i64 (d.shape 4),.int .i64 (d.shape 5),.int .i64 (d.shape 6),.int .i64 (d.shape 7),.int .i64 (d.shape 8),.slice ao1 d.groups.1 cap1,.slice ao2 d.on.1 cap2,.slice ao3 d.tapes.1 cap3,.int .i64 d.writes,.int .i64 d.stop,.bool d.down] 34
 go_enter Tryz.func47,Tryz.ntmps47
 cases hd:d.down with
 | true=>
  obtain ⟨b0,h0⟩:∃ b,((d.on.1:Int)==0)=b:=⟨_,rfl⟩
  have HE:Hid (OnP d↔b0=true):=by
   show OnP d↔_
   rw [← h0];unfold OnP
   simp [hd]
   constructor
   ·exact fun h=>h.2.2
   ·intro h
    refine ⟨fun i hi=>by omega,by omega,h⟩
  have HB:Hid (Below w.heap.size w (w.alloc (.cells #[.int .i64 (d.shape 0),.int .i64 (d.shape 1),.int .i64 (d.shape 2),.int .i64 (d.shape 3),.int .i64 (d.shape 4),.int .i64 (d.shape 5),.int .i64 (d.shape 6),.int .i64 (d.shape 7),.int .i64 (d.shape 8),.slice ao1 d.groups.1 cap1,.slice ao2 d.on.1 cap2,.slice ao3 d.tapes.1 cap3,.int .i64 d.writes,.int .i64 d.stop,.bool true] 34))):=by
   have:=T0.bel;rw [hd] at this;exact this
  clear T0
  cases b0 with
  | true=>
   go_wp2;go_ret;exact zaA (by simp [h0]) (HE.out.2 (by simp)) HB.out
  | false=>
   go_wp2;go_ret;exact zaq (by simp [h0]) (fun h=>by have:=HE.out.1 h;simp at this) HB.out
 | false=>
  have T1:=T0;rw [hd] at T1;clear T0
  go_upto_region 3 with fail
  obtain ⟨W,hW⟩:∃ W,W=w.alloc (.cells #[.int .i64 (d.shape 0),.int .i64 (d.shape 1),.int .i64 (d.shape 2),.int .i64 (d.shape 3),.int .i64 (d.shape 4),.int .i64 (d.shape 5),.int .i64 (d.shape 6),.int .i64 (d.shape 7),.int .i64 (d.shape 8),.slice ao1 d.groups.1 cap1,.slice ao2 d.on.1 cap2,.slice ao3 d.tapes.1 cap3,.int .i64 d.writes,.int .i64 d.stop,.bool false] 34):=⟨_,rfl⟩;rw [← hW] at T1 ⊢;have HT:=hid T1;have x1_0:W.cell? ⟨w.heap.size,0,none⟩=some (.int .i64 (d.shape 0)):=T1.b1.cell 0;have kx1_0:=cell_regrown x1_0;have x1_1:W.cell? ⟨w.heap.size,1,none⟩=some (.int .i64 (d.shape 1)):=T1.b1.cell 1;have kx1_1:=cell_regrown x1_1;have x1_2:W.cell? ⟨w.heap.size,2,none⟩=some (.int .i64 (d.shape 2)):=T1.b1.cell 2;have kx1_2:=cell_regrown x1_2;have x1_3:W.cell? ⟨w.heap.size,3,none⟩=some (.int .i64 (d.shape 3)):=T1.b1.cell 3;have kx1_3:=cell_regrown x1_3;have x1_4:W.cell? ⟨w.heap.size,4,none⟩=some (.int .i64 (d.shape 4)):=T1.b1.cell 4;have kx1_4:=cell_regrown x1_4;have x1_5:W.cell? ⟨w.heap.size,5,none⟩=some (.int .i64 (d.shape 5)):=T1.b1.cell 5;have kx1_5:=cell_regrown x1_5;have x1_6:W.cell? ⟨w.heap.size,6,none⟩=some (.int .i64 (d.shape 6)):=T1.b1.cell 6;have kx1_6:=cell_regrown x1_6;have x1_7:W.cell? ⟨w.heap.size,7,none⟩=some (.int .i64 (d.shape 7)):=T1.b1.cell 7;have kx1_7:=cell_regrown x1_7;have x1_8:W.cell? ⟨w.heap.size,8,none⟩=some (.int .i64 (d.shape 8)):=T1.b1.cell 8;have kx1_8:=cell_regrown x1_8;have x1_10:W.cell? ⟨w.heap.size,10,none⟩=some (.slice ao2 d.on.1 cap2):=T1.b1.cell 10;have kx1_10:=cell_regrown x1_10;obtain ⟨b0,h0⟩:∃ b,decide ((d.on.1:Int)≤d.shape 5)=b:=⟨_,rfl⟩;obtain ⟨t2,h2⟩:=exB (zbz d.on.1 d.on.2 (d.shape 0+d.shape 1-1));have cG:=zax (W:=W) (fun w' _=>zbf d.shape HS.out w');have cD:=zax (W:=W) (fun w' hw'=>zbt (zb9 _ d.on.1 d.on.2 hi (d.shape 0+d.shape 1) (by omega) (by omega) w' ((H2.out.below T1.bel hhi).below hw' (Nat.le_trans hhi T1.bel.size)) HCP.out (Nat.le_trans hhi (Nat.le_trans T1.bel.size hw'.size))) h2);unfold zai at cG
  have HE:Hid (OnP d↔(b0=true∧t2=true)):=by
   show OnP d↔_
   rw [← h0,h2];unfold OnP
   simp [hd]
   exact ⟨fun h=>⟨h.2,h.1⟩,fun h=>⟨h.2,h.1⟩⟩
  have hst:b0=false∨(b0=true∧t2=false)∨(b0=true∧t2=true):=by
   clear HE h0 h2 cD
   cases b0<;>simp
  clear h2 hW T1
  rcases hst with rfl | ⟨rfl,rfl⟩ | ⟨rfl,rfl⟩
  all_goals
   refine WQ.region (by kernel_rfl) (by kernel_rfl) ?_
   repeat (first | (apply WQ.skip;(case hw=>rfl);intro K hK;go_simp;apply hK;clear hK K) | (apply WQ.want;(case hw=>rfl);intro K hK;go_simp;first | (apply hK;clear hK K) | (apply Exists.intro;apply And.intro;(case left=>intro p;(first | (go_at_call 80;exact cG _ _) | (go_at_call 83;exact cD _ _)));apply hK;clear hK K)))
   refine WQ.nil ?_;intro w2 hw2;have HB2:Hid (Below w.heap.size w w2):=(HT.out.call (zaG hw2)).bel;clear hw2;go_wp2;go_ret
   first
    | exact zaq rfl (fun h=>by have:=HE.out.1 h;simp at this) HB2.out
    | exact zaA rfl (HE.out.2 (by simp)) HB2.out
set_option maxRecDepth 20000 in
theorem zek (d:WorldD) (cs:List Value) (hi:Nat) (w:World) (h:zae.rd w hi d cs) (hhi:hi≤w.heap.size) (hnm:∀ t,t<d.tapes.1→∀ i,i<(d.tapes.2 t).recs.1→((d.tapes.2 t).recs.2 i).name.size≤1048576) :
 Calls Tryz.prog 50 #[.agg cs.toArray] w (zhM d.shape d.tapes w):=by
 obtain ⟨ao1,cap1,ao2,cap2,ao3,cap3,rfl,g1,g2,g3,-⟩:=zaN h;obtain ⟨_,_,e3,hm3,hc3⟩:=g3
 cases e3
 unfold maxLen at hm3;have HC3:=hid hc3;have HNM:=hid hnm;have HT0:Hid (One w (w.alloc (.cells (rwW d ao1 cap1 ao2 cap2 ao3 cap3).toArray 34)) (rwW d ao1 cap1 ao2 cap2 ao3 cap3).toArray 34):=zaI w (rwW d ao1 cap1 ao2 cap2 ao3 cap3).toArray 34;clear h g1 g2 hc3 hnm
 go_enter Tryz.func50,Tryz.ntmps50
 go_wp2
 go_loopw [11] (fun v wr=>∃ t:Nat,t≤d.tapes.1∧v=.int .i64 t∧(∀ u,u<t→∀ k,k<(d.tapes.2 u).recs.1→RecAns d.shape ((d.tapes.2 u).recs.2 k) 0)∧One w wr (rwW d ao1 cap1 ao2 cap2 ao3 cap3).toArray 34) (fun v _=>d.tapes.1-(intOf v).toNat)
 case atStart=>exact ⟨0,Nat.zero_le _,rfl,fun i hi=>by omega,HT0.out⟩
 case round=>
  clear HT0;obtain ⟨t,ht,rfl,hal,T1⟩:=hrel;obtain ⟨wo,rfl⟩:∃ x,x=wr:=⟨_,rfl⟩;have HAL:=hid hal;have HT1:=hid T1;clear hal
  by_cases hlt:t<d.tapes.1
  ·obtain ⟨b3,off3,he3,hb3,hel3⟩:=HC3.out (by omega)
   subst he3;obtain ⟨ct,hrt,hct⟩:=zap (t:=0) hel3 T1.bel hhi hb3 hlt;obtain ⟨ap,cp,rfl,gt⟩:=za0 hrt;have c0:wo.cell? ⟨b3,off3+t*2,none⟩=some (.bool (d.tapes.2 t).wiped):=hct 0 (by decide);have c1:wo.cell? ⟨b3,off3+t*2+1,none⟩=some (.slice ap (d.tapes.2 t).recs.1 cp):=hct 1 (by decide);obtain ⟨_,_,et,hmt,hct'⟩:=gt
   cases et
   unfold maxLen at hmt;have HCT:=hid hct';have zo:w.heap.size<wo.heap.size:=T1.b1.lt;clear hel3 hct hrt hct' T1
   go_upto_region 4 with fail
   have bA:=bAl wo (.cells #[.bool (d.tapes.2 t).wiped,.slice ap (d.tapes.2 t).recs.1 cp] 71);have X2:=zaF wo #[.bool (d.tapes.2 t).wiped,.slice ap (d.tapes.2 t).recs.1 cp] 71;obtain ⟨W2,hW2⟩:∃ x,x=wo.alloc (.cells #[.bool (d.tapes.2 t).wiped,.slice ap (d.tapes.2 t).recs.1 cp] 71):=⟨_,rfl⟩;rw [← hW2] at bA X2 ⊢;have y2_1:W2.cell? ⟨wo.heap.size,1,none⟩=some (.slice ap (d.tapes.2 t).recs.1 cp):=X2.cell 1;have HB2:=hid bA;clear c0 c1 X2 bA hW2;go_wp2
   go_loopw [18] (fun v wx=>∃ i:Nat,i≤(d.tapes.2 t).recs.1∧v=.int .i64 i∧(∀ k,k<i→RecAns d.shape ((d.tapes.2 t).recs.2 k) 0)∧Below wo.heap.size wo wx) (fun v _=>(d.tapes.2 t).recs.1-(intOf v).toNat)
   case atStart=>exact ⟨0,Nat.zero_le _,rfl,fun i hi=>by omega,HB2.out⟩
   case round=>
    clear HB2 y2_1;obtain ⟨i,hi',rfl,hal2,hb4⟩:=hrel;obtain ⟨wx,rfl⟩:∃ x,x=wr:=⟨_,rfl⟩;have HAL2:=hid hal2;have HB4:=hid hb4;clear hal2
    by_cases hli:i<(d.tapes.2 t).recs.1
    ·obtain ⟨b6,off6,he6,hb6,hel6⟩:=HCT.out (by omega)
     subst he6;obtain ⟨cr,hrr,hcr⟩:=zap (t:=0) hel6 hb4 (by omega) hb6 hli;obtain ⟨ro6,rc6,ro7,rc7,ro8,rc8,rfl,-⟩:=zbe hrr;have r0:wx.cell? ⟨b6,off6+i*9,none⟩=some (.int .i64 ((d.tapes.2 t).recs.2 i).kind):=hcr 0 (by decide);have r1:wx.cell? ⟨b6,off6+i*9+1,none⟩=some (.int .i64 ((d.tapes.2 t).recs.2 i).seq):=hcr 1 (by decide);have r2:wx.cell? ⟨b6,off6+i*9+2,none⟩=some (.string ((d.tapes.2 t).recs.2 i).name):=hcr 2 (by decide);have r3:wx.cell? ⟨b6,off6+i*9+3,none⟩=some (.int .i64 ((d.tapes.2 t).recs.2 i).length):=hcr 3 (by decide);have r4:wx.cell? ⟨b6,off6+i*9+4,none⟩=some (.int .i64 ((d.tapes.2 t).recs.2 i).group):=hcr 4 (by decide);have r5:wx.cell? ⟨b6,off6+i*9+5,none⟩=some (.int .i64 ((d.tapes.2 t).recs.2 i).row):=hcr 5 (by decide);have r6:wx.cell? ⟨b6,off6+i*9+6,none⟩=some (.slice ro6 ((d.tapes.2 t).recs.2 i).rows.1 rc6):=hcr 6 (by decide);have r7:wx.cell? ⟨b6,off6+i*9+7,none⟩=some (.slice ro7 ((d.tapes.2 t).recs.2 i).data.1 rc7):=hcr 7 (by decide);have r8:wx.cell? ⟨b6,off6+i*9+8,none⟩=some (.slice ro8 ((d.tapes.2 t).recs.2 i).delta.1 rc8):=hcr 8 (by decide);have HRR:=hid hrr;have T4:One w wx (rwW d ao1 cap1 ao2 cap2 (some ⟨b3,off3,none⟩) cap3).toArray 34:=HT1.out.call hb4;have HT4:=hid T4;have zx:wo.heap.size≤wx.heap.size:=hb4.size;obtain ⟨X,hX⟩:∃ X,RecAns d.shape ((d.tapes.2 t).recs.2 i) X:=zcx (K:=isZ) ⟨0,rfl⟩ _;have HX:=hid hX;clear hel6 hcr hrr T4 hb4 hX
     go_upto_region 7 with fail
     have bA:=bAl wx (.cells #[.int .i64 ((d.tapes.2 t).recs.2 i).kind,.int .i64 ((d.tapes.2 t).recs.2 i).seq,.string ((d.tapes.2 t).recs.2 i).name,.int .i64 ((d.tapes.2 t).recs.2 i).length,.int .i64 ((d.tapes.2 t).recs.2 i).group,.int .i64 ((d.tapes.2 t).recs.2 i).row,.slice ro6 ((d.tapes.2 t).recs.2 i).rows.1 rc6,.slice ro7 ((d.tapes.2 t).recs.2 i).data.1 rc7,.slice ro8 ((d.tapes.2 t).recs.2 i).delta.1 rc8] 75);have X5:=zaF wx #[.int .i64 ((d.tapes.2 t).recs.2 i).kind,.int .i64 ((d.tapes.2 t).recs.2 i).seq,.string ((d.tapes.2 t).recs.2 i).name,.int .i64 ((d.tapes.2 t).recs.2 i).length,.int .i64 ((d.tapes.2 t).recs.2 i).group,.int .i64 ((d.tapes.2 t).recs.2 i).row,.slice ro6 ((d.tapes.2 t).recs.2 i).rows.1 rc6,.slice ro7 ((d.tapes.2 t).recs.2 i).data.1 rc7,.slice ro8 ((d.tapes.2 t).recs.2 i).delta.1 rc8] 75;obtain ⟨W5,hW5⟩:∃ x,x=wx.alloc (.cells #[.int .i64 ((d.tapes.2 t).recs.2 i).kind,.int .i64 ((d.tapes.2 t).recs.2 i).seq,.string ((d.tapes.2 t).recs.2 i).name,.int .i64 ((d.tapes.2 t).recs.2 i).length,.int .i64 ((d.tapes.2 t).recs.2 i).group,.int .i64 ((d.tapes.2 t).recs.2 i).row,.slice ro6 ((d.tapes.2 t).recs.2 i).rows.1 rc6,.slice ro7 ((d.tapes.2 t).recs.2 i).data.1 rc7,.slice ro8 ((d.tapes.2 t).recs.2 i).delta.1 rc8] 75):=⟨_,rfl⟩;rw [← hW5] at bA X5 ⊢;have T5:One w W5 (rwW d ao1 cap1 ao2 cap2 (some ⟨b3,off3,none⟩) cap3).toArray 34:=HT4.out.call bA;have y5_0:W5.cell? ⟨wx.heap.size,0,none⟩=some (.int .i64 ((d.tapes.2 t).recs.2 i).kind):=X5.cell 0;have y5_1:W5.cell? ⟨wx.heap.size,1,none⟩=some (.int .i64 ((d.tapes.2 t).recs.2 i).seq):=X5.cell 1;have y5_2:W5.cell? ⟨wx.heap.size,2,none⟩=some (.string ((d.tapes.2 t).recs.2 i).name):=X5.cell 2;have y5_3:W5.cell? ⟨wx.heap.size,3,none⟩=some (.int .i64 ((d.tapes.2 t).recs.2 i).length):=X5.cell 3;have y5_4:W5.cell? ⟨wx.heap.size,4,none⟩=some (.int .i64 ((d.tapes.2 t).recs.2 i).group):=X5.cell 4;have y5_5:W5.cell? ⟨wx.heap.size,5,none⟩=some (.int .i64 ((d.tapes.2 t).recs.2 i).row):=X5.cell 5;have y5_6:W5.cell? ⟨wx.heap.size,6,none⟩=some (.slice ro6 ((d.tapes.2 t).recs.2 i).rows.1 rc6):=X5.cell 6;have y5_7:W5.cell? ⟨wx.heap.size,7,none⟩=some (.slice ro7 ((d.tapes.2 t).recs.2 i).data.1 rc7):=X5.cell 7
     have y5_8:W5.cell? ⟨wx.heap.size,8,none⟩=some (.slice ro8 ((d.tapes.2 t).recs.2 i).delta.1 rc8):=X5.cell 8;have x5_0:W5.cell? ⟨w.heap.size,0,none⟩=some (.int .i64 (d.shape 0)):=T5.b1.cell 0;have x5_1:W5.cell? ⟨w.heap.size,1,none⟩=some (.int .i64 (d.shape 1)):=T5.b1.cell 1;have x5_2:W5.cell? ⟨w.heap.size,2,none⟩=some (.int .i64 (d.shape 2)):=T5.b1.cell 2;have x5_3:W5.cell? ⟨w.heap.size,3,none⟩=some (.int .i64 (d.shape 3)):=T5.b1.cell 3;have x5_4:W5.cell? ⟨w.heap.size,4,none⟩=some (.int .i64 (d.shape 4)):=T5.b1.cell 4;have x5_5:W5.cell? ⟨w.heap.size,5,none⟩=some (.int .i64 (d.shape 5)):=T5.b1.cell 5;have x5_6:W5.cell? ⟨w.heap.size,6,none⟩=some (.int .i64 (d.shape 6)):=T5.b1.cell 6;have x5_7:W5.cell? ⟨w.heap.size,7,none⟩=some (.int .i64 (d.shape 7)):=T5.b1.cell 7;have x5_8:W5.cell? ⟨w.heap.size,8,none⟩=some (.int .i64 (d.shape 8)):=T5.b1.cell 8;have CR:=zg1 HX.out (zfR d.shape ((d.tapes.2 t).recs.2 i) _ hi W5 (zab.rd_below HRR.out bA (by omega)) (by have:=bA.size;omega) (HNM.out t hlt i hli));unfold zai at CR;have HB5:=hid bA;clear r0 r1 r2 r3 r4 r5 r6 r7 r8 bA X5 T5 hW5
     go_wp2_with fail
     refine CR.mono ?_;rintro e w6 ⟨rfl,b6'⟩;have HB6:Hid (Below wo.heap.size wo w6):=HB4.out.trans ((HB5.out.trans (b6'.mono HB5.out.size)).mono HB4.out.size);clear b6' CR y5_0 x5_0 y5_1 x5_1 y5_2 x5_2 y5_3 x5_3 y5_4 x5_4 y5_5 x5_5 y5_6 x5_6 y5_7 x5_7 y5_8 x5_8
     by_cases hx0:X=0
     ·subst hx0
      go_wp2
      go_roundw
      case rel=>exact ⟨i+1,by omega,by go_num,fun k hk=>by
       by_cases c:k=i
       ·subst c;exact HX.out
       ·exact HAL2.out k (by omega),HB6.out⟩
      case measure=>simp [intOf];omega
     ·have hne:(X != 0)=true:=by simp [hx0]
      go_wp2;go_ret;exact ⟨X,rfl,.inr ⟨hx0,t,i,hlt,hli,HX.out,HAL2.out,HAL.out⟩,(HT1.out.call HB6.out).bel⟩
    ·obtain rfl:i=(d.tapes.2 t).recs.1:=by omega
     clear hb4;go_wp2
     go_roundw
     case rel=>exact ⟨t+1,by omega,by go_num,fun u hu=>by
      by_cases c:u=t
      ·subst c;exact HAL2.out
      ·exact HAL.out u (by omega),HT1.out.call HB4.out⟩
     case measure=>simp [intOf];omega
  ·obtain rfl:t=d.tapes.1:=by omega
   go_wp2;go_ret;exact ⟨0,rfl,.inl ⟨rfl,HAL.out⟩,HT1.out.bel⟩
set_option maxRecDepth 20000 in
theorem zel (d:WorldD) (cs:List Value) (hi:Nat) (w:World) (h:zae.rd w hi d cs) (hhi:hi≤w.heap.size) (hnm:∀ t,t<d.tapes.1→∀ i,i<(d.tapes.2 t).recs.1→((d.tapes.2 t).recs.2 i).name.size≤1048576) :
 Calls Tryz.prog 23 #[.agg cs.toArray] w (zcm d w):=by
 obtain ⟨ao1,cap1,ao2,cap2,ao3,cap3,rfl,g1,g2,g3,-⟩:=zaN h;have HRD:=hid h;have HG1:=hid g1;have HG3:=hid g3
 have hm3:d.tapes.1≤maxLen:=by obtain ⟨_,_,_,h,_⟩:=g3;exact h
 unfold maxLen at hm3;have HNM:=hid hnm;clear h g1 g2 g3 hnm;have T0:=zaI w (rwW d ao1 cap1 ao2 cap2 ao3 cap3).toArray 34;have CSh:=fun w'=>zb3 d.shape w';unfold zai at CSh
 go_enter Tryz.func23,Tryz.ntmps23
 go_wp2_with fail
 refine (CSh _).mono ?_;rintro e w1 ⟨x,rfl,hx,b1⟩;have T1:One w w1 (rwW d ao1 cap1 ao2 cap2 ao3 cap3).toArray 34:=T0.call b1;have HT1:=hid T1;clear b1 T0 CSh;have x1_0:w1.cell? ⟨w.heap.size,0,none⟩=some (.int .i64 (d.shape 0)):=T1.b1.cell 0;have x1_1:w1.cell? ⟨w.heap.size,1,none⟩=some (.int .i64 (d.shape 1)):=T1.b1.cell 1;have x1_2:w1.cell? ⟨w.heap.size,2,none⟩=some (.int .i64 (d.shape 2)):=T1.b1.cell 2;have x1_3:w1.cell? ⟨w.heap.size,3,none⟩=some (.int .i64 (d.shape 3)):=T1.b1.cell 3;have x1_4:w1.cell? ⟨w.heap.size,4,none⟩=some (.int .i64 (d.shape 4)):=T1.b1.cell 4;have x1_5:w1.cell? ⟨w.heap.size,5,none⟩=some (.int .i64 (d.shape 5)):=T1.b1.cell 5;have x1_6:w1.cell? ⟨w.heap.size,6,none⟩=some (.int .i64 (d.shape 6)):=T1.b1.cell 6;have x1_7:w1.cell? ⟨w.heap.size,7,none⟩=some (.int .i64 (d.shape 7)):=T1.b1.cell 7;have x1_8:w1.cell? ⟨w.heap.size,8,none⟩=some (.int .i64 (d.shape 8)):=T1.b1.cell 8;have x1_9:w1.cell? ⟨w.heap.size,9,none⟩=some (.slice ao1 d.groups.1 cap1):=T1.b1.cell 9;have x1_10:w1.cell? ⟨w.heap.size,10,none⟩=some (.slice ao2 d.on.1 cap2):=T1.b1.cell 10;have x1_11:w1.cell? ⟨w.heap.size,11,none⟩=some (.slice ao3 d.tapes.1 cap3):=T1.b1.cell 11;have x1_12:w1.cell? ⟨w.heap.size,12,none⟩=some (.int .i64 d.writes):=T1.b1.cell 12;have x1_13:w1.cell? ⟨w.heap.size,13,none⟩=some (.int .i64 d.stop):=T1.b1.cell 13;have x1_14:w1.cell? ⟨w.heap.size,14,none⟩=some (.bool d.down):=T1.b1.cell 14;clear T1
 rcases hx with ⟨rfl,hno⟩ | ⟨rfl,hok⟩
 ·go_wp2
  go_ret;exact wldP rfl (Stair.fall hno) HT1.out.bel
 have HOK:=hid hok;clear hok;obtain ⟨t1,h1⟩:=exB (zb8 d);have C1:=zbt (zej d.shape HOK.out d.groups _ hi w1 (((zaa.slice 79).slice 76).rd_below HG1.out HT1.out.bel hhi) (Nat.le_trans hhi HT1.out.bel.size)) (show t1=true↔zha d.shape d.groups from h1);unfold zai at C1;have H1:=hid h1;clear h1
 go_wp2_with fail
 refine C1.mono ?_;rintro e w2 ⟨rfl,b2⟩;have T2:One w w2 (rwW d ao1 cap1 ao2 cap2 ao3 cap3).toArray 34:=HT1.out.call b2;have HT2:=hid T2;clear b2 x1_0 x1_1 x1_2 x1_3 x1_4 x1_5 x1_6 x1_7 x1_8 x1_9 x1_10 x1_11 x1_12 x1_13 x1_14;have x2_0:w2.cell? ⟨w.heap.size,0,none⟩=some (.int .i64 (d.shape 0)):=T2.b1.cell 0;have x2_1:w2.cell? ⟨w.heap.size,1,none⟩=some (.int .i64 (d.shape 1)):=T2.b1.cell 1;have x2_2:w2.cell? ⟨w.heap.size,2,none⟩=some (.int .i64 (d.shape 2)):=T2.b1.cell 2;have x2_3:w2.cell? ⟨w.heap.size,3,none⟩=some (.int .i64 (d.shape 3)):=T2.b1.cell 3;have x2_4:w2.cell? ⟨w.heap.size,4,none⟩=some (.int .i64 (d.shape 4)):=T2.b1.cell 4;have x2_5:w2.cell? ⟨w.heap.size,5,none⟩=some (.int .i64 (d.shape 5)):=T2.b1.cell 5;have x2_6:w2.cell? ⟨w.heap.size,6,none⟩=some (.int .i64 (d.shape 6)):=T2.b1.cell 6;have x2_7:w2.cell? ⟨w.heap.size,7,none⟩=some (.int .i64 (d.shape 7)):=T2.b1.cell 7;have x2_8:w2.cell? ⟨w.heap.size,8,none⟩=some (.int .i64 (d.shape 8)):=T2.b1.cell 8;have x2_9:w2.cell? ⟨w.heap.size,9,none⟩=some (.slice ao1 d.groups.1 cap1):=T2.b1.cell 9;have x2_10:w2.cell? ⟨w.heap.size,10,none⟩=some (.slice ao2 d.on.1 cap2):=T2.b1.cell 10;have x2_11:w2.cell? ⟨w.heap.size,11,none⟩=some (.slice ao3 d.tapes.1 cap3):=T2.b1.cell 11;have x2_12:w2.cell? ⟨w.heap.size,12,none⟩=some (.int .i64 d.writes):=T2.b1.cell 12;have x2_13:w2.cell? ⟨w.heap.size,13,none⟩=some (.int .i64 d.stop):=T2.b1.cell 13;have x2_14:w2.cell? ⟨w.heap.size,14,none⟩=some (.bool d.down):=T2.b1.cell 14;clear T2;clear C1
 cases t1 with
 | false=>
  go_wp2;go_ret;exact wldP rfl (Stair.pass HOK.out (Stair.fall (fun h=>by have:=H1.out.2 h.1;simp at this))) HT2.out.bel
 | true=>
 have HB:Hid (zb8 d):=H1.out.1 rfl;clear H1;obtain ⟨t2,h2⟩:=exB (OnP d);have C2:=zbt (zgD d HOK.out _ hi w2 (zae.rd_below HRD.out HT2.out.bel hhi) (Nat.le_trans hhi HT2.out.bel.size)) h2;have H2:=hid h2;clear h2
 go_wp2_with fail
 refine C2.mono ?_;rintro e w3 ⟨rfl,b3⟩;have T3:One w w3 (rwW d ao1 cap1 ao2 cap2 ao3 cap3).toArray 34:=HT2.out.call b3;have HT3:=hid T3;clear b3 x2_0 x2_1 x2_2 x2_3 x2_4 x2_5 x2_6 x2_7 x2_8 x2_9 x2_10 x2_11 x2_12 x2_13 x2_14;have x3_0:w3.cell? ⟨w.heap.size,0,none⟩=some (.int .i64 (d.shape 0)):=T3.b1.cell 0;have x3_1:w3.cell? ⟨w.heap.size,1,none⟩=some (.int .i64 (d.shape 1)):=T3.b1.cell 1;have x3_2:w3.cell? ⟨w.heap.size,2,none⟩=some (.int .i64 (d.shape 2)):=T3.b1.cell 2;have x3_3:w3.cell? ⟨w.heap.size,3,none⟩=some (.int .i64 (d.shape 3)):=T3.b1.cell 3;have x3_4:w3.cell? ⟨w.heap.size,4,none⟩=some (.int .i64 (d.shape 4)):=T3.b1.cell 4;have x3_5:w3.cell? ⟨w.heap.size,5,none⟩=some (.int .i64 (d.shape 5)):=T3.b1.cell 5;have x3_6:w3.cell? ⟨w.heap.size,6,none⟩=some (.int .i64 (d.shape 6)):=T3.b1.cell 6;have x3_7:w3.cell? ⟨w.heap.size,7,none⟩=some (.int .i64 (d.shape 7)):=T3.b1.cell 7;have x3_8:w3.cell? ⟨w.heap.size,8,none⟩=some (.int .i64 (d.shape 8)):=T3.b1.cell 8;have x3_9:w3.cell? ⟨w.heap.size,9,none⟩=some (.slice ao1 d.groups.1 cap1):=T3.b1.cell 9;have x3_10:w3.cell? ⟨w.heap.size,10,none⟩=some (.slice ao2 d.on.1 cap2):=T3.b1.cell 10;have x3_11:w3.cell? ⟨w.heap.size,11,none⟩=some (.slice ao3 d.tapes.1 cap3):=T3.b1.cell 11;have x3_12:w3.cell? ⟨w.heap.size,12,none⟩=some (.int .i64 d.writes):=T3.b1.cell 12;have x3_13:w3.cell? ⟨w.heap.size,13,none⟩=some (.int .i64 d.stop):=T3.b1.cell 13;have x3_14:w3.cell? ⟨w.heap.size,14,none⟩=some (.bool d.down):=T3.b1.cell 14;clear T3;clear C2
 cases t2 with
 | false=>
  go_wp2;go_ret;exact wldP rfl (Stair.pass HOK.out (Stair.fall (fun h=>by have:=H2.out.2 h.2.1;simp at this))) HT3.out.bel
 | true=>
 have HO:Hid (OnP d):=H2.out.1 rfl;clear H2
 by_cases h5:d.tapes.1=2
 ·have n5:((d.tapes.1:Int) != 2)=false:=by simp;omega
  have HFM:Hid (zbZ d):=⟨HB.out,HO.out,h5⟩;clear h5;obtain ⟨t4,h4⟩:=exB (zbk d.tapes);have C4:=zbt (zcZ d.tapes _ _ hi w3 ((zag.slice 71).rd_below HG3.out HT3.out.bel hhi) (Nat.le_trans hhi HT3.out.bel.size)) h4;have H4:=hid h4;clear h4
  go_wp2_with fail
  refine C4.mono ?_;rintro e w4 ⟨rfl,b4⟩;have T4:One w w4 (rwW d ao1 cap1 ao2 cap2 ao3 cap3).toArray 34:=HT3.out.call b4;have HT4:=hid T4;clear b4 x3_0 x3_1 x3_2 x3_3 x3_4 x3_5 x3_6 x3_7 x3_8 x3_9 x3_10 x3_11 x3_12 x3_13 x3_14;have x4_0:w4.cell? ⟨w.heap.size,0,none⟩=some (.int .i64 (d.shape 0)):=T4.b1.cell 0;have x4_1:w4.cell? ⟨w.heap.size,1,none⟩=some (.int .i64 (d.shape 1)):=T4.b1.cell 1;have x4_2:w4.cell? ⟨w.heap.size,2,none⟩=some (.int .i64 (d.shape 2)):=T4.b1.cell 2;have x4_3:w4.cell? ⟨w.heap.size,3,none⟩=some (.int .i64 (d.shape 3)):=T4.b1.cell 3;have x4_4:w4.cell? ⟨w.heap.size,4,none⟩=some (.int .i64 (d.shape 4)):=T4.b1.cell 4;have x4_5:w4.cell? ⟨w.heap.size,5,none⟩=some (.int .i64 (d.shape 5)):=T4.b1.cell 5;have x4_6:w4.cell? ⟨w.heap.size,6,none⟩=some (.int .i64 (d.shape 6)):=T4.b1.cell 6;have x4_7:w4.cell? ⟨w.heap.size,7,none⟩=some (.int .i64 (d.shape 7)):=T4.b1.cell 7;have x4_8:w4.cell? ⟨w.heap.size,8,none⟩=some (.int .i64 (d.shape 8)):=T4.b1.cell 8;have x4_9:w4.cell? ⟨w.heap.size,9,none⟩=some (.slice ao1 d.groups.1 cap1):=T4.b1.cell 9;have x4_10:w4.cell? ⟨w.heap.size,10,none⟩=some (.slice ao2 d.on.1 cap2):=T4.b1.cell 10;have x4_11:w4.cell? ⟨w.heap.size,11,none⟩=some (.slice ao3 d.tapes.1 cap3):=T4.b1.cell 11;have x4_12:w4.cell? ⟨w.heap.size,12,none⟩=some (.int .i64 d.writes):=T4.b1.cell 12;have x4_13:w4.cell? ⟨w.heap.size,13,none⟩=some (.int .i64 d.stop):=T4.b1.cell 13;have x4_14:w4.cell? ⟨w.heap.size,14,none⟩=some (.bool d.down):=T4.b1.cell 14;clear T4;clear C4
  cases t4 with
  | true=>
   go_wp2;go_ret
   exact wldP rfl (Stair.pass HOK.out (Stair.pass HFM.out (Stair.fall (fun h=>by
    obtain ⟨t,ht,hh⟩:=H4.out.1 (by simp);have:=h t ht
    omega)))) HT4.out.bel
  | false=>
  have HFW:Hid (FewP d):=fun t ht=>by
   by_cases c:200<(d.tapes.2 t).recs.1
   ·have:=H4.out.2 ⟨t,ht,c⟩
    simp at this
   ·omega
  clear H4;have C5:=zek d _ hi w4 (zae.rd_below HRD.out HT4.out.bel hhi) (Nat.le_trans hhi HT4.out.bel.size) HNM.out
  go_wp2_with fail
  refine C5.mono ?_;rintro e w5 ⟨X,rfl,hX,b5⟩;have T5:One w w5 (rwW d ao1 cap1 ao2 cap2 ao3 cap3).toArray 34:=HT4.out.call b5;have HT5:=hid T5;clear b5 x4_0 x4_1 x4_2 x4_3 x4_4 x4_5 x4_6 x4_7 x4_8 x4_9 x4_10 x4_11 x4_12 x4_13 x4_14;have x5_0:w5.cell? ⟨w.heap.size,0,none⟩=some (.int .i64 (d.shape 0)):=T5.b1.cell 0;have x5_1:w5.cell? ⟨w.heap.size,1,none⟩=some (.int .i64 (d.shape 1)):=T5.b1.cell 1;have x5_2:w5.cell? ⟨w.heap.size,2,none⟩=some (.int .i64 (d.shape 2)):=T5.b1.cell 2;have x5_3:w5.cell? ⟨w.heap.size,3,none⟩=some (.int .i64 (d.shape 3)):=T5.b1.cell 3;have x5_4:w5.cell? ⟨w.heap.size,4,none⟩=some (.int .i64 (d.shape 4)):=T5.b1.cell 4;have x5_5:w5.cell? ⟨w.heap.size,5,none⟩=some (.int .i64 (d.shape 5)):=T5.b1.cell 5;have x5_6:w5.cell? ⟨w.heap.size,6,none⟩=some (.int .i64 (d.shape 6)):=T5.b1.cell 6;have x5_7:w5.cell? ⟨w.heap.size,7,none⟩=some (.int .i64 (d.shape 7)):=T5.b1.cell 7;have x5_8:w5.cell? ⟨w.heap.size,8,none⟩=some (.int .i64 (d.shape 8)):=T5.b1.cell 8;have x5_9:w5.cell? ⟨w.heap.size,9,none⟩=some (.slice ao1 d.groups.1 cap1):=T5.b1.cell 9;have x5_10:w5.cell? ⟨w.heap.size,10,none⟩=some (.slice ao2 d.on.1 cap2):=T5.b1.cell 10;have x5_11:w5.cell? ⟨w.heap.size,11,none⟩=some (.slice ao3 d.tapes.1 cap3):=T5.b1.cell 11;have x5_12:w5.cell? ⟨w.heap.size,12,none⟩=some (.int .i64 d.writes):=T5.b1.cell 12;have x5_13:w5.cell? ⟨w.heap.size,13,none⟩=some (.int .i64 d.stop):=T5.b1.cell 13;have x5_14:w5.cell? ⟨w.heap.size,14,none⟩=some (.bool d.down):=T5.b1.cell 14;clear T5;clear C5
  by_cases hx0:X=0
  ·subst hx0
   have HRZ:=hid hX;clear hX;obtain ⟨t6,h6⟩:=exB (zaO d.tapes);have C6:=zbt (zca d.tapes _ _ hi w5 ((zag.slice 71).rd_below HG3.out HT5.out.bel hhi) (Nat.le_trans hhi HT5.out.bel.size)) h6;have H6:=hid h6;clear h6
   go_wp2_with fail
   refine C6.mono ?_;rintro e w6 ⟨rfl,b6⟩;have T6:One w w6 (rwW d ao1 cap1 ao2 cap2 ao3 cap3).toArray 34:=HT5.out.call b6;have HT6:=hid T6;clear b6 x5_0 x5_1 x5_2 x5_3 x5_4 x5_5 x5_6 x5_7 x5_8 x5_9 x5_10 x5_11 x5_12 x5_13 x5_14;have x6_0:w6.cell? ⟨w.heap.size,0,none⟩=some (.int .i64 (d.shape 0)):=T6.b1.cell 0;have x6_1:w6.cell? ⟨w.heap.size,1,none⟩=some (.int .i64 (d.shape 1)):=T6.b1.cell 1;have x6_2:w6.cell? ⟨w.heap.size,2,none⟩=some (.int .i64 (d.shape 2)):=T6.b1.cell 2;have x6_3:w6.cell? ⟨w.heap.size,3,none⟩=some (.int .i64 (d.shape 3)):=T6.b1.cell 3;have x6_4:w6.cell? ⟨w.heap.size,4,none⟩=some (.int .i64 (d.shape 4)):=T6.b1.cell 4;have x6_5:w6.cell? ⟨w.heap.size,5,none⟩=some (.int .i64 (d.shape 5)):=T6.b1.cell 5;have x6_6:w6.cell? ⟨w.heap.size,6,none⟩=some (.int .i64 (d.shape 6)):=T6.b1.cell 6;have x6_7:w6.cell? ⟨w.heap.size,7,none⟩=some (.int .i64 (d.shape 7)):=T6.b1.cell 7;have x6_8:w6.cell? ⟨w.heap.size,8,none⟩=some (.int .i64 (d.shape 8)):=T6.b1.cell 8;have x6_9:w6.cell? ⟨w.heap.size,9,none⟩=some (.slice ao1 d.groups.1 cap1):=T6.b1.cell 9;have x6_10:w6.cell? ⟨w.heap.size,10,none⟩=some (.slice ao2 d.on.1 cap2):=T6.b1.cell 10;have x6_11:w6.cell? ⟨w.heap.size,11,none⟩=some (.slice ao3 d.tapes.1 cap3):=T6.b1.cell 11;have x6_12:w6.cell? ⟨w.heap.size,12,none⟩=some (.int .i64 d.writes):=T6.b1.cell 12;have x6_13:w6.cell? ⟨w.heap.size,13,none⟩=some (.int .i64 d.stop):=T6.b1.cell 13;have x6_14:w6.cell? ⟨w.heap.size,14,none⟩=some (.bool d.down):=T6.b1.cell 14;clear T6;clear C6
   cases t6 with
   | true=>
    go_wp2;go_ret;exact wldP rfl (Stair.pass HOK.out (Stair.pass HFM.out (Stair.pass HFW.out (Stair.last (.inr ⟨HRZ.out,Stair.fall (fun h=>by obtain ⟨t,ht,h1,h2⟩:=H6.out.1 (by simp);have:=h t ht h1;omega)⟩))))) HT6.out.bel
   | false=>
   have HCL:Hid (zf7 d):=fun t ht hw=>by
    by_cases c:0<(d.tapes.2 t).recs.1
    ·have:=H6.out.2 ⟨t,ht,hw,c⟩
     simp at this
    ·omega
   clear H6
   by_cases h7:InP d.writes 0 1000000000
   ·go_wp2_with fail
    refine (zaL (t:=true) (by omega) (exBT h7) _).mono ?_;rintro e w' ⟨rfl,hw'⟩;obtain rfl:=hw'.symm
    by_cases h8:InP d.stop (-1) 1000000000
    ·go_wp2_with fail
     refine (zaL (t:=true) (by omega) (exBT h8) _).mono ?_;rintro e w' ⟨rfl,hw'⟩;obtain rfl:=hw'.symm;go_wp2;go_ret;exact wldP rfl (Stair.pass HOK.out (Stair.pass HFM.out (Stair.pass HFW.out (Stair.last (.inr ⟨HRZ.out,Stair.pass HCL.out (Stair.pass ⟨h7,h8⟩ (Stair.last rfl))⟩))))) HT6.out.bel
    ·go_wp2_with fail
     refine (zaL (t:=false) (by omega) (exBF h8) _).mono ?_;rintro e w' ⟨rfl,hw'⟩;obtain rfl:=hw'.symm;go_wp2;go_ret;exact wldP rfl (Stair.pass HOK.out (Stair.pass HFM.out (Stair.pass HFW.out (Stair.last (.inr ⟨HRZ.out,Stair.pass HCL.out (Stair.fall (fun h=>h8 h.2))⟩))))) HT6.out.bel
   ·go_wp2_with fail
    refine (zaL (t:=false) (by omega) (exBF h7) _).mono ?_;rintro e w' ⟨rfl,hw'⟩;obtain rfl:=hw'.symm;go_wp2;go_ret;exact wldP rfl (Stair.pass HOK.out (Stair.pass HFM.out (Stair.pass HFW.out (Stair.last (.inr ⟨HRZ.out,Stair.pass HCL.out (Stair.fall (fun h=>h7 h.1))⟩))))) HT6.out.bel
  ·have hne:(X != 0)=true:=by simp [hx0]
   go_wp2;go_ret;exact wldP rfl (Stair.pass HOK.out (Stair.pass HFM.out (Stair.pass HFW.out (Stair.last (.inl ⟨hx0,hX⟩))))) HT5.out.bel
 ·have n5:((d.tapes.1:Int) != 2)=true:=by simp;omega
  go_wp2;go_ret;exact wldP rfl (Stair.pass HOK.out (Stair.fall (fun h=>h5 h.2.2))) HT3.out.bel
theorem zem {w:World} {hi:Nat} {d:WorldD} {cs:List Value} (h:zae.rd w hi d cs):∃ v0 v1 v2 v3 v4 v5 v6 v7 v8 vp0 vl0 vq0 vp1 vl1 vq1 vp2 vl2 vq2 v9 v10 vb,cs=[.int .i64 v0,.int .i64 v1,.int .i64 v2,.int .i64 v3,.int .i64 v4,.int .i64 v5,.int .i64 v6,.int .i64 v7,.int .i64 v8,.slice vp0 vl0 vq0,.slice vp1 vl1 vq1,.slice vp2 vl2 vq2,.int .i64 v9,.int .i64 v10,.bool vb]:=by
 obtain ⟨p1,pc1,p2,pc2,p3,pc3,rfl,-⟩:=zaN h;exact ⟨_,_,_,_,_,_,_,_,_,_,_,_,_,_,_,_,_,_,_,_,_,rfl⟩
theorem zen {w:World} {lo hi:Nat} {d:WorldD} {cs:List Value} (h:OwnT zae w lo hi d cs):∃ v0 v1 v2 v3 v4 v5 v6 v7 v8 vp0 vl0 vq0 vp1 vl1 vq1 vp2 vl2 vq2 v9 v10 vb,cs=[.int .i64 v0,.int .i64 v1,.int .i64 v2,.int .i64 v3,.int .i64 v4,.int .i64 v5,.int .i64 v6,.int .i64 v7,.int .i64 v8,.slice vp0 vl0 vq0,.slice vp1 vl1 vq1,.slice vp2 vl2 vq2,.int .i64 v9,.int .i64 v10,.bool vb]:=zem h.rd
def zhc (d:WorldD) (s:Int):WorldD:={ d with writes:=0,stop:=s,down:=false }
theorem ze5 {w:World} {lo hi:Nat} {d:WorldD} {c0 c1 c2 c3 c4 c5 c6 c7 c8 c9 c10 c11 c12 c13 c14:Value} (s:Int) (hs:(-9223372036854775808≤s∧s≤9223372036854775807)) (h:OwnT zae w lo hi d [c0,c1,c2,c3,c4,c5,c6,c7,c8,c9,c10,c11,c12,c13,c14]):OwnT zae w lo hi (zhc d s) [c0,c1,c2,c3,c4,c5,c6,c7,c8,c9,c10,c11,.int .i64 0,.int .i64 s,.bool false]:=by
 obtain ⟨M,h1,h2,h3⟩:=h;obtain ⟨a1,b1,a2,b2,a3,b3,K1,K2,K3,e,hM,o1,o2,o3,k0,k4,k5⟩:=zdo h1
 simp only [List.cons.injEq,and_true] at e
 obtain ⟨rfl,rfl,rfl,rfl,rfl,rfl,rfl,rfl,rfl,rfl,rfl,rfl,rfl,rfl,rfl⟩:=e;subst hM;exact ⟨K1++(K2++(K3++[])),zd1 (zhc d s) o1 o2 o3 k0 (show (-9223372036854775808≤(0:Int)∧(0:Int)≤9223372036854775807) by decide) hs,h2,h3⟩
def RaiseAns (d:WorldD) (s:Int) (r:WorldResultD):Prop:=(∃ x,x≠0∧WldAns d x∧r=⟨x,zeX⟩)∨(WldAns d 0∧((¬ InP s (-1) 1000000000∧r=⟨3,zeX⟩)∨(InP s (-1) 1000000000∧((d.down=false∧r=⟨1,zeX⟩)∨(d.down=true∧r=⟨0,zhc d s⟩)))))
theorem RaiseAns.one {d:WorldD} {s:Int} {r q:WorldResultD} (h:RaiseAns d s r) (k:RaiseAns d s q):r=q:=by
 rcases h with ⟨x,h1,h2,rfl⟩ | ⟨h1,h⟩<;>rcases k with ⟨y,k1,k2,rfl⟩ | ⟨k1,k⟩
 ·rw [h2.one k2]
 ·exact absurd (h2.one k1) h1
 ·exact absurd (k2.one h1) k1
 ·rcases h with ⟨h2,rfl⟩ | ⟨h2,h⟩<;>rcases k with ⟨k2,rfl⟩ | ⟨k2,k⟩
  ·rfl
  ·exact absurd k2 h2
  ·exact absurd h2 k2
  ·rcases h with ⟨h3,rfl⟩ | ⟨h3,rfl⟩<;>rcases k with ⟨k3,rfl⟩ | ⟨k3,rfl⟩
   ·rfl
   ·rw [h3] at k3;cases k3
   ·rw [h3] at k3;cases k3
   ·rfl
theorem zde {K:Int→Prop}:∀ (l:List (Prop×Int)) {x:Int},Stair l K x→K x∨∃ p,p∈l∧x=p.2
 | [],x,h=>.inl h
 | (p,c)::l,x,h=>by
  rcases h with ⟨_,h⟩ | ⟨_,h⟩
  ·exact .inr ⟨(p,c),List.mem_cons_self ..,h⟩
  ·rcases zde l h with k | ⟨q,hq,k⟩
   ·exact .inl k
   ·exact .inr ⟨q,List.mem_cons_of_mem _ hq,k⟩
theorem zhd {s:Nat→Int} {r:RecD} {x:Int} (h:RecAns s r x):0≤x∧x≤9:=by
 rcases zde _ h with k | ⟨p,hp,rfl⟩
 ·rw [show x=0 from k];decide
 ·simp at hp
  rcases hp with rfl | rfl | rfl | rfl | rfl | rfl<;>constructor<;>simp
theorem zcS {d:WorldD} {x:Int} (h:WldAns d x):(-9223372036854775808≤x∧x≤9223372036854775807):=by
 have key:0≤x∧x≤9:=by
  rcases zde _ h with k | ⟨p,hp,rfl⟩
  ·rcases k with ⟨_,k⟩ | ⟨_,k⟩
   ·rcases k with ⟨rfl,_⟩ | ⟨_,t,i,_,_,hr,_⟩
    ·decide
    ·exact zhd hr
   ·rcases zde _ k with k | ⟨p,hp,rfl⟩
    ·rw [show x=0 from k];decide
    ·simp at hp
     rcases hp with rfl | rfl<;>constructor<;>simp
  ·simp at hp
   rcases hp with rfl | rfl | rfl<;>constructor<;>simp
 omega
theorem zc7 {d:WorldD} (h:za1 d≤1048576):∀ t,t<d.tapes.1→∀ i,i<(d.tapes.2 t).recs.1→((d.tapes.2 t).recs.2 i).name.size≤1048576:=fun t ht i hi=>by
 have h1:szSl zaJ d.tapes≤1048576:=by unfold za1 at h;omega
 have h2:szSl zaR (d.tapes.2 t).recs≤1048576:=zbb h1 ht;have h3:zaR ((d.tapes.2 t).recs.2 i)≤1048576:=zbb h2 hi;unfold zaR at h3;omega
theorem OwnI.full {w:World} {lo hi g n:Nat} {f:Nat→Int} (h:OwnI w lo hi (.slice (some ⟨g,0,none⟩) n n) n f):w.heap[g]?=some (.cells (zaQ n f).toArray 2 (0,0)):=by
 rcases h.1.2 with ⟨h',_⟩ | ⟨g',cap',cur,h',_,hg,_,_,hcs,htake⟩
 ·simp at h'
 ·simp only [Value.slice.injEq,Option.some.injEq,Addr.mk.injEq,and_true,true_and] at h'
  obtain ⟨rfl,rfl⟩:=h'
  have:cur=(zaQ n f).toArray:=by
   rw [← htake,List.take_of_length_le (by simp;omega)]
  rw [← this];exact hg
theorem ze6 {w:World} {lo g n:Nat} {f:Nat→Int} (hg:w.heap[g]?=some (.cells (zaQ n f).toArray 2 (0,0))) (hlo:lo≤g) (hm:n≤maxLen):OwnI w lo w.heap.size (.slice (some ⟨g,0,none⟩) n n) n f:=
 ⟨⟨by rw [zao];omega,.inr ⟨g,n,_,rfl,hlo,hg,Nat.le_refl _,hm,by simp [zao],by simp [List.take_of_length_le,zao]⟩⟩,fun k hk=>by
  simp [Value.ownBlock] at hk
  subst hk
  exact (Array.getElem?_eq_some_iff.1 hg).1⟩
theorem zfS (N off m:Nat) (f t h:Nat→Int) (hm:off+m≤N) (hh:∀ i,i<N→h i=if off≤i∧i<off+m then t (i-off) else f i):splice (zaQ N f) off (zaQ m t)=zaQ N h:=by
 unfold splice
 apply List.ext_getElem?
 intro i
 by_cases hi:i<N
 ·rw [zaW N h i hi,hh i hi]
  by_cases h1:i<off
  ·have e1:¬ (off≤i∧i<off+m):=by omega
   rw [if_neg e1,List.getElem?_append_left (by rw [List.length_take,zao];omega),List.getElem?_take,if_pos h1,zaW N f i hi]
  ·rw [List.getElem?_append_right (by rw [List.length_take,zao];omega)]
   have e0:(List.take off (zaQ N f)).length=off:=by rw [List.length_take,zao];omega
   rw [e0]
   by_cases h2:i<off+m
   ·rw [if_pos ⟨by omega,h2⟩,List.getElem?_append_left (by rw [zao];omega),zaW m t _ (by omega)]
   ·have e1:¬ (off≤i∧i<off+m):=by omega
    rw [if_neg e1,List.getElem?_append_right (by rw [zao];omega),zao,List.getElem?_drop,show off+m+(i-off-m)=i by omega,zaW N f i hi]
 ·rw [List.getElem?_eq_none (by simp [zao];omega),List.getElem?_eq_none (by rw [zao];omega)]
theorem ze7 {w:World} {hi n cap:Nat} {ao:Option Addr} {f:Nat→Int} (r:RdI w hi (.slice ao n cap) n f) (h:0<(zaQ n f).length):∃ ad,ao=some ad∧∀ j v,(zaQ n f)[j]?=some v→w.cell? (ad.add j)=some v:=by
 rw [zao] at h;obtain ⟨ao',cap',he,_,hc⟩:=r
 simp only [Value.slice.injEq,true_and] at he
 obtain ⟨rfl,rfl⟩:=he;obtain ⟨b,off,rfl,_,hcell⟩:=hc (by omega);refine ⟨_,rfl,fun j v hj=>?_⟩
 by_cases hjn:j<n
 ·rw [zaW n f j hjn] at hj
  rw [add_none',hcell j hjn];exact hj
 ·rw [List.getElem?_eq_none (by rw [zao];omega)] at hj
  cases hj
theorem zdW (n:Nat) (f:Nat→Int):∀ v∈zaQ n f,v.oneCell'=true:=fun v hv=>by
 simp only [zaQ,List.mem_map] at hv
 obtain ⟨i,_,rfl⟩:=hv;rfl
theorem zhw:(Tryz.prog.info? 2).map (·.size)=some 1:=by kernel_rfl
theorem zhE {w:World} {lo hi n:Nat} {v:Value} {f:Nat→Int} (h:OwnI w lo hi v n f) (hh:hi≤w.heap.size) (kf:∀ i,-9223372036854775808≤f i∧f i≤9223372036854775807):OwnT zah w lo hi (n,f) [v]:=by
 refine ⟨v.ownBlock.toList,⟨v,rfl,rfl,h.weaken (Nat.zero_le _) hh,kf⟩,?_,fun b hb=>?_⟩
 ·cases v.ownBlock<;>simp
 ·have hb':v.ownBlock=some b:=by simpa using hb
  exact ⟨(h.1.lt b hb').1,h.2 b hb'⟩
def ToF {α:Type} (A:Lay α) (sz:α→Nat) (fn g:Nat):Prop:=∀ (v:Value) (d:α) (hi:Nat) (w:World),A.rd w hi d [v]→hi≤w.heap.size→sz d≤1048576→
 Calls Tryz.prog fn #[v,.func (.func g) #[] #[]] w fun e w'=>∃ v',e=.returned v'∧OwnT A w' w.heap.size w'.heap.size d [v']∧Below w.heap.size w w'
theorem zcp:ToS zac lenD 112:=fun v d hi w h hhi hn=>by
 obtain ⟨n,f⟩:=d;obtain ⟨v',e1,r1,kf⟩:=h
 cases e1
 simp only at r1 kf
 skip
 have hn':n≤1048576:=hn;clear hn;have R1:=fun (w1:World) (hb:Below w.heap.size w w1)=>r1.below hb hhi;obtain ⟨ao,cap,rfl,hm1,hc1⟩:=r1;clear hc1;have HS:Hid (splice (cellsOf n fun _=>0) 0 (cellsOf n f)=cellsOf n f):=zeM n 0 n _ f f (by omega) (fun i hi=>by simp [hi])
 have L1:(cellsOf n f).length=Nat.min n n:=by rw [zal];exact (Nat.min_self n).symm
 have L2:0+(cellsOf n f).length≤(cellsOf n fun _=>0).length:=by simp [zal]
 have HL1:=hid L1;have HL2:=hid L2;clear L1 L2
 go_enter Tryz.func112,Tryz.ntmps112
 go_wp2_with (first | (at_make;refine zfW _ rfl _ _ rfl _ _ n rfl rfl (by simp) (by simp) (by omega) ?_;intro w1 hown1 hb1 hz1) | (refine wpList_copy_splice rfl (.tmp 7) (.tmp 8) 73 73 rfl 5 Tryz.underlying73 zhH (some ⟨w.heap.size,0,none⟩) ao n n n cap rfl rfl w.heap.size 0 (cellsOf n fun _=>0) 5 hown1.full (cellsOf n f) HL1.out (fun hp=>⟨rfl,zf5 (R1 w1 hb1) hp⟩) HL2.out (zdq n f) w.heap.size w hb1 (Nat.le_refl _) ?_;intro w2 hF2 hb2))
 go_ret;have F2:=hF2.out;rw [HS.out] at F2;exact ⟨_,rfl,zhC (zfo F2 (Nat.le_refl _) (by unfold maxLen;omega)) (Nat.le_refl _) kf,hb2⟩
theorem zdz:ToS zah lenD 54:=fun v d hi w h hhi hn=>by
 obtain ⟨n,f⟩:=d;obtain ⟨v',e1,r1,kf⟩:=h
 cases e1
 simp only at r1 kf
 replace r1:=r1.1;have hn':n≤1048576:=hn;clear hn;have R1:=fun (w1:World) (hb:Below w.heap.size w w1)=>r1.below hb hhi;obtain ⟨ao,cap,rfl,hm1,hc1⟩:=r1;clear hc1;have HS:Hid (splice (zaQ n fun _=>0) 0 (zaQ n f)=zaQ n f):=zfS n 0 n _ f f (by omega) (fun i hi=>by simp [hi])
 have L1:(zaQ n f).length=Nat.min n n:=by rw [zao];exact (Nat.min_self n).symm
 have L2:0+(zaQ n f).length≤(zaQ n fun _=>0).length:=by simp [zao]
 have HL1:=hid L1;have HL2:=hid L2;clear L1 L2
 go_enter Tryz.func54,Tryz.ntmps54
 go_wp2_with (first | (at_make;refine zfY _ rfl _ _ rfl _ _ n rfl rfl (by simp) (by simp) (by omega) ?_;intro w1 hown1 hb1 hz1) | (refine wpList_copy_splice rfl (.tmp 7) (.tmp 8) 25 25 rfl 2 Tryz.underlying25 zhw (some ⟨w.heap.size,0,none⟩) ao n n n cap rfl rfl w.heap.size 0 (zaQ n fun _=>0) 2 hown1.full (zaQ n f) HL1.out (fun hp=>⟨rfl,ze7 (R1 w1 hb1) hp⟩) HL2.out (zdW n f) w.heap.size w hb1 (Nat.le_refl _) ?_;intro w2 hF2 hb2))
 go_ret;have F2:=hF2.out;rw [HS.out] at F2;exact ⟨_,rfl,zhE (ze6 F2 (Nat.le_refl _) (by unfold maxLen;omega)) (Nat.le_refl _) kf,hb2⟩
theorem run_append_none' {P:Program} (w:World) (base:Nat) (t ty e:TypeId) (i:TypeInfo) (size:Nat) (ht:P.underlying t=some (.slice e)) (hi:P.info? e=some i) (v:Value) (n c:Nat) (xs:List Value) (hown:w.ownsRow base e size v n xs) :
 (Builtin.append_ #[t,t] ty #[v,.slice none 0 c]).run P w=.ok v w:=by
 rcases hown.2 with ⟨rfl,rfl⟩ | ⟨g,cap,cur,rfl,_,_,hnc,_⟩
 ·simp [Builtin.append_,run_underlying ht,sizeOf,typeInfo,hi,Builtin.lenOf,Builtin.firstCells]
 ·simp [Builtin.append_,run_underlying ht,sizeOf,typeInfo,hi,Builtin.lenOf,Builtin.firstCells,hnc,storeCells]
theorem zdA (w:World) (e:TypeId):(w.alloc (.cells #[] e)).ownsRow w.heap.size e 1 (.slice (some ⟨w.heap.size,0,none⟩) 0 0) 0 []:=World.ownsRow_lit (base:=w.heap.size) (e:=e) (size:=1) w #[] 0 (Nat.le_refl _) (Nat.zero_le _) rfl
theorem zdB {T e:TypeId} {z:Value} {by_:Nat} (hu:Tryz.prog.underlying T=some (.slice e)) (hi:(Tryz.prog.info? e).map (fun i=>(i.zero,i.size,i.bytes))=some (some z,1,by_)) (hz:z.cells.size=1) (hby:by_≤100) (ty:TypeId) (W:World) (p:Nat) (hown:W.ownsRow p e 1 (.slice (some ⟨p,0,none⟩) 0 0) 0 [])
 (ao:Option Addr) (m cap:Nat) (cs:List Value) (hl:cs.length=m) (hsrc:0<cs.length→∃ ad,ao=some ad∧∀ j v,cs[j]?=some v→W.cell? (ad.add j)=some v) (h1:∀ v∈cs,v.oneCell'=true) (hm:m≤10000000) :
 ∃ v' w',(Builtin.append_ #[T,T] ty #[.slice (some ⟨p,0,none⟩) 0 0,.slice ao m cap]).run Tryz.prog W=.ok v' w'∧w'.ownsRow p e 1 v' m cs∧Below p W w':=by
 obtain ⟨i0,hi0,hz0,hz1,hz2⟩:=info_parts hi;have hlo:p≤W.heap.size:=Nat.le_of_lt (hown.lt p rfl).2
 have big:∀ ad,ao=some ad→(∀ j v,cs[j]?=some v→W.cell? (ad.add j)=some v)→∃ v' w',(Builtin.append_ #[T,T] ty #[.slice (some ⟨p,0,none⟩) 0 0,.slice ao m cap]).run Tryz.prog W=.ok v' w'∧w'.ownsRow p e 1 v' m cs∧Below p W w':=fun ad ha hc=>by
  subst ha
  have hb2:(0+m)*by_≤140737488355328:=by
   have:(0+m)*by_≤10000000*100:=Nat.mul_le_mul (by omega) hby;omega
  obtain ⟨v',w',hr,r1,r2,_⟩:=run_append_own_at (P:=Tryz.prog) W p T ty e i0 z 1 by_ hu hi0 hz0 hz1 hz2 hz (by decide) _ 0 [] hown ad m cap cs (by omega) hc h1 (by unfold maxLen;omega) hb2 hlo;refine ⟨v',w',hr,?_,(Below.refl _ _).grown r2 hlo (fun k hk=>(hown.lt k hk).1)⟩;rw [Nat.zero_add,List.nil_append] at r1;exact r1
 by_cases h0:0<cs.length
 ·obtain ⟨ad,ha,hc⟩:=hsrc h0
  exact big ad ha hc
 ·have hcs:cs=[]:=List.eq_nil_of_length_eq_zero (by omega)
  subst hcs
  cases ao with
  | some ad=>exact big ad rfl (fun j v hj=>by simp at hj)
  | none=>
   have hm0:m=0:=by simpa using hl.symm
   subst hm0;exact ⟨_,W,run_append_none' W p T ty e i0 1 hu hi0 _ 0 cap _ hown,hown,Below.refl _ _⟩
theorem one_i:(Value.int .i64 0).cells.size=1:=rfl
theorem one_b:(Value.int .u8 0).cells.size=1:=rfl
theorem zc8 (ty:TypeId) (W:World) (p:Nat) (hown:W.ownsRow p 2 1 (.slice (some ⟨p,0,none⟩) 0 0) 0 []) {hi m cap:Nat} {ao:Option Addr} {f:Nat→Int} (r:zah.rd W hi (m,f) [.slice ao m cap]) (hm:m≤10000000) :
 ∃ v' w',(Builtin.append_ #[25,25] ty #[.slice (some ⟨p,0,none⟩) 0 0,.slice ao m cap]).run Tryz.prog W=.ok v' w'∧OwnT zah w' p w'.heap.size (m,f) [v']∧Below p W w':=by
 obtain ⟨v,e,⟨r1,_⟩,kf⟩:=r
 cases e
 obtain ⟨v',w',hr,h2,h3⟩:=zdB Tryz.underlying25 zfX one_i (by decide) ty W p hown ao m cap (zaQ m f) (zao m f) (fun hp=>ze7 r1 hp) (zdW m f) hm;exact ⟨v',w',hr,zhE ⟨h2,fun k hk=>(h2.lt k hk).2⟩ (Nat.le_refl _) kf,h3⟩
theorem zcq (ty:TypeId) (W:World) (p:Nat) (hown:W.ownsRow p 5 1 (.slice (some ⟨p,0,none⟩) 0 0) 0 []) {hi m cap:Nat} {ao:Option Addr} {f:Nat→Nat} (r:zac.rd W hi (m,f) [.slice ao m cap]) (hm:m≤10000000) :
 ∃ v' w',(Builtin.append_ #[73,73] ty #[.slice (some ⟨p,0,none⟩) 0 0,.slice ao m cap]).run Tryz.prog W=.ok v' w'∧OwnT zac w' p w'.heap.size (m,f) [v']∧Below p W w':=by
 obtain ⟨v,e,r1,kf⟩:=r
 cases e
 obtain ⟨v',w',hr,h2,h3⟩:=zdB Tryz.underlying73 zgG one_b (by decide) ty W p hown ao m cap (cellsOf m f) (zal m f) (fun hp=>zf5 r1 hp) (zdq m f) hm;exact ⟨v',w',hr,zhC ⟨h2,fun k hk=>(h2.lt k hk).2⟩ (Nat.le_refl _) kf,h3⟩
theorem zeo {ops:Array Oper} {rest:List Oper} {o:Oper} {a:Act} {W w':World} {Q:Exit→Act→World→Prop} {T:TypeId} {v' x1 x2:Value} (hg:o.guard=none) (s y:Operand) (hop:o.op=Op.call { callee:=Callee.builtin Builtin.append,args:=#[s,y],argTypes:=#[T,T] })
 (h1:a.eval s=x1) (h2:a.eval y=x2) (hrun:(Builtin.append_ #[T,T] o.type #[x1,x2]).run Tryz.prog W=.ok v' w') (hK:wpList Tryz.prog ops Q rest (a.put o.dst v') w'):wpList Tryz.prog ops Q (o::rest) a W:=by
 refine wpList_plain hg fun K hK'=>?_;unfold Oper.wp
 simp [execOp,hop,resolve,invoke,builtin,h1,h2,hrun,Result.andThen]
 exact hK' _ _ hK
theorem zhe {ops:Array Oper} {o:Oper} {a:Act} {W w':World} {K:Act→World→Prop} {Q:Exit→Act→World→Prop} {F:Prop} {T:TypeId} {v' x1 x2:Value} (hg:o.guard=none) (s y:Operand) (hop:o.op=Op.call { callee:=Callee.builtin Builtin.append,args:=#[s,y],argTypes:=#[T,T] })
 (h1:a.eval s=x1) (h2:a.eval y=x2) (hrun:(Builtin.append_ #[T,T] o.type #[x1,x2]).run Tryz.prog W=.ok v' w') (hK:K (a.put o.dst v') w'):if Region.wanted o (yielded ops a.tmps)=true then Oper.wp Tryz.prog o a W K Q else F:=by
 have hw:Region.wanted o (yielded ops a.tmps)=true:=by simp [Region.wanted,hg]
 rw [if_pos hw];unfold Oper.wp
 simp [execOp,hop,resolve,invoke,builtin,h1,h2,hrun,Result.andThen]
 exact hK
theorem zhf:ElInfo zab 69 75 128 [.int .i64 0,.int .i64 0,.string ByteArray.empty,.int .i64 0,.int .i64 0,.int .i64 0,.slice none 0 0,.slice none 0 0,.slice none 0 0]:=⟨by decide,rfl,Tryz.underlying69,by kernel_rfl,by decide⟩
set_option maxRecDepth 20000 in
theorem zgE:ToV zab zaR 89:=fun cs d hi w r hhi hn=>by
 obtain ⟨ao6,cap6,ao7,cap7,ao8,cap8,rfl,h6,h7,h8,k0,k1,k2,k3,k4,k5⟩:=zbe r;clear r;unfold zaR at hn;have R6:=hid h6;have R7:=hid h7;have R8:=hid h8;clear h6 h7 h8;have Q0:=hid k0;have Q1:=hid k1;have Q2:=hid k2;have Q3:=hid k3;have Q4:=hid k4;have Q5:=hid k5;clear k0 k1 k2 k3 k4 k5;have T0:=zay w (rwR d ao6 cap6 ao7 cap7 ao8 cap8).toArray #[.int .i64 0,.int .i64 0,.string ByteArray.empty,.int .i64 0,.int .i64 0,.int .i64 0,.slice none 0 0,.slice none 0 0,.slice none 0 0] 75 75
 go_enter Tryz.func89,Tryz.ntmps89
 go_wp2_with fail
 refine (zdz _ d.rows hi _ (zah.rd_below R6.out T0.bel hhi) (Nat.le_trans hhi T0.bel.size) (by omega)).mono ?_;rintro e w1 ⟨v0,rfl,o0,b0⟩;obtain ⟨bo6,bcap6,hv⟩:=zbE o0;obtain rfl:=zaD hv;clear hv;have T0c:=T0.call b0;have z0:=T0.b2.lt;have y0:=b0.size;have c0_6:w1.cell? ⟨w.heap.size,6,none⟩=some (.slice ao6 d.rows.1 cap6):=T0c.b1.cell 6;have c0f_6:w1.frozen? ⟨w.heap.size,6,none⟩=false:=T0c.b1.frozen 6;have T1x:Two w (w1.setCell ⟨w.heap.size,6,none⟩ (.slice bo6 d.rows.1 bcap6)) (rwR d bo6 bcap6 ao7 cap7 ao8 cap8).toArray #[.int .i64 0,.int .i64 0,.string ByteArray.empty,.int .i64 0,.int .i64 0,.int .i64 0,.slice none 0 0,.slice none 0 0,.slice none 0 0] 75 75:=⟨T0c.b1.stL [.slice bo6 d.rows.1 bcap6] 6,T0c.b2.seto _ _ (by omega),T0c.bel.setCell (Nat.le_refl _) _⟩;have O6_0:=(o0.stN w.heap.size 6 [.slice bo6 d.rows.1 bcap6] (by omega))
 have e1:(w1.setCell ⟨w.heap.size,6,none⟩ (.slice bo6 d.rows.1 bcap6)).heap.size=w1.heap.size:=by simp
 clear o0 b0
 go_upto_region 2 with fail
 obtain ⟨W1,hW1⟩:∃ x,x=w1.setCell ⟨w.heap.size,6,none⟩ (.slice bo6 d.rows.1 bcap6):=⟨_,rfl⟩
 have O6:Hid (OwnT zah W1 (w.heap.size+1+1) (w1.heap.size) d.rows [.slice bo6 d.rows.1 bcap6]):=by rw [hW1];exact OwnT.weaken O6_0 (by simp) (Nat.le_refl _)
 rw [← hW1] at T1x e1 ⊢;clear hW1 O6_0 T0c c0_6 c0f_6;have a1_7:W1.cell? ⟨w.heap.size,7,none⟩=some (.slice ao7 d.data.1 cap7):=T1x.b1.cell 7
 go_wp2_with fail
 refine (zcp _ d.data hi _ (zac.rd_below R7.out T1x.bel hhi) (Nat.le_trans hhi T1x.bel.size) (by omega)).mono ?_;rintro e w2 ⟨v1,rfl,o1,b1⟩;obtain ⟨bo7,bcap7,hv⟩:=zaY o1;obtain rfl:=zaD hv;clear hv;have T1c:=T1x.call b1;have z1:=T1x.b2.lt;have y1:=b1.size;have c1_7:w2.cell? ⟨w.heap.size,7,none⟩=some (.slice ao7 d.data.1 cap7):=T1c.b1.cell 7;have c1f_7:w2.frozen? ⟨w.heap.size,7,none⟩=false:=T1c.b1.frozen 7;have T2x:Two w (w2.setCell ⟨w.heap.size,7,none⟩ (.slice bo7 d.data.1 bcap7)) (rwR d bo6 bcap6 bo7 bcap7 ao8 cap8).toArray #[.int .i64 0,.int .i64 0,.string ByteArray.empty,.int .i64 0,.int .i64 0,.int .i64 0,.slice none 0 0,.slice none 0 0,.slice none 0 0] 75 75:=⟨T1c.b1.stL [.slice bo7 d.data.1 bcap7] 7,T1c.b2.seto _ _ (by omega),T1c.bel.setCell (Nat.le_refl _) _⟩;have O6_1:=(O6.out.call b1).stN w.heap.size 7 [.slice bo7 d.data.1 bcap7] (by omega);have O7_1:=(o1.stN w.heap.size 7 [.slice bo7 d.data.1 bcap7] (by omega))
 have e2:(w2.setCell ⟨w.heap.size,7,none⟩ (.slice bo7 d.data.1 bcap7)).heap.size=w2.heap.size:=by simp
 clear o1 b1 O6 T1x a1_7
 go_upto_region 3 with fail
 obtain ⟨W2,hW2⟩:∃ x,x=w2.setCell ⟨w.heap.size,7,none⟩ (.slice bo7 d.data.1 bcap7):=⟨_,rfl⟩
 have O6:Hid (OwnT zah W2 (w.heap.size+1+1) (w1.heap.size) d.rows [.slice bo6 d.rows.1 bcap6]):=by rw [hW2];exact O6_1
 have O7:Hid (OwnT zac W2 (W1.heap.size) (w2.heap.size) d.data [.slice bo7 d.data.1 bcap7]):=by rw [hW2];exact O7_1
 rw [← hW2] at T2x e2 ⊢;clear hW2 O6_1 O7_1 T1c c1_7 c1f_7;have a2_8:W2.cell? ⟨w.heap.size,8,none⟩=some (.slice ao8 d.delta.1 cap8):=T2x.b1.cell 8
 go_wp2_with fail
 refine (zcp _ d.delta hi _ (zac.rd_below R8.out T2x.bel hhi) (Nat.le_trans hhi T2x.bel.size) (by omega)).mono ?_;rintro e w3 ⟨v2,rfl,o2,b2⟩;obtain ⟨bo8,bcap8,hv⟩:=zaY o2;obtain rfl:=zaD hv;clear hv;have T2c:=T2x.call b2;have z2:=T2x.b2.lt;have y2:=b2.size;have c2_8:w3.cell? ⟨w.heap.size,8,none⟩=some (.slice ao8 d.delta.1 cap8):=T2c.b1.cell 8;have c2f_8:w3.frozen? ⟨w.heap.size,8,none⟩=false:=T2c.b1.frozen 8;have T3x:Two w (w3.setCell ⟨w.heap.size,8,none⟩ (.slice bo8 d.delta.1 bcap8)) (rwR d bo6 bcap6 bo7 bcap7 bo8 bcap8).toArray #[.int .i64 0,.int .i64 0,.string ByteArray.empty,.int .i64 0,.int .i64 0,.int .i64 0,.slice none 0 0,.slice none 0 0,.slice none 0 0] 75 75:=⟨T2c.b1.stL [.slice bo8 d.delta.1 bcap8] 8,T2c.b2.seto _ _ (by omega),T2c.bel.setCell (Nat.le_refl _) _⟩;have O6_2:=(O6.out.call b2).stN w.heap.size 8 [.slice bo8 d.delta.1 bcap8] (by omega);have O7_2:=(O7.out.call b2).stN w.heap.size 8 [.slice bo8 d.delta.1 bcap8] (by omega);have O8_2:=(o2.stN w.heap.size 8 [.slice bo8 d.delta.1 bcap8] (by omega))
 have e3:(w3.setCell ⟨w.heap.size,8,none⟩ (.slice bo8 d.delta.1 bcap8)).heap.size=w3.heap.size:=by simp
 clear o2 b2 O6 O7 T2x a2_8
 go_upto_region 4 with fail
 obtain ⟨W3,hW3⟩:∃ x,x=w3.setCell ⟨w.heap.size,8,none⟩ (.slice bo8 d.delta.1 bcap8):=⟨_,rfl⟩
 have O6:Hid (OwnT zah W3 (w.heap.size+1+1) (w1.heap.size) d.rows [.slice bo6 d.rows.1 bcap6]):=by rw [hW3];exact O6_2
 have O7:Hid (OwnT zac W3 (W1.heap.size) (w2.heap.size) d.data [.slice bo7 d.data.1 bcap7]):=by rw [hW3];exact O7_2
 have O8:Hid (OwnT zac W3 (W2.heap.size) (w3.heap.size) d.delta [.slice bo8 d.delta.1 bcap8]):=by rw [hW3];exact O8_2
 rw [← hW3] at T3x e3 ⊢;clear hW3 O6_2 O7_2 O8_2 T2c c2_8 c2f_8;have y_0:W3.cell? ⟨w.heap.size,0,none⟩=some (.int .i64 d.kind):=T3x.b1.cell 0;have y_1:W3.cell? ⟨w.heap.size,1,none⟩=some (.int .i64 d.seq):=T3x.b1.cell 1;have y_2:W3.cell? ⟨w.heap.size,2,none⟩=some (.string d.name):=T3x.b1.cell 2;have y_3:W3.cell? ⟨w.heap.size,3,none⟩=some (.int .i64 d.length):=T3x.b1.cell 3;have y_4:W3.cell? ⟨w.heap.size,4,none⟩=some (.int .i64 d.group):=T3x.b1.cell 4;have y_5:W3.cell? ⟨w.heap.size,5,none⟩=some (.int .i64 d.row):=T3x.b1.cell 5;have y_6:W3.cell? ⟨w.heap.size,6,none⟩=some (.slice bo6 d.rows.1 bcap6):=T3x.b1.cell 6;have y_7:W3.cell? ⟨w.heap.size,7,none⟩=some (.slice bo7 d.data.1 bcap7):=T3x.b1.cell 7;have y_8:W3.cell? ⟨w.heap.size,8,none⟩=some (.slice bo8 d.delta.1 bcap8):=T3x.b1.cell 8;have r_0:W3.cell? ⟨w.heap.size+1,0,none⟩=some (.int .i64 0):=T3x.b2.cell 0;have rf_0:W3.frozen? ⟨w.heap.size+1,0,none⟩=false:=T3x.b2.frozen 0;have r_1:W3.cell? ⟨w.heap.size+1,1,none⟩=some (.int .i64 0):=T3x.b2.cell 1;have rf_1:W3.frozen? ⟨w.heap.size+1,1,none⟩=false:=T3x.b2.frozen 1;have r_2:W3.cell? ⟨w.heap.size+1,2,none⟩=some (.string ByteArray.empty):=T3x.b2.cell 2;have rf_2:W3.frozen? ⟨w.heap.size+1,2,none⟩=false:=T3x.b2.frozen 2;have r_3:W3.cell? ⟨w.heap.size+1,3,none⟩=some (.int .i64 0):=T3x.b2.cell 3;have rf_3:W3.frozen? ⟨w.heap.size+1,3,none⟩=false:=T3x.b2.frozen 3;have r_4:W3.cell? ⟨w.heap.size+1,4,none⟩=some (.int .i64 0):=T3x.b2.cell 4;have rf_4:W3.frozen? ⟨w.heap.size+1,4,none⟩=false:=T3x.b2.frozen 4;have r_5:W3.cell? ⟨w.heap.size+1,5,none⟩=some (.int .i64 0):=T3x.b2.cell 5;have rf_5:W3.frozen? ⟨w.heap.size+1,5,none⟩=false:=T3x.b2.frozen 5;have r_6:W3.cell? ⟨w.heap.size+1,6,none⟩=some (.slice none 0 0):=T3x.b2.cell 6;have rf_6:W3.frozen? ⟨w.heap.size+1,6,none⟩=false:=T3x.b2.frozen 6;have r_7:W3.cell? ⟨w.heap.size+1,7,none⟩=some (.slice none 0 0):=T3x.b2.cell 7;have rf_7:W3.frozen? ⟨w.heap.size+1,7,none⟩=false:=T3x.b2.frozen 7;have r_8:W3.cell? ⟨w.heap.size+1,8,none⟩=some (.slice none 0 0):=T3x.b2.cell 8;have rf_8:W3.frozen? ⟨w.heap.size+1,8,none⟩=false:=T3x.b2.frozen 8;have HB:=hid T3x.bel;have zz:=T3x.b2.lt;clear T3x;go_wp2;refine bodyPost_ret (v:=.agg (rwR d bo6 bcap6 bo7 bcap7 bo8 bcap8).toArray) (by simp [results,Tryz.results89,go_sem,r_0,y_0,r_1,y_1,r_2,y_2,r_3,y_3,r_4,y_4,r_5,y_5,r_6,y_6,r_7,y_7,r_8,y_8]) rfl ?_;have F:OwnT zab W3 (w.heap.size+1+1) w3.heap.size d ([.int .i64 d.kind]++([.int .i64 d.seq]++([.string d.name]++([.int .i64 d.length]++([.int .i64 d.group]++([.int .i64 d.row]++([.slice bo6 d.rows.1 bcap6]++([.slice bo7 d.data.1 bcap7]++[.slice bo8 d.delta.1 bcap8])))))))):=OwnT.conv (OwnT.pre (A:=layI) (a:=d.kind) (c:=[.int .i64 d.kind]) ⟨rfl,Q0.out,rfl⟩ (OwnT.pre (A:=layI) (a:=d.seq) (c:=[.int .i64 d.seq]) ⟨rfl,Q1.out,rfl⟩ (OwnT.pre (A:=layS) (a:=d.name) (c:=[.string d.name]) ⟨rfl,Q2.out,rfl⟩ (OwnT.pre (A:=layI) (a:=d.length) (c:=[.int .i64 d.length]) ⟨rfl,Q3.out,rfl⟩ (OwnT.pre (A:=layI) (a:=d.group) (c:=[.int .i64 d.group]) ⟨rfl,Q4.out,rfl⟩ (OwnT.pre (A:=layI) (a:=d.row) (c:=[.int .i64 d.row]) ⟨rfl,Q5.out,rfl⟩ (OwnT.two O6.out (OwnT.two O7.out O8.out (by omega) (by omega) (by omega)) (by omega) (by omega) (by omega))))))))
 refine ⟨(rwR d bo6 bcap6 bo7 bcap7 bo8 bcap8),rfl,?_,?_⟩
 ·exact OwnT.finb (F.weaken (Nat.le_refl _) (by omega)) (b:=w.heap.size+1) (by omega) (by omega) 0 (rwR d bo6 bcap6 bo7 bcap7 bo8 bcap8) _ rfl
 ·exact HB.out.trans (zaC (by omega) (rwR d bo6 bcap6 bo7 bcap7 bo8 bcap8) 0)
set_option maxRecDepth 20000 in
theorem zfT:ToF (zab.slice 75) (szSl zaR) 88 89:=fun v d hi w h hhi hn=>by
 obtain ⟨n,x⟩:=d;obtain ⟨ao,cap,hv,hm,hc⟩:=h
 cases hv
 have hn1:=zbJ hn;have hn2:∀ i,i<n→zaR (x i)≤1048576:=fun i hi=>zbb hn hi
 simp only at hn1 hm hc
 clear hn
 go_enter Tryz.func88,Tryz.ntmps88
 go_wp2_with (at_make;refine zbv zab [.int .i64 0,.int .i64 0,.string ByteArray.empty,.int .i64 0,.int .i64 0,.int .i64 0,.slice none 0 0,.slice none 0 0,.slice none 0 0] _ 75 128 (zhf).hs rfl Tryz.underlying69 (zhf).hi x (fun _=>[]) _ rfl _ _ rfl _ _ n rfl rfl rfl rfl (by omega) (by omega) ?_;intro w1 sp1 hb1)
 go_loopw [12] (fun i wr=>∃ k:Nat,k≤n∧i=.int .i64 k∧∃ ce Ls,SlP zab 75 wr w.heap.size w.heap.size n n k x ce Ls∧Below w.heap.size w wr) (fun i _=>n-(intOf i).toNat)
 case atStart=>exact ⟨0,Nat.zero_le _,rfl,_,_,sp1,hb1⟩
 case round=>
  clear sp1 hb1;obtain ⟨k,hk,rfl,ce,Ls,sp,hb⟩:=hrel
  by_cases hlt:k<n
  ·obtain ⟨b,off,rfl,hblt,hel⟩:=hc (by omega)
   obtain ⟨ck,hrk,hcell⟩:=zap (t:=0) hel hb hhi hblt hlt;obtain ⟨ao6,cap6,ao7,cap7,ao8,cap8,rfl,-⟩:=zbe hrk;have c0:wr.cell? ⟨b,off+k*9,none⟩=some (.int .i64 (x k).kind):=hcell 0 (by decide);have c1:wr.cell? ⟨b,off+k*9+1,none⟩=some (.int .i64 (x k).seq):=hcell 1 (by decide);have c2:wr.cell? ⟨b,off+k*9+2,none⟩=some (.string (x k).name):=hcell 2 (by decide);have c3:wr.cell? ⟨b,off+k*9+3,none⟩=some (.int .i64 (x k).length):=hcell 3 (by decide);have c4:wr.cell? ⟨b,off+k*9+4,none⟩=some (.int .i64 (x k).group):=hcell 4 (by decide);have c5:wr.cell? ⟨b,off+k*9+5,none⟩=some (.int .i64 (x k).row):=hcell 5 (by decide);have c6:wr.cell? ⟨b,off+k*9+6,none⟩=some (.slice ao6 (x k).rows.1 cap6):=hcell 6 (by decide);have c7:wr.cell? ⟨b,off+k*9+7,none⟩=some (.slice ao7 (x k).data.1 cap7):=hcell 7 (by decide);have c8:wr.cell? ⟨b,off+k*9+8,none⟩=some (.slice ao8 (x k).delta.1 cap8):=hcell 8 (by decide);clear hc hel hcell
   go_wp2_with fail
   refine (zgE _ (x k) hi wr hrk (Nat.le_trans hhi hb.size) (hn2 k hlt)).mono ?_;rintro e w2 ⟨cs',rfl,o2,hb2⟩;obtain ⟨bao6,bcap6,bao7,bcap7,bao8,bcap8,rfl⟩:=zdn o2;obtain ⟨z0,s0⟩:=sp.some hb2 hlt (show 0<zab.sz by decide);have s0:w2.cell? ⟨w.heap.size,k*9,none⟩=some z0:=s0;have sf0:=(sp.below hb2).frozen (k*9);obtain ⟨z1,s1⟩:=sp.some hb2 hlt (show 1<zab.sz by decide);have s1:w2.cell? ⟨w.heap.size,k*9+1,none⟩=some z1:=s1;have sf1:=(sp.below hb2).frozen (k*9+1);obtain ⟨z2,s2⟩:=sp.some hb2 hlt (show 2<zab.sz by decide);have s2:w2.cell? ⟨w.heap.size,k*9+2,none⟩=some z2:=s2;have sf2:=(sp.below hb2).frozen (k*9+2);obtain ⟨z3,s3⟩:=sp.some hb2 hlt (show 3<zab.sz by decide);have s3:w2.cell? ⟨w.heap.size,k*9+3,none⟩=some z3:=s3;have sf3:=(sp.below hb2).frozen (k*9+3);obtain ⟨z4,s4⟩:=sp.some hb2 hlt (show 4<zab.sz by decide);have s4:w2.cell? ⟨w.heap.size,k*9+4,none⟩=some z4:=s4;have sf4:=(sp.below hb2).frozen (k*9+4);obtain ⟨z5,s5⟩:=sp.some hb2 hlt (show 5<zab.sz by decide);have s5:w2.cell? ⟨w.heap.size,k*9+5,none⟩=some z5:=s5;have sf5:=(sp.below hb2).frozen (k*9+5);obtain ⟨z6,s6⟩:=sp.some hb2 hlt (show 6<zab.sz by decide);have s6:w2.cell? ⟨w.heap.size,k*9+6,none⟩=some z6:=s6;have sf6:=(sp.below hb2).frozen (k*9+6);obtain ⟨z7,s7⟩:=sp.some hb2 hlt (show 7<zab.sz by decide);have s7:w2.cell? ⟨w.heap.size,k*9+7,none⟩=some z7:=s7;have sf7:=(sp.below hb2).frozen (k*9+7);obtain ⟨z8,s8⟩:=sp.some hb2 hlt (show 8<zab.sz by decide);have s8:w2.cell? ⟨w.heap.size,k*9+8,none⟩=some z8:=s8;have sf8:=(sp.below hb2).frozen (k*9+8);have N:=sp.next hb2 hlt o2 hb.size;have N2:Below w.heap.size w (stN w2 w.heap.size (k*zab.sz) [.int .i64 (x k).kind,.int .i64 (x k).seq,.string (x k).name,.int .i64 (x k).length,.int .i64 (x k).group,.int .i64 (x k).row,.slice bao6 (x k).rows.1 bcap6,.slice bao7 (x k).data.1 bcap7,.slice bao8 (x k).delta.1 bcap8]):=(hb.trans (hb2.mono hb.size)).trans (zaC (Nat.le_refl _) _ _);clear o2 hb2 sp hb
   go_wp2_with fail
   go_roundw
   case rel=>
    obtain ⟨ce',Ls',N⟩:=N;exact ⟨k+1,by omega,by go_num,ce',Ls',N,N2⟩
   case measure=>simp [intOf];omega
  ·obtain rfl:k=n:=by omega
   go_wp2;go_ret;exact ⟨_,rfl,sp.done (Nat.le_refl _),hb⟩
set_option maxRecDepth 20000 in
theorem zfU:ToV zag zaJ 56:=fun cs d hi w r hhi hn=>by
 obtain ⟨ao1,cap1,rfl,h1⟩:=za0 r;clear r;unfold zaJ at hn;have R1:=hid h1;clear h1;have T0:=zay w #[.bool d.wiped,.slice ao1 d.recs.1 cap1] #[.bool false,.slice none 0 0] 71 71
 go_enter Tryz.func56,Tryz.ntmps56
 go_wp2_with fail
 refine (zfT _ d.recs hi _ ((zab.slice 75).rd_below R1.out T0.bel hhi) (Nat.le_trans hhi T0.bel.size) (by omega)).mono ?_;rintro e w1 ⟨v0,rfl,o0,b0⟩;obtain ⟨bo1,bcap1,hv⟩:=zbn o0;obtain rfl:=zaD hv;clear hv;have T0c:=T0.call b0;have z0:=T0.b2.lt;have y0:=b0.size;have c0_1:w1.cell? ⟨w.heap.size,1,none⟩=some (.slice ao1 d.recs.1 cap1):=T0c.b1.cell 1;have c0f_1:w1.frozen? ⟨w.heap.size,1,none⟩=false:=T0c.b1.frozen 1;have T1x:Two w (w1.setCell ⟨w.heap.size,1,none⟩ (.slice bo1 d.recs.1 bcap1)) #[.bool d.wiped,.slice bo1 d.recs.1 bcap1] #[.bool false,.slice none 0 0] 71 71:=⟨T0c.b1.stL [.slice bo1 d.recs.1 bcap1] 1,T0c.b2.seto _ _ (by omega),T0c.bel.setCell (Nat.le_refl _) _⟩;have O1_0:=(o0.stN w.heap.size 1 [.slice bo1 d.recs.1 bcap1] (by omega))
 have e1:(w1.setCell ⟨w.heap.size,1,none⟩ (.slice bo1 d.recs.1 bcap1)).heap.size=w1.heap.size:=by simp
 clear o0 b0
 go_upto_region 2 with fail
 obtain ⟨W1,hW1⟩:∃ x,x=w1.setCell ⟨w.heap.size,1,none⟩ (.slice bo1 d.recs.1 bcap1):=⟨_,rfl⟩
 have O1:Hid (OwnT (zab.slice 75) W1 (w.heap.size+1+1) (w1.heap.size) d.recs [.slice bo1 d.recs.1 bcap1]):=by rw [hW1];exact OwnT.weaken O1_0 (by simp) (Nat.le_refl _)
 rw [← hW1] at T1x e1 ⊢;clear hW1 O1_0 T0c c0_1 c0f_1;have y_0:W1.cell? ⟨w.heap.size,0,none⟩=some (.bool d.wiped):=T1x.b1.cell 0;have y_1:W1.cell? ⟨w.heap.size,1,none⟩=some (.slice bo1 d.recs.1 bcap1):=T1x.b1.cell 1;have r_0:W1.cell? ⟨w.heap.size+1,0,none⟩=some (.bool false):=T1x.b2.cell 0;have rf_0:W1.frozen? ⟨w.heap.size+1,0,none⟩=false:=T1x.b2.frozen 0;have r_1:W1.cell? ⟨w.heap.size+1,1,none⟩=some (.slice none 0 0):=T1x.b2.cell 1;have rf_1:W1.frozen? ⟨w.heap.size+1,1,none⟩=false:=T1x.b2.frozen 1;have HB:=hid T1x.bel;have zz:=T1x.b2.lt;clear T1x;go_wp2;refine bodyPost_ret (v:=.agg #[.bool d.wiped,.slice bo1 d.recs.1 bcap1]) (by simp [results,Tryz.results56,go_sem,r_0,y_0,r_1,y_1]) rfl ?_;have F:OwnT zag W1 (w.heap.size+1+1) w1.heap.size d ([.bool d.wiped]++[.slice bo1 d.recs.1 bcap1]):=OwnT.conv (OwnT.pre (A:=layB) (a:=d.wiped) (c:=[.bool d.wiped]) ⟨rfl,trivial,rfl⟩ O1.out);refine ⟨[.bool d.wiped,.slice bo1 d.recs.1 bcap1],rfl,?_,?_⟩
 ·exact OwnT.finb (F.weaken (Nat.le_refl _) (by omega)) (b:=w.heap.size+1) (by omega) (by omega) 0 [.bool d.wiped,.slice bo1 d.recs.1 bcap1] _ rfl
 ·exact HB.out.trans (zaC (by omega) [.bool d.wiped,.slice bo1 d.recs.1 bcap1] 0)
set_option maxRecDepth 20000 in
theorem ze8:ToF (zag.slice 71) (szSl zaJ) 55 56:=fun v d hi w h hhi hn=>by
 obtain ⟨n,x⟩:=d;obtain ⟨ao,cap,hv,hm,hc⟩:=h
 cases hv
 have hn1:=zbJ hn;have hn2:∀ i,i<n→zaJ (x i)≤1048576:=fun i hi=>zbb hn hi
 simp only at hn1 hm hc
 clear hn
 go_enter Tryz.func55,Tryz.ntmps55
 go_wp2_with (at_make;refine zbv zag [.bool false,.slice none 0 0] _ 71 32 (zfF).hs rfl Tryz.underlying32 (zfF).hi x (fun _=>[]) _ rfl _ _ rfl _ _ n rfl rfl rfl rfl (by omega) (by omega) ?_;intro w1 sp1 hb1)
 go_loopw [12] (fun i wr=>∃ k:Nat,k≤n∧i=.int .i64 k∧∃ ce Ls,SlP zag 71 wr w.heap.size w.heap.size n n k x ce Ls∧Below w.heap.size w wr) (fun i _=>n-(intOf i).toNat)
 case atStart=>exact ⟨0,Nat.zero_le _,rfl,_,_,sp1,hb1⟩
 case round=>
  clear sp1 hb1;obtain ⟨k,hk,rfl,ce,Ls,sp,hb⟩:=hrel
  by_cases hlt:k<n
  ·obtain ⟨b,off,rfl,hblt,hel⟩:=hc (by omega)
   obtain ⟨ck,hrk,hcell⟩:=zap (t:=0) hel hb hhi hblt hlt;obtain ⟨ao1,cap1,rfl,-⟩:=za0 hrk;have c0:wr.cell? ⟨b,off+k*2,none⟩=some (.bool (x k).wiped):=hcell 0 (by decide);have c1:wr.cell? ⟨b,off+k*2+1,none⟩=some (.slice ao1 (x k).recs.1 cap1):=hcell 1 (by decide);clear hc hel hcell
   go_wp2_with fail
   refine (zfU _ (x k) hi wr hrk (Nat.le_trans hhi hb.size) (hn2 k hlt)).mono ?_;rintro e w2 ⟨cs',rfl,o2,hb2⟩;obtain ⟨bao1,bcap1,rfl⟩:=zdQ o2;obtain ⟨z0,s0⟩:=sp.some hb2 hlt (show 0<zag.sz by decide);have s0:w2.cell? ⟨w.heap.size,k*2,none⟩=some z0:=s0;have sf0:=(sp.below hb2).frozen (k*2);obtain ⟨z1,s1⟩:=sp.some hb2 hlt (show 1<zag.sz by decide);have s1:w2.cell? ⟨w.heap.size,k*2+1,none⟩=some z1:=s1;have sf1:=(sp.below hb2).frozen (k*2+1);have N:=sp.next hb2 hlt o2 hb.size;have N2:Below w.heap.size w (stN w2 w.heap.size (k*zag.sz) [.bool (x k).wiped,.slice bao1 (x k).recs.1 bcap1]):=(hb.trans (hb2.mono hb.size)).trans (zaC (Nat.le_refl _) _ _);clear o2 hb2 sp hb
   go_wp2_with fail
   go_roundw
   case rel=>
    obtain ⟨ce',Ls',N⟩:=N;exact ⟨k+1,by omega,by go_num,ce',Ls',N,N2⟩
   case measure=>simp [intOf];omega
  ·obtain rfl:k=n:=by omega
   go_wp2;go_ret;exact ⟨_,rfl,sp.done (Nat.le_refl _),hb⟩
set_option maxRecDepth 20000 in
theorem zdN:ToV zaf zav 41:=fun cs d hi w r hhi hn=>by
 obtain ⟨ao1,cap1,rfl,h1,k0⟩:=zaZ r;clear r;unfold zav lenD at hn;have Q0:=hid k0;clear k0;have T0:=zay w #[.int .i64 d.stamp,.slice ao1 d.bytes.1 cap1] #[.int .i64 0,.slice none 0 0] 81 81;obtain ⟨W0,hW0⟩:∃ x,x=(w.alloc (.cells #[.int .i64 d.stamp,.slice ao1 d.bytes.1 cap1] 81)).alloc (.cells #[.int .i64 0,.slice none 0 0] 81):=⟨_,rfl⟩;rw [← hW0] at T0;have bA:=bAl W0 (.cells #[] 5);have TA:=T0.call bA
 have z0:W0.heap.size=w.heap.size+1+1:=by rw [hW0];simp
 obtain ⟨v',w1,hrun,o1,b1'⟩:=zcq 73 (W0.alloc (.cells #[] 5)).drew W0.heap.size (zdA W0 5) (zac.rd_below (B:=hi) (zac.rd_below h1 TA.bel hhi) ⟨rfl,rfl,rfl,Nat.le_refl _,fun _ _=>rfl⟩ (Nat.le_refl _)) (show d.bytes.1≤10000000 by omega);have b1:Below W0.heap.size (W0.alloc (.cells #[] 5)) w1:=⟨b1'.os,b1'.tape,b1'.output,b1'.size,b1'.block⟩;obtain ⟨bo,bc,hv⟩:=zaY o1;obtain rfl:=zaD hv;have T1:Two w w1 #[.int .i64 d.stamp,.slice ao1 d.bytes.1 cap1] #[.int .i64 0,.slice none 0 0] 81 81:=⟨TA.b1.below b1 (by omega),TA.b2.below b1 (by omega),TA.bel.trans (b1.mono (by omega))⟩;have x0_0:W0.cell? ⟨w.heap.size,0,none⟩=some (.int .i64 d.stamp):=T0.b1.cell 0;have x0_1:W0.cell? ⟨w.heap.size,1,none⟩=some (.slice ao1 d.bytes.1 cap1):=T0.b1.cell 1;have xa_0:(W0.alloc (.cells #[] 5)).cell? ⟨w.heap.size,0,none⟩=some (.int .i64 d.stamp):=TA.b1.cell 0;have xa_1:(W0.alloc (.cells #[] 5)).cell? ⟨w.heap.size,1,none⟩=some (.slice ao1 d.bytes.1 cap1):=TA.b1.cell 1;have x1_0:w1.cell? ⟨w.heap.size,0,none⟩=some (.int .i64 d.stamp):=T1.b1.cell 0;have x1_1:w1.cell? ⟨w.heap.size,1,none⟩=some (.slice ao1 d.bytes.1 cap1):=T1.b1.cell 1;have r1_0:w1.cell? ⟨w.heap.size+1,0,none⟩=some (.int .i64 0):=T1.b2.cell 0;have r1f_0:w1.frozen? ⟨w.heap.size+1,0,none⟩=false:=T1.b2.frozen 0;have r1_1:w1.cell? ⟨w.heap.size+1,1,none⟩=some (.slice none 0 0):=T1.b2.cell 1;have r1f_1:w1.frozen? ⟨w.heap.size+1,1,none⟩=false:=T1.b2.frozen 1;have HO:=hid o1;have HT:=hid T1;have zw:W0.heap.size≤w1.heap.size:=Nat.le_trans bA.size b1.size;clear T0 TA T1 o1 b1 b1' bA h1 hv
 go_enter Tryz.func41,Tryz.ntmps41
 go_upto_region 1 with fail
 rw [← hW0];clear hW0
 go_region_law (refine zhe rfl (.tmp 5) (.tmp 7) rfl ?_ ?_ hrun ?_;(simp [Act.eval,Act.put]);(simp [Act.eval,Act.put]))
 all_goals
  go_wp2;refine bodyPost_ret (v:=.agg #[.int .i64 d.stamp,.slice bo d.bytes.1 bc]) (by simp [results,Tryz.results41,go_sem,r1_0,r1_1]) rfl ?_;have F:OwnT zaf w1 (w.heap.size+1+1) w1.heap.size d ([.int .i64 d.stamp]++[.slice bo d.bytes.1 bc]):=OwnT.conv (OwnT.pre (A:=layI) (a:=d.stamp) (c:=[.int .i64 d.stamp]) ⟨rfl,Q0.out,rfl⟩ (HO.out.weaken (by omega) (Nat.le_refl _)));refine ⟨[.int .i64 d.stamp,.slice bo d.bytes.1 bc],rfl,?_,?_⟩
  ·exact OwnT.finb F (b:=w.heap.size+1) (by omega) (by omega) 0 [.int .i64 d.stamp,.slice bo d.bytes.1 bc] _ rfl
  ·exact HT.out.bel.trans (zaC (by omega) [.int .i64 d.stamp,.slice bo d.bytes.1 bc] 0)
set_option maxRecDepth 20000 in
theorem ze9:ToV zab zaR 76:=fun cs d hi w r hhi hn=>by
 obtain ⟨ao6,cap6,ao7,cap7,ao8,cap8,rfl,h6,h7,h8,k0,k1,k2,k3,k4,k5⟩:=zbe r;clear r;unfold zaR lenD at hn;have Q0:=hid k0;have Q1:=hid k1;have Q3:=hid k3;have Q4:=hid k4;have Q5:=hid k5;have Q2:=hid k2;clear k0 k1 k2 k3 k4 k5;have T0:=zay w (rwR d ao6 cap6 ao7 cap7 ao8 cap8).toArray #[.int .i64 0,.int .i64 0,.string ⟨#[]⟩,.int .i64 0,.int .i64 0,.int .i64 0,.slice none 0 0,.slice none 0 0,.slice none 0 0] 75 75
 go_enter Tryz.func76,Tryz.ntmps76
 go_upto_region 1 with fail
 obtain ⟨W0,hW0⟩:∃ x,x=(w.alloc (.cells (rwR d ao6 cap6 ao7 cap7 ao8 cap8).toArray 75)).alloc (.cells #[.int .i64 0,.int .i64 0,.string ⟨#[]⟩,.int .i64 0,.int .i64 0,.int .i64 0,.slice none 0 0,.slice none 0 0,.slice none 0 0] 75):=⟨_,rfl⟩
 have z0:W0.heap.size=w.heap.size+1+1:=by rw [hW0];simp
 rw [← hW0] at T0 ⊢;clear hW0;have bA0:=bAl W0 (.cells #[] 2);have TA0:=T0.call bA0;obtain ⟨v',w1,hrun,o0,b0⟩:=zc8 25 (W0.alloc (.cells #[] 2)) W0.heap.size (zdA W0 2) (zah.rd_below h6 TA0.bel hhi) (show d.rows.1≤10000000 by omega);obtain ⟨bo6,bcap6,hv⟩:=zbE o0;obtain rfl:=zaD hv;clear hv;have zw0:W0.heap.size+1≤w1.heap.size:=Nat.le_trans (by simp) b0.size;have TB0:Two w w1 (rwR d ao6 cap6 ao7 cap7 ao8 cap8).toArray #[.int .i64 0,.int .i64 0,.string ⟨#[]⟩,.int .i64 0,.int .i64 0,.int .i64 0,.slice none 0 0,.slice none 0 0,.slice none 0 0] 75 75:=⟨TA0.b1.below b0 (by omega),TA0.b2.below b0 (by omega),TA0.bel.trans (b0.mono (by omega))⟩;have xa:(W0.alloc (.cells #[] 2)).cell? ⟨w.heap.size,6,none⟩=some (.slice ao6 d.rows.1 cap6):=TA0.b1.cell 6;have xb:w1.cell? ⟨w.heap.size,6,none⟩=some (.slice ao6 d.rows.1 cap6):=TB0.b1.cell 6;have xf:w1.frozen? ⟨w.heap.size,6,none⟩=false:=TB0.b1.frozen 6;have T1:Two w (w1.setCell ⟨w.heap.size,6,none⟩ (.slice bo6 d.rows.1 bcap6)) (rwR d bo6 bcap6 ao7 cap7 ao8 cap8).toArray #[.int .i64 0,.int .i64 0,.string ⟨#[]⟩,.int .i64 0,.int .i64 0,.int .i64 0,.slice none 0 0,.slice none 0 0,.slice none 0 0] 75 75:=⟨TB0.b1.stL [.slice bo6 d.rows.1 bcap6] 6,TB0.b2.seto _ _ (by omega),TB0.bel.setCell (Nat.le_refl _) _⟩;have O6x:=o0.stN w.heap.size 6 [.slice bo6 d.rows.1 bcap6] (by omega)
 have e0:(w1.setCell ⟨w.heap.size,6,none⟩ (.slice bo6 d.rows.1 bcap6)).heap.size=w1.heap.size:=by simp
 clear TA0 TB0 o0 b0 bA0 T0
 go_upto_region 2 with (at_builtin;refine zeo rfl (.tmp 3) (.tmp 5) rfl ?_ ?_ hrun ?_;(simp [Act.eval]);(simp [Act.eval]))
 obtain ⟨W1,hW1⟩:∃ x,x=w1.setCell ⟨w.heap.size,6,none⟩ (.slice bo6 d.rows.1 bcap6):=⟨_,rfl⟩
 have O6:Hid (OwnT zah W1 W0.heap.size w1.heap.size d.rows [.slice bo6 d.rows.1 bcap6]):=by rw [hW1];exact O6x
 rw [← hW1] at T1 e0 ⊢;clear hW1 hrun xa xb xf O6x;have bA1:=bAl W1 (.cells #[] 5);have TA1:=T1.call bA1;obtain ⟨v',w2,hrun,o1,b1⟩:=zcq 73 (W1.alloc (.cells #[] 5)) W1.heap.size (zdA W1 5) (zac.rd_below h7 TA1.bel hhi) (show d.data.1≤10000000 by omega);obtain ⟨bo7,bcap7,hv⟩:=zaY o1;obtain rfl:=zaD hv;clear hv;have zw1:W1.heap.size+1≤w2.heap.size:=Nat.le_trans (by simp) b1.size;have TB1:Two w w2 (rwR d bo6 bcap6 ao7 cap7 ao8 cap8).toArray #[.int .i64 0,.int .i64 0,.string ⟨#[]⟩,.int .i64 0,.int .i64 0,.int .i64 0,.slice none 0 0,.slice none 0 0,.slice none 0 0] 75 75:=⟨TA1.b1.below b1 (by omega),TA1.b2.below b1 (by omega),TA1.bel.trans (b1.mono (by omega))⟩;have xa:(W1.alloc (.cells #[] 5)).cell? ⟨w.heap.size,7,none⟩=some (.slice ao7 d.data.1 cap7):=TA1.b1.cell 7;have xb:w2.cell? ⟨w.heap.size,7,none⟩=some (.slice ao7 d.data.1 cap7):=TB1.b1.cell 7;have xf:w2.frozen? ⟨w.heap.size,7,none⟩=false:=TB1.b1.frozen 7;have T2:Two w (w2.setCell ⟨w.heap.size,7,none⟩ (.slice bo7 d.data.1 bcap7)) (rwR d bo6 bcap6 bo7 bcap7 ao8 cap8).toArray #[.int .i64 0,.int .i64 0,.string ⟨#[]⟩,.int .i64 0,.int .i64 0,.int .i64 0,.slice none 0 0,.slice none 0 0,.slice none 0 0] 75 75:=⟨TB1.b1.stL [.slice bo7 d.data.1 bcap7] 7,TB1.b2.seto _ _ (by omega),TB1.bel.setCell (Nat.le_refl _) _⟩;have O6x:=((O6.out.call bA1).below b1 (by omega)).stN w.heap.size 7 [.slice bo7 d.data.1 bcap7] (by omega);have O7x:=o1.stN w.heap.size 7 [.slice bo7 d.data.1 bcap7] (by omega)
 have e1:(w2.setCell ⟨w.heap.size,7,none⟩ (.slice bo7 d.data.1 bcap7)).heap.size=w2.heap.size:=by simp
 clear TA1 TB1 o1 b1 bA1 T1 O6
 go_upto_region 3 with (at_builtin;refine zeo rfl (.tmp 8) (.tmp 10) rfl ?_ ?_ hrun ?_;(simp [Act.eval]);(simp [Act.eval]))
 obtain ⟨W2,hW2⟩:∃ x,x=w2.setCell ⟨w.heap.size,7,none⟩ (.slice bo7 d.data.1 bcap7):=⟨_,rfl⟩
 have O6:Hid (OwnT zah W2 W0.heap.size w1.heap.size d.rows [.slice bo6 d.rows.1 bcap6]):=by rw [hW2];exact O6x
 have O7:Hid (OwnT zac W2 W1.heap.size w2.heap.size d.data [.slice bo7 d.data.1 bcap7]):=by rw [hW2];exact O7x
 rw [← hW2] at T2 e1 ⊢;clear hW2 hrun xa xb xf O6x O7x;have bA2:=bAl W2 (.cells #[] 5);have TA2:=T2.call bA2;obtain ⟨v',w3,hrun,o2,b2⟩:=zcq 73 (W2.alloc (.cells #[] 5)) W2.heap.size (zdA W2 5) (zac.rd_below h8 TA2.bel hhi) (show d.delta.1≤10000000 by omega);obtain ⟨bo8,bcap8,hv⟩:=zaY o2;obtain rfl:=zaD hv;clear hv;have zw2:W2.heap.size+1≤w3.heap.size:=Nat.le_trans (by simp) b2.size;have TB2:Two w w3 (rwR d bo6 bcap6 bo7 bcap7 ao8 cap8).toArray #[.int .i64 0,.int .i64 0,.string ⟨#[]⟩,.int .i64 0,.int .i64 0,.int .i64 0,.slice none 0 0,.slice none 0 0,.slice none 0 0] 75 75:=⟨TA2.b1.below b2 (by omega),TA2.b2.below b2 (by omega),TA2.bel.trans (b2.mono (by omega))⟩;have xa:(W2.alloc (.cells #[] 5)).cell? ⟨w.heap.size,8,none⟩=some (.slice ao8 d.delta.1 cap8):=TA2.b1.cell 8;have xb:w3.cell? ⟨w.heap.size,8,none⟩=some (.slice ao8 d.delta.1 cap8):=TB2.b1.cell 8;have xf:w3.frozen? ⟨w.heap.size,8,none⟩=false:=TB2.b1.frozen 8;have T3:Two w (w3.setCell ⟨w.heap.size,8,none⟩ (.slice bo8 d.delta.1 bcap8)) (rwR d bo6 bcap6 bo7 bcap7 bo8 bcap8).toArray #[.int .i64 0,.int .i64 0,.string ⟨#[]⟩,.int .i64 0,.int .i64 0,.int .i64 0,.slice none 0 0,.slice none 0 0,.slice none 0 0] 75 75:=⟨TB2.b1.stL [.slice bo8 d.delta.1 bcap8] 8,TB2.b2.seto _ _ (by omega),TB2.bel.setCell (Nat.le_refl _) _⟩;have O6x:=((O6.out.call bA2).below b2 (by omega)).stN w.heap.size 8 [.slice bo8 d.delta.1 bcap8] (by omega);have O7x:=((O7.out.call bA2).below b2 (by omega)).stN w.heap.size 8 [.slice bo8 d.delta.1 bcap8] (by omega);have O8x:=o2.stN w.heap.size 8 [.slice bo8 d.delta.1 bcap8] (by omega)
 have e2:(w3.setCell ⟨w.heap.size,8,none⟩ (.slice bo8 d.delta.1 bcap8)).heap.size=w3.heap.size:=by simp
 clear TA2 TB2 o2 b2 bA2 T2 O6 O7
 go_upto_region 4 with (at_builtin;refine zeo rfl (.tmp 13) (.tmp 15) rfl ?_ ?_ hrun ?_;(simp [Act.eval]);(simp [Act.eval]))
 obtain ⟨W3,hW3⟩:∃ x,x=w3.setCell ⟨w.heap.size,8,none⟩ (.slice bo8 d.delta.1 bcap8):=⟨_,rfl⟩
 have O6:Hid (OwnT zah W3 W0.heap.size w1.heap.size d.rows [.slice bo6 d.rows.1 bcap6]):=by rw [hW3];exact O6x
 have O7:Hid (OwnT zac W3 W1.heap.size w2.heap.size d.data [.slice bo7 d.data.1 bcap7]):=by rw [hW3];exact O7x
 have O8:Hid (OwnT zac W3 W2.heap.size w3.heap.size d.delta [.slice bo8 d.delta.1 bcap8]):=by rw [hW3];exact O8x
 rw [← hW3] at T3 e2 ⊢;clear hW3 hrun xa xb xf O6x O7x O8x;have y_0:W3.cell? ⟨w.heap.size,0,none⟩=some (.int .i64 d.kind):=T3.b1.cell 0;have y_1:W3.cell? ⟨w.heap.size,1,none⟩=some (.int .i64 d.seq):=T3.b1.cell 1;have y_2:W3.cell? ⟨w.heap.size,2,none⟩=some (.string d.name):=T3.b1.cell 2;have y_3:W3.cell? ⟨w.heap.size,3,none⟩=some (.int .i64 d.length):=T3.b1.cell 3;have y_4:W3.cell? ⟨w.heap.size,4,none⟩=some (.int .i64 d.group):=T3.b1.cell 4;have y_5:W3.cell? ⟨w.heap.size,5,none⟩=some (.int .i64 d.row):=T3.b1.cell 5;have y_6:W3.cell? ⟨w.heap.size,6,none⟩=some (.slice bo6 d.rows.1 bcap6):=T3.b1.cell 6;have y_7:W3.cell? ⟨w.heap.size,7,none⟩=some (.slice bo7 d.data.1 bcap7):=T3.b1.cell 7;have y_8:W3.cell? ⟨w.heap.size,8,none⟩=some (.slice bo8 d.delta.1 bcap8):=T3.b1.cell 8;have r_0:W3.cell? ⟨w.heap.size+1,0,none⟩=some (.int .i64 0):=T3.b2.cell 0;have rf_0:W3.frozen? ⟨w.heap.size+1,0,none⟩=false:=T3.b2.frozen 0;have r_1:W3.cell? ⟨w.heap.size+1,1,none⟩=some (.int .i64 0):=T3.b2.cell 1;have rf_1:W3.frozen? ⟨w.heap.size+1,1,none⟩=false:=T3.b2.frozen 1;have r_2:W3.cell? ⟨w.heap.size+1,2,none⟩=some (.string ⟨#[]⟩):=T3.b2.cell 2;have rf_2:W3.frozen? ⟨w.heap.size+1,2,none⟩=false:=T3.b2.frozen 2;have r_3:W3.cell? ⟨w.heap.size+1,3,none⟩=some (.int .i64 0):=T3.b2.cell 3;have rf_3:W3.frozen? ⟨w.heap.size+1,3,none⟩=false:=T3.b2.frozen 3;have r_4:W3.cell? ⟨w.heap.size+1,4,none⟩=some (.int .i64 0):=T3.b2.cell 4;have rf_4:W3.frozen? ⟨w.heap.size+1,4,none⟩=false:=T3.b2.frozen 4;have r_5:W3.cell? ⟨w.heap.size+1,5,none⟩=some (.int .i64 0):=T3.b2.cell 5;have rf_5:W3.frozen? ⟨w.heap.size+1,5,none⟩=false:=T3.b2.frozen 5;have r_6:W3.cell? ⟨w.heap.size+1,6,none⟩=some (.slice none 0 0):=T3.b2.cell 6;have rf_6:W3.frozen? ⟨w.heap.size+1,6,none⟩=false:=T3.b2.frozen 6;have r_7:W3.cell? ⟨w.heap.size+1,7,none⟩=some (.slice none 0 0):=T3.b2.cell 7;have rf_7:W3.frozen? ⟨w.heap.size+1,7,none⟩=false:=T3.b2.frozen 7;have r_8:W3.cell? ⟨w.heap.size+1,8,none⟩=some (.slice none 0 0):=T3.b2.cell 8;have rf_8:W3.frozen? ⟨w.heap.size+1,8,none⟩=false:=T3.b2.frozen 8;have HB:=hid T3.bel;clear T3;go_wp2;refine bodyPost_ret (v:=.agg (rwR d bo6 bcap6 bo7 bcap7 bo8 bcap8).toArray) (by simp [results,Tryz.results76,go_sem,r_0,y_0,r_1,y_1,r_2,y_2,r_3,y_3,r_4,y_4,r_5,y_5,r_6,y_6,r_7,y_7,r_8,y_8]) rfl ?_;have F:OwnT zab W3 (w.heap.size+1+1) W3.heap.size d ([.int .i64 d.kind]++([.int .i64 d.seq]++([.string d.name]++([.int .i64 d.length]++([.int .i64 d.group]++([.int .i64 d.row]++([.slice bo6 d.rows.1 bcap6]++([.slice bo7 d.data.1 bcap7]++[.slice bo8 d.delta.1 bcap8])))))))):=OwnT.conv (OwnT.pre (A:=layI) (a:=d.kind) (c:=[.int .i64 d.kind]) ⟨rfl,Q0.out,rfl⟩ (OwnT.pre (A:=layI) (a:=d.seq) (c:=[.int .i64 d.seq]) ⟨rfl,Q1.out,rfl⟩ (OwnT.pre (A:=layS) (a:=d.name) (c:=[.string d.name]) ⟨rfl,Q2.out,rfl⟩ (OwnT.pre (A:=layI) (a:=d.length) (c:=[.int .i64 d.length]) ⟨rfl,Q3.out,rfl⟩ (OwnT.pre (A:=layI) (a:=d.group) (c:=[.int .i64 d.group]) ⟨rfl,Q4.out,rfl⟩ (OwnT.pre (A:=layI) (a:=d.row) (c:=[.int .i64 d.row]) ⟨rfl,Q5.out,rfl⟩ (OwnT.two (O6.out.weaken (by omega) (Nat.le_refl _)) (OwnT.two O7.out (O8.out.weaken (Nat.le_refl _) (by omega)) (by omega) (by omega) (by omega)) (by omega) (by omega) (by omega))))))))
 refine ⟨(rwR d bo6 bcap6 bo7 bcap7 bo8 bcap8),rfl,?_,?_⟩
 ·exact OwnT.finb F (b:=w.heap.size+1) (by omega) (by omega) 0 (rwR d bo6 bcap6 bo7 bcap7 bo8 bcap8) _ rfl
 ·exact HB.out.trans (zaC (by omega) (rwR d bo6 bcap6 bo7 bcap7 bo8 bcap8) 0)
set_option maxRecDepth 20000 in
theorem zep:ToS (zab.slice 75) (szSl zaR) 42:=fun v d hi w h hhi hn=>by
 obtain ⟨n,x⟩:=d;obtain ⟨ao,cap,hv,hm,hc⟩:=h
 cases hv
 have hn1:=zbJ hn;have hn2:∀ i,i<n→zaR (x i)≤1048576:=fun i hi=>zbb hn hi
 simp only at hn1 hm hc
 have HC:=hid hc;clear hn hc
 go_enter Tryz.func42,Tryz.ntmps42
 go_wp2
 go_loopw [3,4] (fun v i wr=>∃ (k:Nat) (ao':Option Addr) (cap':Nat),k≤n∧i=.int .i64 k∧v=.slice ao' k cap'∧Gat zab 75 wr w.heap.size (.slice ao' k cap') k x∧Below w.heap.size w wr) (fun _ i _=>n-(intOf i).toNat)
 case atStart=>exact ⟨0,_,_,Nat.zero_le _,rfl,rfl,zf9 _ _,(Below.refl _ _).alloc (Nat.le_refl _) _⟩
 case round=>
  obtain ⟨k,ao',cap',hk,rfl,rfl,G,hb⟩:=hrel;obtain ⟨wo,rfl⟩:∃ y,y=wr:=⟨_,rfl⟩;have HG:=hid G;have HB:=hid hb;have zo:w.heap.size≤wo.heap.size:=hb.size;clear G
  by_cases hlt:k<n
  ·obtain ⟨b,off,he,hblt,hel⟩:=HC.out (by omega)
   subst he;obtain ⟨ck,hrk,hcell⟩:=zap (t:=0) hel hb hhi hblt hlt;obtain ⟨ao6,cap6,ao7,cap7,ao8,cap8,rfl,-⟩:=zbe hrk;have c0:wo.cell? ⟨b,off+k*9,none⟩=some (.int .i64 (x k).kind):=hcell 0 (by decide);have c1:wo.cell? ⟨b,off+k*9+1,none⟩=some (.int .i64 (x k).seq):=hcell 1 (by decide);have c2:wo.cell? ⟨b,off+k*9+2,none⟩=some (.string (x k).name):=hcell 2 (by decide);have c3:wo.cell? ⟨b,off+k*9+3,none⟩=some (.int .i64 (x k).length):=hcell 3 (by decide);have c4:wo.cell? ⟨b,off+k*9+4,none⟩=some (.int .i64 (x k).group):=hcell 4 (by decide);have c5:wo.cell? ⟨b,off+k*9+5,none⟩=some (.int .i64 (x k).row):=hcell 5 (by decide);have c6:wo.cell? ⟨b,off+k*9+6,none⟩=some (.slice ao6 (x k).rows.1 cap6):=hcell 6 (by decide);have c7:wo.cell? ⟨b,off+k*9+7,none⟩=some (.slice ao7 (x k).data.1 cap7):=hcell 7 (by decide);have c8:wo.cell? ⟨b,off+k*9+8,none⟩=some (.slice ao8 (x k).delta.1 cap8):=hcell 8 (by decide);have C:=ze9 _ (x k) hi wo hrk (Nat.le_trans hhi zo) (hn2 k hlt);clear hel hcell hrk hb
   go_wp2_with fail
   refine C.mono ?_;rintro e w2 ⟨cs',rfl,o2,b2⟩;obtain ⟨bo6,bc6,bo7,bc7,bo8,bc8,rfl⟩:=zdn o2;clear C c0 c1 c2 c3 c4 c5 c6 c7 c8
   go_wp2_with (at_builtin;refine zcY zhf rfl (.tmp 12) (.tmp 18) rfl (lo:=w.heap.size) (n:=k) (v:=.slice ao' k cap') (x:=x) ?_ HG.out b2 o2 ?_ w2.heap.size 1 ?_ (fun j _=>zcn w2 _ _ j) (by omega) (by omega) ?_;(simp [Act.eval]);(exact (Below.refl _ _).alloc (Nat.le_refl _) _);(simp [Act.eval]);intro v4 w4 g4 b4;obtain ⟨ao4,cap4,rfl⟩:=g4.form)
   go_roundw
   case rel=>exact ⟨k+1,ao4,cap4,by omega,by go_num,rfl,g4.congr (fun i _=>by rw [zbM]),HB.out.trans b4⟩
   case measure=>simp [intOf];omega
  ·obtain rfl:k=n:=by omega
   clear hb;go_wp2;go_ret;exact ⟨_,rfl,HG.out.own,HB.out⟩
end Go.Proofs.YtccmhgeigkmicaaGreat
