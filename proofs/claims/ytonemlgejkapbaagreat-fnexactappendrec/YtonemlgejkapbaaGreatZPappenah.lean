/- Walks of the program's recInBounds and RecFault. -/
import Derived.Test.YtonemlgejkapbaaGreatZPappenag
set_option linter.unusedVariables false
set_option linter.unusedSimpArgs false
set_option maxHeartbeats 16000000
namespace Go.Proofs.YtonemlgejkapbaaGreat
open Go.RowKit F256
theorem zda (s:Nat→Int) (hs:zaq s) (r:RecD) (cs:List Value) (hi:Nat) (w:World) (h:zac.rd w hi r cs) (hhi:hi≤w.heap.size) (hk:InP r.kind 1 4) :
 Calls Tryz.prog 98 #[zak s,.agg cs.toArray] w (zbK (zbj s r) w):=by
 obtain ⟨kind,seq,name,length,group,row,rows,data,delta⟩:=r;obtain ⟨ao6,cap6,ao7,cap7,ao8,cap8,rfl,g6,g7,g8,k0,k1,k2,k3,k4,k5⟩:=zbd h;have HRD:=hid h;obtain ⟨v7,e7,⟨_,_,e7',hm7,_⟩,_⟩:=g7
 cases e7
 cases e7'
 obtain ⟨v8,e8,⟨_,_,e8',hm8,_⟩,_⟩:=g8
 cases e8
 cases e8'
 unfold maxLen at hm7 hm8
 simp only at hk hm7 hm8
 have HS:=hid hs
 have hk4:kind=1∨kind=2∨kind=3∨kind=4:=by unfold InP at hk;omega
 clear h g6 k0 k1 k2 k3 k4 k5 hk hs
 rcases hk4 with rfl | rfl | rfl | rfl
 ·have T0:=zay w (rwS s).toArray #[.int .i64 1,.int .i64 seq,.string name,.int .i64 length,.int .i64 group,.int .i64 row,.slice ao6 rows.1 cap6,.slice ao7 data.1 cap7,.slice ao8 delta.1 cap8] 34 56
  obtain ⟨t1,h1⟩:=exB (zby s ⟨1,seq,name,length,group,row,rows,data,delta⟩);have C:=zbF (zhy s HS.out ⟨1,seq,name,length,group,row,rows,data,delta⟩ _ hi _ (zac.rd_below HRD.out T0.bel hhi) (Nat.le_trans hhi T0.bel.size)) h1
  have HE:Hid (zbj s ⟨1,seq,name,length,group,row,rows,data,delta⟩↔t1=true):=by
   show zbj s ⟨1,seq,name,length,group,row,rows,data,delta⟩↔_
   rw [h1];unfold zbj
   simp
  clear h1;unfold zak at C ⊢
  go_enter Tryz.func98,Tryz.ntmps98
  go_wp2_with fail
  refine C.mono ?_;rintro e w1 ⟨rfl,b1⟩;have HB:Hid (Below w.heap.size w w1):=(T0.call b1).bel;clear b1 C T0;go_wp2;go_ret
  cases t1 with
  | true=>exact zaI rfl (HE.out.2 (by simp)) HB.out
  | false=>exact zat rfl (fun h=>by have:=HE.out.1 h;simp at this) HB.out
 ·have T0:=zay w (rwS s).toArray #[.int .i64 2,.int .i64 seq,.string name,.int .i64 length,.int .i64 group,.int .i64 row,.slice ao6 rows.1 cap6,.slice ao7 data.1 cap7,.slice ao8 delta.1 cap8] 34 56
  obtain ⟨t1,h1⟩:=exB (InP group 0 (s 0-1));obtain ⟨t2,h2⟩:=exB (InP row 0 (s 4-1));obtain ⟨t3,h3⟩:∃ b,((data.1:Int)==s 2*4)=b:=⟨_,rfl⟩;obtain ⟨t4,h4⟩:∃ b,((delta.1:Int)==s 2*4)=b:=⟨_,rfl⟩;have C1:=fun w'=>zeW HS.out h1 w';have C2:=fun w'=>zia HS.out h2 w';have C3:=fun w'=>zdX HS.out (ao:=ao7) (cap:=cap7) (by omega) h3 w';have C4:=fun w'=>zdX HS.out (ao:=ao8) (cap:=cap8) (by omega) h4 w'
  have HE:Hid (zbj s ⟨2,seq,name,length,group,row,rows,data,delta⟩↔(t1=true∧t2=true∧t3=true∧t4=true)):=by
   show zbj s ⟨2,seq,name,length,group,row,rows,data,delta⟩↔_
   rw [h1,h2,← h3,← h4];unfold zbj ziP
   simp
  clear h1 h2 h3 h4;unfold zak at C1 C2 C3 C4 ⊢
  go_enter Tryz.func98,Tryz.ntmps98
  go_wp2_with fail
  refine (C1 _).mono ?_;rintro e w1 ⟨rfl,b1⟩;have T1:Two w w1 (rwS s).toArray #[.int .i64 2,.int .i64 seq,.string name,.int .i64 length,.int .i64 group,.int .i64 row,.slice ao6 rows.1 cap6,.slice ao7 data.1 cap7,.slice ao8 delta.1 cap8] 34 56:=T0.call b1;have HB1:=hid T1.bel;clear b1;have x1_0:w1.cell? ⟨w.heap.size,0,none⟩=some (.int .i64 (s 0)):=T1.b1.cell 0;have y1_0:w1.cell? ⟨w.heap.size+1,0,none⟩=some (.int .i64 2):=T1.b2.cell 0;have x1_1:w1.cell? ⟨w.heap.size,1,none⟩=some (.int .i64 (s 1)):=T1.b1.cell 1;have y1_1:w1.cell? ⟨w.heap.size+1,1,none⟩=some (.int .i64 seq):=T1.b2.cell 1;have x1_2:w1.cell? ⟨w.heap.size,2,none⟩=some (.int .i64 (s 2)):=T1.b1.cell 2;have y1_2:w1.cell? ⟨w.heap.size+1,2,none⟩=some (.string name):=T1.b2.cell 2;have x1_3:w1.cell? ⟨w.heap.size,3,none⟩=some (.int .i64 (s 3)):=T1.b1.cell 3;have y1_3:w1.cell? ⟨w.heap.size+1,3,none⟩=some (.int .i64 length):=T1.b2.cell 3;have x1_4:w1.cell? ⟨w.heap.size,4,none⟩=some (.int .i64 (s 4)):=T1.b1.cell 4;have y1_4:w1.cell? ⟨w.heap.size+1,4,none⟩=some (.int .i64 group):=T1.b2.cell 4;have x1_5:w1.cell? ⟨w.heap.size,5,none⟩=some (.int .i64 (s 5)):=T1.b1.cell 5;have y1_5:w1.cell? ⟨w.heap.size+1,5,none⟩=some (.int .i64 row):=T1.b2.cell 5;have x1_6:w1.cell? ⟨w.heap.size,6,none⟩=some (.int .i64 (s 6)):=T1.b1.cell 6;have y1_6:w1.cell? ⟨w.heap.size+1,6,none⟩=some (.slice ao6 rows.1 cap6):=T1.b2.cell 6;have x1_7:w1.cell? ⟨w.heap.size,7,none⟩=some (.int .i64 (s 7)):=T1.b1.cell 7;have y1_7:w1.cell? ⟨w.heap.size+1,7,none⟩=some (.slice ao7 data.1 cap7):=T1.b2.cell 7;have x1_8:w1.cell? ⟨w.heap.size,8,none⟩=some (.int .i64 (s 8)):=T1.b1.cell 8;have y1_8:w1.cell? ⟨w.heap.size+1,8,none⟩=some (.slice ao8 delta.1 cap8):=T1.b2.cell 8
  cases t1 with
  | false=>
   clear T1;go_wp2;go_ret;exact zat rfl (fun h=>by have:=HE.out.1 h;simp at this) HB1.out
  | true=>
   go_wp2_with fail
   refine (C2 _).mono ?_;rintro e w2 ⟨rfl,b2⟩;have T2:Two w w2 (rwS s).toArray #[.int .i64 2,.int .i64 seq,.string name,.int .i64 length,.int .i64 group,.int .i64 row,.slice ao6 rows.1 cap6,.slice ao7 data.1 cap7,.slice ao8 delta.1 cap8] 34 56:=T1.call b2;have HB2:=hid T2.bel;clear b2;have x2_0:w2.cell? ⟨w.heap.size,0,none⟩=some (.int .i64 (s 0)):=T2.b1.cell 0;have y2_0:w2.cell? ⟨w.heap.size+1,0,none⟩=some (.int .i64 2):=T2.b2.cell 0;have x2_1:w2.cell? ⟨w.heap.size,1,none⟩=some (.int .i64 (s 1)):=T2.b1.cell 1;have y2_1:w2.cell? ⟨w.heap.size+1,1,none⟩=some (.int .i64 seq):=T2.b2.cell 1;have x2_2:w2.cell? ⟨w.heap.size,2,none⟩=some (.int .i64 (s 2)):=T2.b1.cell 2;have y2_2:w2.cell? ⟨w.heap.size+1,2,none⟩=some (.string name):=T2.b2.cell 2;have x2_3:w2.cell? ⟨w.heap.size,3,none⟩=some (.int .i64 (s 3)):=T2.b1.cell 3;have y2_3:w2.cell? ⟨w.heap.size+1,3,none⟩=some (.int .i64 length):=T2.b2.cell 3;have x2_4:w2.cell? ⟨w.heap.size,4,none⟩=some (.int .i64 (s 4)):=T2.b1.cell 4;have y2_4:w2.cell? ⟨w.heap.size+1,4,none⟩=some (.int .i64 group):=T2.b2.cell 4;have x2_5:w2.cell? ⟨w.heap.size,5,none⟩=some (.int .i64 (s 5)):=T2.b1.cell 5;have y2_5:w2.cell? ⟨w.heap.size+1,5,none⟩=some (.int .i64 row):=T2.b2.cell 5;have x2_6:w2.cell? ⟨w.heap.size,6,none⟩=some (.int .i64 (s 6)):=T2.b1.cell 6;have y2_6:w2.cell? ⟨w.heap.size+1,6,none⟩=some (.slice ao6 rows.1 cap6):=T2.b2.cell 6;have x2_7:w2.cell? ⟨w.heap.size,7,none⟩=some (.int .i64 (s 7)):=T2.b1.cell 7;have y2_7:w2.cell? ⟨w.heap.size+1,7,none⟩=some (.slice ao7 data.1 cap7):=T2.b2.cell 7;have x2_8:w2.cell? ⟨w.heap.size,8,none⟩=some (.int .i64 (s 8)):=T2.b1.cell 8;have y2_8:w2.cell? ⟨w.heap.size+1,8,none⟩=some (.slice ao8 delta.1 cap8):=T2.b2.cell 8
   cases t2 with
   | false=>
    clear T2;go_wp2;go_ret;exact zat rfl (fun h=>by have:=HE.out.1 h;simp at this) HB2.out
   | true=>
    go_wp2_with fail
    refine (C3 _).mono ?_;rintro e w3 ⟨rfl,b3⟩;have T3:Two w w3 (rwS s).toArray #[.int .i64 2,.int .i64 seq,.string name,.int .i64 length,.int .i64 group,.int .i64 row,.slice ao6 rows.1 cap6,.slice ao7 data.1 cap7,.slice ao8 delta.1 cap8] 34 56:=T2.call b3;have HB3:=hid T3.bel;clear b3;have x3_0:w3.cell? ⟨w.heap.size,0,none⟩=some (.int .i64 (s 0)):=T3.b1.cell 0;have y3_0:w3.cell? ⟨w.heap.size+1,0,none⟩=some (.int .i64 2):=T3.b2.cell 0;have x3_1:w3.cell? ⟨w.heap.size,1,none⟩=some (.int .i64 (s 1)):=T3.b1.cell 1;have y3_1:w3.cell? ⟨w.heap.size+1,1,none⟩=some (.int .i64 seq):=T3.b2.cell 1;have x3_2:w3.cell? ⟨w.heap.size,2,none⟩=some (.int .i64 (s 2)):=T3.b1.cell 2;have y3_2:w3.cell? ⟨w.heap.size+1,2,none⟩=some (.string name):=T3.b2.cell 2;have x3_3:w3.cell? ⟨w.heap.size,3,none⟩=some (.int .i64 (s 3)):=T3.b1.cell 3;have y3_3:w3.cell? ⟨w.heap.size+1,3,none⟩=some (.int .i64 length):=T3.b2.cell 3;have x3_4:w3.cell? ⟨w.heap.size,4,none⟩=some (.int .i64 (s 4)):=T3.b1.cell 4;have y3_4:w3.cell? ⟨w.heap.size+1,4,none⟩=some (.int .i64 group):=T3.b2.cell 4;have x3_5:w3.cell? ⟨w.heap.size,5,none⟩=some (.int .i64 (s 5)):=T3.b1.cell 5;have y3_5:w3.cell? ⟨w.heap.size+1,5,none⟩=some (.int .i64 row):=T3.b2.cell 5;have x3_6:w3.cell? ⟨w.heap.size,6,none⟩=some (.int .i64 (s 6)):=T3.b1.cell 6;have y3_6:w3.cell? ⟨w.heap.size+1,6,none⟩=some (.slice ao6 rows.1 cap6):=T3.b2.cell 6;have x3_7:w3.cell? ⟨w.heap.size,7,none⟩=some (.int .i64 (s 7)):=T3.b1.cell 7;have y3_7:w3.cell? ⟨w.heap.size+1,7,none⟩=some (.slice ao7 data.1 cap7):=T3.b2.cell 7;have x3_8:w3.cell? ⟨w.heap.size,8,none⟩=some (.int .i64 (s 8)):=T3.b1.cell 8;have y3_8:w3.cell? ⟨w.heap.size+1,8,none⟩=some (.slice ao8 delta.1 cap8):=T3.b2.cell 8
    cases t3 with
    | false=>
     clear T3;go_wp2;go_ret;exact zat rfl (fun h=>by have:=HE.out.1 h;simp at this) HB3.out
    | true=>
     go_wp2_with fail
     refine (C4 _).mono ?_;rintro e w4 ⟨rfl,b4⟩;have T4:Two w w4 (rwS s).toArray #[.int .i64 2,.int .i64 seq,.string name,.int .i64 length,.int .i64 group,.int .i64 row,.slice ao6 rows.1 cap6,.slice ao7 data.1 cap7,.slice ao8 delta.1 cap8] 34 56:=T3.call b4;have HB4:=hid T4.bel;clear b4
     cases t4 with
     | false=>
      clear T4;go_wp2;go_ret;exact zat rfl (fun h=>by have:=HE.out.1 h;simp at this) HB4.out
     | true=>
      clear T4;go_wp2;go_ret;exact zaI rfl (HE.out.2 (by simp)) HB4.out
 ·have T0:=zay w (rwS s).toArray #[.int .i64 3,.int .i64 seq,.string name,.int .i64 length,.int .i64 group,.int .i64 row,.slice ao6 rows.1 cap6,.slice ao7 data.1 cap7,.slice ao8 delta.1 cap8] 34 56
  obtain ⟨t1,h1⟩:=exB (InP group 0 (s 0+s 1-1));have C:=fun w'=>zfJ HS.out h1 w'
  have HE:Hid (zbj s ⟨3,seq,name,length,group,row,rows,data,delta⟩↔t1=true):=by
   show zbj s ⟨3,seq,name,length,group,row,rows,data,delta⟩↔_
   rw [h1];unfold zbj ziQ
   simp
  clear h1;unfold zak at C ⊢
  go_enter Tryz.func98,Tryz.ntmps98
  go_wp2_with fail
  refine (C _).mono ?_;rintro e w1 ⟨rfl,b1⟩;have HB:Hid (Below w.heap.size w w1):=(T0.call b1).bel;clear b1 C T0;go_wp2;go_ret
  cases t1 with
  | true=>exact zaI rfl (HE.out.2 (by simp)) HB.out
  | false=>exact zat rfl (fun h=>by have:=HE.out.1 h;simp at this) HB.out
 ·have T0:=zay w (rwS s).toArray #[.int .i64 4,.int .i64 seq,.string name,.int .i64 length,.int .i64 group,.int .i64 row,.slice ao6 rows.1 cap6,.slice ao7 data.1 cap7,.slice ao8 delta.1 cap8] 34 56
  obtain ⟨t1,h1⟩:=exB (zg0 s ⟨4,seq,name,length,group,row,rows,data,delta⟩);have C:=zbF (zgC s HS.out ⟨4,seq,name,length,group,row,rows,data,delta⟩ _ hi _ (zac.rd_below HRD.out T0.bel hhi) (Nat.le_trans hhi T0.bel.size)) h1
  have HE:Hid (zbj s ⟨4,seq,name,length,group,row,rows,data,delta⟩↔t1=true):=by
   show zbj s ⟨4,seq,name,length,group,row,rows,data,delta⟩↔_
   rw [h1];unfold zbj
   simp
  clear h1;unfold zak at C ⊢
  go_enter Tryz.func98,Tryz.ntmps98
  go_wp2_with fail
  refine C.mono ?_;rintro e w1 ⟨rfl,b1⟩;have HB:Hid (Below w.heap.size w w1):=(T0.call b1).bel;clear b1 C T0;go_wp2;go_ret
  cases t1 with
  | true=>exact zaI rfl (HE.out.2 (by simp)) HB.out
  | false=>exact zat rfl (fun h=>by have:=HE.out.1 h;simp at this) HB.out
set_option maxRecDepth 20000 in
theorem zd0 (s:Nat→Int) (r:RecD) (cs:List Value) (hi:Nat) (w:World) (h:zac.rd w hi r cs) (hhi:hi≤w.heap.size) (hnm:r.name.size≤1048576) :
 Calls Tryz.prog 61 #[zak s,.agg cs.toArray] w (zeO s r w):=by
 obtain ⟨kind,seq,name,length,group,row,rows,data,delta⟩:=r;obtain ⟨ao6,cap6,ao7,cap7,ao8,cap8,rfl,-⟩:=zbd h;have HRD:=hid h
 simp only at hnm
 clear h;have T0:=zay w (rwS s).toArray #[.int .i64 kind,.int .i64 seq,.string name,.int .i64 length,.int .i64 group,.int .i64 row,.slice ao6 rows.1 cap6,.slice ao7 data.1 cap7,.slice ao8 delta.1 cap8] 34 56;have CSh:=fun w'=>zck s w';unfold zak at CSh ⊢
 go_enter Tryz.func61,Tryz.ntmps61
 go_wp2_with fail
 refine (CSh _).mono ?_;rintro e w1 ⟨x,rfl,hx,b1⟩;have T1:Two w w1 (rwS s).toArray #[.int .i64 kind,.int .i64 seq,.string name,.int .i64 length,.int .i64 group,.int .i64 row,.slice ao6 rows.1 cap6,.slice ao7 data.1 cap7,.slice ao8 delta.1 cap8] 34 56:=T0.call b1;have HT1:=hid T1;clear b1 T0 CSh;have x1_0:w1.cell? ⟨w.heap.size,0,none⟩=some (.int .i64 (s 0)):=T1.b1.cell 0;have y1_0:w1.cell? ⟨w.heap.size+1,0,none⟩=some (.int .i64 kind):=T1.b2.cell 0;have x1_1:w1.cell? ⟨w.heap.size,1,none⟩=some (.int .i64 (s 1)):=T1.b1.cell 1;have y1_1:w1.cell? ⟨w.heap.size+1,1,none⟩=some (.int .i64 seq):=T1.b2.cell 1;have x1_2:w1.cell? ⟨w.heap.size,2,none⟩=some (.int .i64 (s 2)):=T1.b1.cell 2;have y1_2:w1.cell? ⟨w.heap.size+1,2,none⟩=some (.string name):=T1.b2.cell 2;have x1_3:w1.cell? ⟨w.heap.size,3,none⟩=some (.int .i64 (s 3)):=T1.b1.cell 3;have y1_3:w1.cell? ⟨w.heap.size+1,3,none⟩=some (.int .i64 length):=T1.b2.cell 3;have x1_4:w1.cell? ⟨w.heap.size,4,none⟩=some (.int .i64 (s 4)):=T1.b1.cell 4;have y1_4:w1.cell? ⟨w.heap.size+1,4,none⟩=some (.int .i64 group):=T1.b2.cell 4;have x1_5:w1.cell? ⟨w.heap.size,5,none⟩=some (.int .i64 (s 5)):=T1.b1.cell 5;have y1_5:w1.cell? ⟨w.heap.size+1,5,none⟩=some (.int .i64 row):=T1.b2.cell 5;have x1_6:w1.cell? ⟨w.heap.size,6,none⟩=some (.int .i64 (s 6)):=T1.b1.cell 6;have y1_6:w1.cell? ⟨w.heap.size+1,6,none⟩=some (.slice ao6 rows.1 cap6):=T1.b2.cell 6;have x1_7:w1.cell? ⟨w.heap.size,7,none⟩=some (.int .i64 (s 7)):=T1.b1.cell 7;have y1_7:w1.cell? ⟨w.heap.size+1,7,none⟩=some (.slice ao7 data.1 cap7):=T1.b2.cell 7;have x1_8:w1.cell? ⟨w.heap.size,8,none⟩=some (.int .i64 (s 8)):=T1.b1.cell 8;have y1_8:w1.cell? ⟨w.heap.size+1,8,none⟩=some (.slice ao8 delta.1 cap8):=T1.b2.cell 8;clear T1
 rcases hx with ⟨rfl,hno⟩ | ⟨rfl,hok⟩
 ·go_wp2
  go_ret;exact recP rfl (Stair.fall hno) HT1.out.bel
 have HOK:=hid hok;clear hok
 by_cases hk:InP kind 1 4
 ·go_wp2_with fail
  refine (zaV (t:=true) (by omega) (exBT hk) _).mono ?_;rintro e w' ⟨rfl,hw'⟩;obtain rfl:=hw'.symm
  by_cases hq:InP seq 1 1000000000
  ·go_wp2_with fail
   refine (zaV (t:=true) (by omega) (exBT hq) _).mono ?_;rintro e w' ⟨rfl,hw'⟩;obtain rfl:=hw'.symm;have HK:=hid hk;have HQ:=hid hq
   have hk4:kind=1∨kind=2∨kind=3∨kind=4:=by unfold InP at hk;omega
   clear hk hq
   rcases hk4 with rfl | rfl | rfl | rfl
   ·go_wp2_with fail
    refine (zfL name hnm _).mono ?_;rintro e w' ⟨x,rfl,hx,hw'⟩;obtain rfl:=hw'.symm
    rcases hx with ⟨rfl,hno⟩ | ⟨rfl,hyes⟩
    ·go_wp2
     go_ret;exact recP rfl (Stair.pass HOK.out (Stair.pass HK.out (Stair.pass HQ.out (Stair.fall (fun h=>hno (h rfl)))))) HT1.out.bel
    have HN:Hid (zc8 ⟨1,seq,name,length,group,row,rows,data,delta⟩):=fun _=>hyes;clear hyes;obtain ⟨t5,h5⟩:=exB (zbj s ⟨1,seq,name,length,group,row,rows,data,delta⟩);have C5:=zbF (zda s HOK.out ⟨1,seq,name,length,group,row,rows,data,delta⟩ _ hi w1 (zac.rd_below HRD.out HT1.out.bel hhi) (Nat.le_trans hhi HT1.out.bel.size) HK.out) h5;have H5:=hid h5;unfold zak at C5;clear h5
    go_wp2_with fail
    refine C5.mono ?_;rintro e w5 ⟨rfl,b5⟩;have T5:Two w w5 (rwS s).toArray #[.int .i64 1,.int .i64 seq,.string name,.int .i64 length,.int .i64 group,.int .i64 row,.slice ao6 rows.1 cap6,.slice ao7 data.1 cap7,.slice ao8 delta.1 cap8] 34 56:=HT1.out.call b5;have HB5:=hid T5.bel;clear b5 C5;have x5_0:w5.cell? ⟨w.heap.size,0,none⟩=some (.int .i64 (s 0)):=T5.b1.cell 0;have y5_0:w5.cell? ⟨w.heap.size+1,0,none⟩=some (.int .i64 1):=T5.b2.cell 0;have x5_1:w5.cell? ⟨w.heap.size,1,none⟩=some (.int .i64 (s 1)):=T5.b1.cell 1;have y5_1:w5.cell? ⟨w.heap.size+1,1,none⟩=some (.int .i64 seq):=T5.b2.cell 1;have x5_2:w5.cell? ⟨w.heap.size,2,none⟩=some (.int .i64 (s 2)):=T5.b1.cell 2;have y5_2:w5.cell? ⟨w.heap.size+1,2,none⟩=some (.string name):=T5.b2.cell 2;have x5_3:w5.cell? ⟨w.heap.size,3,none⟩=some (.int .i64 (s 3)):=T5.b1.cell 3;have y5_3:w5.cell? ⟨w.heap.size+1,3,none⟩=some (.int .i64 length):=T5.b2.cell 3;have x5_4:w5.cell? ⟨w.heap.size,4,none⟩=some (.int .i64 (s 4)):=T5.b1.cell 4;have y5_4:w5.cell? ⟨w.heap.size+1,4,none⟩=some (.int .i64 group):=T5.b2.cell 4;have x5_5:w5.cell? ⟨w.heap.size,5,none⟩=some (.int .i64 (s 5)):=T5.b1.cell 5;have y5_5:w5.cell? ⟨w.heap.size+1,5,none⟩=some (.int .i64 row):=T5.b2.cell 5;have x5_6:w5.cell? ⟨w.heap.size,6,none⟩=some (.int .i64 (s 6)):=T5.b1.cell 6;have y5_6:w5.cell? ⟨w.heap.size+1,6,none⟩=some (.slice ao6 rows.1 cap6):=T5.b2.cell 6;have x5_7:w5.cell? ⟨w.heap.size,7,none⟩=some (.int .i64 (s 7)):=T5.b1.cell 7;have y5_7:w5.cell? ⟨w.heap.size+1,7,none⟩=some (.slice ao7 data.1 cap7):=T5.b2.cell 7;have x5_8:w5.cell? ⟨w.heap.size,8,none⟩=some (.int .i64 (s 8)):=T5.b1.cell 8;have y5_8:w5.cell? ⟨w.heap.size+1,8,none⟩=some (.slice ao8 delta.1 cap8):=T5.b2.cell 8;clear T5
    cases t5 with
    | false=>
     go_wp2;go_ret;exact recP rfl (Stair.pass HOK.out (Stair.pass HK.out (Stair.pass HQ.out (Stair.pass HN.out (Stair.fall (fun h=>by have:=H5.out.2 h;simp at this)))))) HB5.out
    | true=>
     have HKP:Hid (zbj s ⟨1,seq,name,length,group,row,rows,data,delta⟩):=H5.out.1 (by simp)
     go_wp2_with fail
     refine (ziu seq name length group row rows data delta ao6 ao7 ao8 cap6 cap7 cap8 _).mono ?_;rintro e w6 ⟨rfl,b6⟩;have HB6:=hid (HB5.out.trans (b6.mono HB5.out.size));clear b6
     go_wp2_with fail
     refine (zcl _ _ _ _ _ _ _ _ _ _ _ _ _ _ _ _).mono ?_;rintro e w7 ⟨t9,rfl,ht9,b7⟩;have HB7:=hid (HB6.out.trans (b7.mono HB6.out.size));clear b7
     have HT9:Hid (t9=true↔zbe ⟨1,seq,name,length,group,row,rows,data,delta⟩):=by
      show t9=true↔zbe ⟨1,seq,name,length,group,row,rows,data,delta⟩
      rw [ht9];unfold zdq zb7 zbe zcD
      simp [and_assoc]
      try (intros;rfl)
     clear ht9
     cases t9 with
     | false=>
      go_wp2;go_ret;exact recP rfl (Stair.pass HOK.out (Stair.pass HK.out (Stair.pass HQ.out (Stair.pass HN.out (Stair.pass HKP.out (Stair.fall (fun h=>by have:=HT9.out.2 h;simp at this))))))) HB7.out
     | true=>
      go_wp2;go_ret;exact recP rfl (Stair.pass HOK.out (Stair.pass HK.out (Stair.pass HQ.out (Stair.pass HN.out (Stair.pass HKP.out (Stair.pass (HT9.out.1 (by simp)) (Stair.last rfl))))))) HB7.out
   ·have HN:Hid (zc8 ⟨2,seq,name,length,group,row,rows,data,delta⟩):=fun h=>by simp at h
    obtain ⟨t5,h5⟩:=exB (zbj s ⟨2,seq,name,length,group,row,rows,data,delta⟩);have C5:=zbF (zda s HOK.out ⟨2,seq,name,length,group,row,rows,data,delta⟩ _ hi w1 (zac.rd_below HRD.out HT1.out.bel hhi) (Nat.le_trans hhi HT1.out.bel.size) HK.out) h5;have H5:=hid h5;unfold zak at C5;clear h5
    go_wp2_with fail
    refine C5.mono ?_;rintro e w5 ⟨rfl,b5⟩;have T5:Two w w5 (rwS s).toArray #[.int .i64 2,.int .i64 seq,.string name,.int .i64 length,.int .i64 group,.int .i64 row,.slice ao6 rows.1 cap6,.slice ao7 data.1 cap7,.slice ao8 delta.1 cap8] 34 56:=HT1.out.call b5;have HB5:=hid T5.bel;clear b5 C5;have x5_0:w5.cell? ⟨w.heap.size,0,none⟩=some (.int .i64 (s 0)):=T5.b1.cell 0;have y5_0:w5.cell? ⟨w.heap.size+1,0,none⟩=some (.int .i64 2):=T5.b2.cell 0;have x5_1:w5.cell? ⟨w.heap.size,1,none⟩=some (.int .i64 (s 1)):=T5.b1.cell 1;have y5_1:w5.cell? ⟨w.heap.size+1,1,none⟩=some (.int .i64 seq):=T5.b2.cell 1;have x5_2:w5.cell? ⟨w.heap.size,2,none⟩=some (.int .i64 (s 2)):=T5.b1.cell 2;have y5_2:w5.cell? ⟨w.heap.size+1,2,none⟩=some (.string name):=T5.b2.cell 2;have x5_3:w5.cell? ⟨w.heap.size,3,none⟩=some (.int .i64 (s 3)):=T5.b1.cell 3;have y5_3:w5.cell? ⟨w.heap.size+1,3,none⟩=some (.int .i64 length):=T5.b2.cell 3;have x5_4:w5.cell? ⟨w.heap.size,4,none⟩=some (.int .i64 (s 4)):=T5.b1.cell 4;have y5_4:w5.cell? ⟨w.heap.size+1,4,none⟩=some (.int .i64 group):=T5.b2.cell 4;have x5_5:w5.cell? ⟨w.heap.size,5,none⟩=some (.int .i64 (s 5)):=T5.b1.cell 5;have y5_5:w5.cell? ⟨w.heap.size+1,5,none⟩=some (.int .i64 row):=T5.b2.cell 5;have x5_6:w5.cell? ⟨w.heap.size,6,none⟩=some (.int .i64 (s 6)):=T5.b1.cell 6;have y5_6:w5.cell? ⟨w.heap.size+1,6,none⟩=some (.slice ao6 rows.1 cap6):=T5.b2.cell 6;have x5_7:w5.cell? ⟨w.heap.size,7,none⟩=some (.int .i64 (s 7)):=T5.b1.cell 7;have y5_7:w5.cell? ⟨w.heap.size+1,7,none⟩=some (.slice ao7 data.1 cap7):=T5.b2.cell 7;have x5_8:w5.cell? ⟨w.heap.size,8,none⟩=some (.int .i64 (s 8)):=T5.b1.cell 8;have y5_8:w5.cell? ⟨w.heap.size+1,8,none⟩=some (.slice ao8 delta.1 cap8):=T5.b2.cell 8;clear T5
    cases t5 with
    | false=>
     go_wp2;go_ret;exact recP rfl (Stair.pass HOK.out (Stair.pass HK.out (Stair.pass HQ.out (Stair.pass HN.out (Stair.fall (fun h=>by have:=H5.out.2 h;simp at this)))))) HB5.out
    | true=>
     have HKP:Hid (zbj s ⟨2,seq,name,length,group,row,rows,data,delta⟩):=H5.out.1 (by simp)
     go_wp2_with fail
     refine (ziv seq name length group row rows data delta ao6 ao7 ao8 cap6 cap7 cap8 _).mono ?_;rintro e w6 ⟨rfl,b6⟩;have HB6:=hid (HB5.out.trans (b6.mono HB5.out.size));clear b6
     go_wp2_with fail
     refine (zcl _ _ _ _ _ _ _ _ _ _ _ _ _ _ _ _).mono ?_;rintro e w7 ⟨t9,rfl,ht9,b7⟩;have HB7:=hid (HB6.out.trans (b7.mono HB6.out.size));clear b7
     have HT9:Hid (t9=true↔zbe ⟨2,seq,name,length,group,row,rows,data,delta⟩):=by
      show t9=true↔zbe ⟨2,seq,name,length,group,row,rows,data,delta⟩
      rw [ht9];unfold zdq zb7 zbe zcD
      simp [and_assoc]
      try (intros;rfl)
     clear ht9
     cases t9 with
     | false=>
      go_wp2;go_ret;exact recP rfl (Stair.pass HOK.out (Stair.pass HK.out (Stair.pass HQ.out (Stair.pass HN.out (Stair.pass HKP.out (Stair.fall (fun h=>by have:=HT9.out.2 h;simp at this))))))) HB7.out
     | true=>
      go_wp2;go_ret;exact recP rfl (Stair.pass HOK.out (Stair.pass HK.out (Stair.pass HQ.out (Stair.pass HN.out (Stair.pass HKP.out (Stair.pass (HT9.out.1 (by simp)) (Stair.last rfl))))))) HB7.out
   ·have HN:Hid (zc8 ⟨3,seq,name,length,group,row,rows,data,delta⟩):=fun h=>by simp at h
    obtain ⟨t5,h5⟩:=exB (zbj s ⟨3,seq,name,length,group,row,rows,data,delta⟩);have C5:=zbF (zda s HOK.out ⟨3,seq,name,length,group,row,rows,data,delta⟩ _ hi w1 (zac.rd_below HRD.out HT1.out.bel hhi) (Nat.le_trans hhi HT1.out.bel.size) HK.out) h5;have H5:=hid h5;unfold zak at C5;clear h5
    go_wp2_with fail
    refine C5.mono ?_;rintro e w5 ⟨rfl,b5⟩;have T5:Two w w5 (rwS s).toArray #[.int .i64 3,.int .i64 seq,.string name,.int .i64 length,.int .i64 group,.int .i64 row,.slice ao6 rows.1 cap6,.slice ao7 data.1 cap7,.slice ao8 delta.1 cap8] 34 56:=HT1.out.call b5;have HB5:=hid T5.bel;clear b5 C5;have x5_0:w5.cell? ⟨w.heap.size,0,none⟩=some (.int .i64 (s 0)):=T5.b1.cell 0;have y5_0:w5.cell? ⟨w.heap.size+1,0,none⟩=some (.int .i64 3):=T5.b2.cell 0;have x5_1:w5.cell? ⟨w.heap.size,1,none⟩=some (.int .i64 (s 1)):=T5.b1.cell 1;have y5_1:w5.cell? ⟨w.heap.size+1,1,none⟩=some (.int .i64 seq):=T5.b2.cell 1;have x5_2:w5.cell? ⟨w.heap.size,2,none⟩=some (.int .i64 (s 2)):=T5.b1.cell 2;have y5_2:w5.cell? ⟨w.heap.size+1,2,none⟩=some (.string name):=T5.b2.cell 2;have x5_3:w5.cell? ⟨w.heap.size,3,none⟩=some (.int .i64 (s 3)):=T5.b1.cell 3;have y5_3:w5.cell? ⟨w.heap.size+1,3,none⟩=some (.int .i64 length):=T5.b2.cell 3;have x5_4:w5.cell? ⟨w.heap.size,4,none⟩=some (.int .i64 (s 4)):=T5.b1.cell 4;have y5_4:w5.cell? ⟨w.heap.size+1,4,none⟩=some (.int .i64 group):=T5.b2.cell 4;have x5_5:w5.cell? ⟨w.heap.size,5,none⟩=some (.int .i64 (s 5)):=T5.b1.cell 5;have y5_5:w5.cell? ⟨w.heap.size+1,5,none⟩=some (.int .i64 row):=T5.b2.cell 5;have x5_6:w5.cell? ⟨w.heap.size,6,none⟩=some (.int .i64 (s 6)):=T5.b1.cell 6;have y5_6:w5.cell? ⟨w.heap.size+1,6,none⟩=some (.slice ao6 rows.1 cap6):=T5.b2.cell 6;have x5_7:w5.cell? ⟨w.heap.size,7,none⟩=some (.int .i64 (s 7)):=T5.b1.cell 7;have y5_7:w5.cell? ⟨w.heap.size+1,7,none⟩=some (.slice ao7 data.1 cap7):=T5.b2.cell 7;have x5_8:w5.cell? ⟨w.heap.size,8,none⟩=some (.int .i64 (s 8)):=T5.b1.cell 8;have y5_8:w5.cell? ⟨w.heap.size+1,8,none⟩=some (.slice ao8 delta.1 cap8):=T5.b2.cell 8;clear T5
    cases t5 with
    | false=>
     go_wp2;go_ret;exact recP rfl (Stair.pass HOK.out (Stair.pass HK.out (Stair.pass HQ.out (Stair.pass HN.out (Stair.fall (fun h=>by have:=H5.out.2 h;simp at this)))))) HB5.out
    | true=>
     have HKP:Hid (zbj s ⟨3,seq,name,length,group,row,rows,data,delta⟩):=H5.out.1 (by simp)
     go_wp2_with fail
     refine (ziw seq name length group row rows data delta ao6 ao7 ao8 cap6 cap7 cap8 _).mono ?_;rintro e w6 ⟨rfl,b6⟩;have HB6:=hid (HB5.out.trans (b6.mono HB5.out.size));clear b6
     go_wp2_with fail
     refine (zcl _ _ _ _ _ _ _ _ _ _ _ _ _ _ _ _).mono ?_;rintro e w7 ⟨t9,rfl,ht9,b7⟩;have HB7:=hid (HB6.out.trans (b7.mono HB6.out.size));clear b7
     have HT9:Hid (t9=true↔zbe ⟨3,seq,name,length,group,row,rows,data,delta⟩):=by
      show t9=true↔zbe ⟨3,seq,name,length,group,row,rows,data,delta⟩
      rw [ht9];unfold zdq zb7 zbe zcD
      simp [and_assoc]
      try (intros;rfl)
     clear ht9
     cases t9 with
     | false=>
      go_wp2;go_ret;exact recP rfl (Stair.pass HOK.out (Stair.pass HK.out (Stair.pass HQ.out (Stair.pass HN.out (Stair.pass HKP.out (Stair.fall (fun h=>by have:=HT9.out.2 h;simp at this))))))) HB7.out
     | true=>
      go_wp2;go_ret;exact recP rfl (Stair.pass HOK.out (Stair.pass HK.out (Stair.pass HQ.out (Stair.pass HN.out (Stair.pass HKP.out (Stair.pass (HT9.out.1 (by simp)) (Stair.last rfl))))))) HB7.out
   ·have HN:Hid (zc8 ⟨4,seq,name,length,group,row,rows,data,delta⟩):=fun h=>by simp at h
    obtain ⟨t5,h5⟩:=exB (zbj s ⟨4,seq,name,length,group,row,rows,data,delta⟩);have C5:=zbF (zda s HOK.out ⟨4,seq,name,length,group,row,rows,data,delta⟩ _ hi w1 (zac.rd_below HRD.out HT1.out.bel hhi) (Nat.le_trans hhi HT1.out.bel.size) HK.out) h5;have H5:=hid h5;unfold zak at C5;clear h5
    go_wp2_with fail
    refine C5.mono ?_;rintro e w5 ⟨rfl,b5⟩;have T5:Two w w5 (rwS s).toArray #[.int .i64 4,.int .i64 seq,.string name,.int .i64 length,.int .i64 group,.int .i64 row,.slice ao6 rows.1 cap6,.slice ao7 data.1 cap7,.slice ao8 delta.1 cap8] 34 56:=HT1.out.call b5;have HB5:=hid T5.bel;clear b5 C5;have x5_0:w5.cell? ⟨w.heap.size,0,none⟩=some (.int .i64 (s 0)):=T5.b1.cell 0;have y5_0:w5.cell? ⟨w.heap.size+1,0,none⟩=some (.int .i64 4):=T5.b2.cell 0;have x5_1:w5.cell? ⟨w.heap.size,1,none⟩=some (.int .i64 (s 1)):=T5.b1.cell 1;have y5_1:w5.cell? ⟨w.heap.size+1,1,none⟩=some (.int .i64 seq):=T5.b2.cell 1;have x5_2:w5.cell? ⟨w.heap.size,2,none⟩=some (.int .i64 (s 2)):=T5.b1.cell 2;have y5_2:w5.cell? ⟨w.heap.size+1,2,none⟩=some (.string name):=T5.b2.cell 2;have x5_3:w5.cell? ⟨w.heap.size,3,none⟩=some (.int .i64 (s 3)):=T5.b1.cell 3;have y5_3:w5.cell? ⟨w.heap.size+1,3,none⟩=some (.int .i64 length):=T5.b2.cell 3;have x5_4:w5.cell? ⟨w.heap.size,4,none⟩=some (.int .i64 (s 4)):=T5.b1.cell 4;have y5_4:w5.cell? ⟨w.heap.size+1,4,none⟩=some (.int .i64 group):=T5.b2.cell 4;have x5_5:w5.cell? ⟨w.heap.size,5,none⟩=some (.int .i64 (s 5)):=T5.b1.cell 5;have y5_5:w5.cell? ⟨w.heap.size+1,5,none⟩=some (.int .i64 row):=T5.b2.cell 5;have x5_6:w5.cell? ⟨w.heap.size,6,none⟩=some (.int .i64 (s 6)):=T5.b1.cell 6;have y5_6:w5.cell? ⟨w.heap.size+1,6,none⟩=some (.slice ao6 rows.1 cap6):=T5.b2.cell 6;have x5_7:w5.cell? ⟨w.heap.size,7,none⟩=some (.int .i64 (s 7)):=T5.b1.cell 7;have y5_7:w5.cell? ⟨w.heap.size+1,7,none⟩=some (.slice ao7 data.1 cap7):=T5.b2.cell 7;have x5_8:w5.cell? ⟨w.heap.size,8,none⟩=some (.int .i64 (s 8)):=T5.b1.cell 8;have y5_8:w5.cell? ⟨w.heap.size+1,8,none⟩=some (.slice ao8 delta.1 cap8):=T5.b2.cell 8;clear T5
    cases t5 with
    | false=>
     go_wp2;go_ret;exact recP rfl (Stair.pass HOK.out (Stair.pass HK.out (Stair.pass HQ.out (Stair.pass HN.out (Stair.fall (fun h=>by have:=H5.out.2 h;simp at this)))))) HB5.out
    | true=>
     have HKP:Hid (zbj s ⟨4,seq,name,length,group,row,rows,data,delta⟩):=H5.out.1 (by simp)
     go_wp2_with fail
     refine (zix seq name length group row rows data delta ao6 ao7 ao8 cap6 cap7 cap8 _).mono ?_;rintro e w6 ⟨rfl,b6⟩;have HB6:=hid (HB5.out.trans (b6.mono HB5.out.size));clear b6
     go_wp2_with fail
     refine (zcl _ _ _ _ _ _ _ _ _ _ _ _ _ _ _ _).mono ?_;rintro e w7 ⟨t9,rfl,ht9,b7⟩;have HB7:=hid (HB6.out.trans (b7.mono HB6.out.size));clear b7
     have HT9:Hid (t9=true↔zbe ⟨4,seq,name,length,group,row,rows,data,delta⟩):=by
      show t9=true↔zbe ⟨4,seq,name,length,group,row,rows,data,delta⟩
      rw [ht9];unfold zdq zb7 zbe zcD
      simp [and_assoc]
      try (intros;rfl)
     clear ht9
     cases t9 with
     | false=>
      go_wp2;go_ret;exact recP rfl (Stair.pass HOK.out (Stair.pass HK.out (Stair.pass HQ.out (Stair.pass HN.out (Stair.pass HKP.out (Stair.fall (fun h=>by have:=HT9.out.2 h;simp at this))))))) HB7.out
     | true=>
      go_wp2;go_ret;exact recP rfl (Stair.pass HOK.out (Stair.pass HK.out (Stair.pass HQ.out (Stair.pass HN.out (Stair.pass HKP.out (Stair.pass (HT9.out.1 (by simp)) (Stair.last rfl))))))) HB7.out
  ·go_wp2_with fail
   refine (zaV (t:=false) (by omega) (exBF hq) _).mono ?_;rintro e w' ⟨rfl,hw'⟩;obtain rfl:=hw'.symm;go_wp2;go_ret;exact recP rfl (Stair.pass HOK.out (Stair.pass hk (Stair.fall hq))) HT1.out.bel
 ·go_wp2_with fail
  refine (zaV (t:=false) (by omega) (exBF hk) _).mono ?_;rintro e w' ⟨rfl,hw'⟩;obtain rfl:=hw'.symm;go_wp2;go_ret;exact recP rfl (Stair.pass HOK.out (Stair.fall hk)) HT1.out.bel
theorem zhB (d:WorldD) (hs:zaq d.shape) (cs:List Value) (hi:Nat) (w:World) (h:zae.rd w hi d cs) (hhi:hi≤w.heap.size) :
 Calls Tryz.prog 110 #[.agg cs.toArray] w (zbK (OnP d) w):=by
 obtain ⟨ao1,cap1,ao2,cap2,ao3,cap3,rfl,g1,g2,g3,-⟩:=zaR h;obtain ⟨v2,e2,⟨h2,hcp2⟩,_⟩:=g2
 cases e2
 have H2:=hid h2;have HCP:=hid hcp2;have hm2:=h2.mx;unfold maxLen at hm2;have hb:=okB hs;have HS:=hid hs;clear h h2 hcp2 g1 g3 hs;have T0:=zaQ w #[.int .i64 (d.shape 0),.int .i64 (d.shape 1),.int .i64 (d.shape 2),.int .i64 (d.shape 3),.int .i64 (d.shape 4),.int .i64 (d.shape 5),.int .i64 (d.shape 6),.int .i64 (d.shape 7),.int .i64 (d.shape 8),.slice ao1 d.groups.1 cap1,.slice ao2 d.on.1 cap2,.slice ao3 d.tapes.1 cap3,.int .i64 d.writes,.int .i64 d.stop,.bool d.down] 38
 go_enter Tryz.func110,Tryz.ntmps110
 cases hd:d.down with
 | true=>
  obtain ⟨b0,h0⟩:∃ b,((d.on.1:Int)==0)=b:=⟨_,rfl⟩
  have HE:Hid (OnP d↔b0=true):=by
   show OnP d↔_
   rw [← h0];unfold OnP
   simp [hd]
   constructor
   ·exact fun h=>h.2.2
   ·intro h
    refine ⟨fun i hi=>by omega,by omega,h⟩
  have HB:Hid (Below w.heap.size w (w.alloc (.cells #[.int .i64 (d.shape 0),.int .i64 (d.shape 1),.int .i64 (d.shape 2),.int .i64 (d.shape 3),.int .i64 (d.shape 4),.int .i64 (d.shape 5),.int .i64 (d.shape 6),.int .i64 (d.shape 7),.int .i64 (d.shape 8),.slice ao1 d.groups.1 cap1,.slice ao2 d.on.1 cap2,.slice ao3 d.tapes.1 cap3,.int .i64 d.writes,.int .i64 d.stop,.bool true] 38))):=by
   have:=T0.bel;rw [hd] at this;exact this
  clear T0
  cases b0 with
  | true=>
   go_wp2;go_ret;exact zaI (by simp [h0]) (HE.out.2 (by simp)) HB.out
  | false=>
   go_wp2;go_ret;exact zat (by simp [h0]) (fun h=>by have:=HE.out.1 h;simp at this) HB.out
 | false=>
  have T1:=T0;rw [hd] at T1;clear T0
  go_upto_region 3 with fail
  obtain ⟨W,hW⟩:∃ W,W=w.alloc (.cells #[.int .i64 (d.shape 0),.int .i64 (d.shape 1),.int .i64 (d.shape 2),.int .i64 (d.shape 3),.int .i64 (d.shape 4),.int .i64 (d.shape 5),.int .i64 (d.shape 6),.int .i64 (d.shape 7),.int .i64 (d.shape 8),.slice ao1 d.groups.1 cap1,.slice ao2 d.on.1 cap2,.slice ao3 d.tapes.1 cap3,.int .i64 d.writes,.int .i64 d.stop,.bool false] 38):=⟨_,rfl⟩;rw [← hW] at T1 ⊢;have HT:=hid T1;have x1_0:W.cell? ⟨w.heap.size,0,none⟩=some (.int .i64 (d.shape 0)):=T1.b1.cell 0;have kx1_0:=cell_regrown x1_0;have x1_1:W.cell? ⟨w.heap.size,1,none⟩=some (.int .i64 (d.shape 1)):=T1.b1.cell 1;have kx1_1:=cell_regrown x1_1;have x1_2:W.cell? ⟨w.heap.size,2,none⟩=some (.int .i64 (d.shape 2)):=T1.b1.cell 2;have kx1_2:=cell_regrown x1_2;have x1_3:W.cell? ⟨w.heap.size,3,none⟩=some (.int .i64 (d.shape 3)):=T1.b1.cell 3;have kx1_3:=cell_regrown x1_3;have x1_4:W.cell? ⟨w.heap.size,4,none⟩=some (.int .i64 (d.shape 4)):=T1.b1.cell 4;have kx1_4:=cell_regrown x1_4;have x1_5:W.cell? ⟨w.heap.size,5,none⟩=some (.int .i64 (d.shape 5)):=T1.b1.cell 5;have kx1_5:=cell_regrown x1_5;have x1_6:W.cell? ⟨w.heap.size,6,none⟩=some (.int .i64 (d.shape 6)):=T1.b1.cell 6;have kx1_6:=cell_regrown x1_6;have x1_7:W.cell? ⟨w.heap.size,7,none⟩=some (.int .i64 (d.shape 7)):=T1.b1.cell 7;have kx1_7:=cell_regrown x1_7;have x1_8:W.cell? ⟨w.heap.size,8,none⟩=some (.int .i64 (d.shape 8)):=T1.b1.cell 8;have kx1_8:=cell_regrown x1_8;have x1_10:W.cell? ⟨w.heap.size,10,none⟩=some (.slice ao2 d.on.1 cap2):=T1.b1.cell 10;have kx1_10:=cell_regrown x1_10;obtain ⟨b0,h0⟩:∃ b,decide ((d.on.1:Int)≤d.shape 5)=b:=⟨_,rfl⟩;obtain ⟨t2,h2⟩:=exB (zbR d.on.1 d.on.2 (d.shape 0+d.shape 1-1));have cG:=zaE (W:=W) (fun w' _=>zbo d.shape HS.out w');have cD:=zaE (W:=W) (fun w' hw'=>zbF (zct _ d.on.1 d.on.2 hi (d.shape 0+d.shape 1) (by omega) (by omega) w' ((H2.out.below T1.bel hhi).below hw' (Nat.le_trans hhi T1.bel.size)) HCP.out (Nat.le_trans hhi (Nat.le_trans T1.bel.size hw'.size))) h2);unfold zak at cG
  have HE:Hid (OnP d↔(b0=true∧t2=true)):=by
   show OnP d↔_
   rw [← h0,h2];unfold OnP
   simp [hd]
   exact ⟨fun h=>⟨h.2,h.1⟩,fun h=>⟨h.2,h.1⟩⟩
  have hst:b0=false∨(b0=true∧t2=false)∨(b0=true∧t2=true):=by
   clear HE h0 h2 cD
   cases b0<;>simp
  clear h2 hW T1
  rcases hst with rfl | ⟨rfl,rfl⟩ | ⟨rfl,rfl⟩
  all_goals
   refine WQ.region (by kernel_rfl) (by kernel_rfl) ?_
   repeat (first | (apply WQ.skip;(case hw=>rfl);intro K hK;go_simp;apply hK;clear hK K) | (apply WQ.want;(case hw=>rfl);intro K hK;go_simp;first | (apply hK;clear hK K) | (apply Exists.intro;apply And.intro;(case left=>intro p;(first | (go_at_call 115;exact cG _ _) | (go_at_call 148;exact cD _ _)));apply hK;clear hK K)))
   refine WQ.nil ?_;intro w2 hw2;have HB2:Hid (Below w.heap.size w w2):=(HT.out.call (zaO hw2)).bel;clear hw2;go_wp2;go_ret
   first
    | exact zat rfl (fun h=>by have:=HE.out.1 h;simp at this) HB2.out
    | exact zaI rfl (HE.out.2 (by simp)) HB2.out
set_option maxRecDepth 20000 in
theorem ze1 (d:WorldD) (cs:List Value) (hi:Nat) (w:World) (h:zae.rd w hi d cs) (hhi:hi≤w.heap.size) (hnm:∀ t,t<d.tapes.1→∀ i,i<(d.tapes.2 t).recs.1→((d.tapes.2 t).recs.2 i).name.size≤1048576) :
 Calls Tryz.prog 113 #[.agg cs.toArray] w (ziT d.shape d.tapes w):=by
 obtain ⟨ao1,cap1,ao2,cap2,ao3,cap3,rfl,g1,g2,g3,-⟩:=zaR h;obtain ⟨_,_,e3,hm3,hc3⟩:=g3
 cases e3
 unfold maxLen at hm3;have HC3:=hid hc3;have HNM:=hid hnm;have HT0:Hid (One w (w.alloc (.cells (rwW d ao1 cap1 ao2 cap2 ao3 cap3).toArray 38)) (rwW d ao1 cap1 ao2 cap2 ao3 cap3).toArray 38):=zaQ w (rwW d ao1 cap1 ao2 cap2 ao3 cap3).toArray 38;clear h g1 g2 hc3 hnm
 go_enter Tryz.func113,Tryz.ntmps113
 go_wp2
 go_loopw [11] (fun v wr=>∃ t:Nat,t≤d.tapes.1∧v=.int .i64 t∧(∀ u,u<t→∀ k,k<(d.tapes.2 u).recs.1→RecAns d.shape ((d.tapes.2 u).recs.2 k) 0)∧One w wr (rwW d ao1 cap1 ao2 cap2 ao3 cap3).toArray 38) (fun v _=>d.tapes.1-(intOf v).toNat)
 case atStart=>exact ⟨0,Nat.zero_le _,rfl,fun i hi=>by omega,HT0.out⟩
 case round=>
  clear HT0;obtain ⟨t,ht,rfl,hal,T1⟩:=hrel;obtain ⟨wo,rfl⟩:∃ x,x=wr:=⟨_,rfl⟩;have HAL:=hid hal;have HT1:=hid T1;clear hal
  by_cases hlt:t<d.tapes.1
  ·obtain ⟨b3,off3,he3,hb3,hel3⟩:=HC3.out (by omega)
   subst he3;obtain ⟨ct,hrt,hct⟩:=zas (t:=0) hel3 T1.bel hhi hb3 hlt;obtain ⟨ap,cp,rfl,gt⟩:=za1 hrt;have c0:wo.cell? ⟨b3,off3+t*2,none⟩=some (.bool (d.tapes.2 t).wiped):=hct 0 (by decide);have c1:wo.cell? ⟨b3,off3+t*2+1,none⟩=some (.slice ap (d.tapes.2 t).recs.1 cp):=hct 1 (by decide);obtain ⟨_,_,et,hmt,hct'⟩:=gt
   cases et
   unfold maxLen at hmt;have HCT:=hid hct';have zo:w.heap.size<wo.heap.size:=T1.b1.lt;clear hel3 hct hrt hct' T1
   go_upto_region 4 with fail
   have bA:=bAl wo (.cells #[.bool (d.tapes.2 t).wiped,.slice ap (d.tapes.2 t).recs.1 cp] 100);have X2:=zaz wo #[.bool (d.tapes.2 t).wiped,.slice ap (d.tapes.2 t).recs.1 cp] 100;obtain ⟨W2,hW2⟩:∃ x,x=wo.alloc (.cells #[.bool (d.tapes.2 t).wiped,.slice ap (d.tapes.2 t).recs.1 cp] 100):=⟨_,rfl⟩;rw [← hW2] at bA X2 ⊢;have y2_1:W2.cell? ⟨wo.heap.size,1,none⟩=some (.slice ap (d.tapes.2 t).recs.1 cp):=X2.cell 1;have HB2:=hid bA;clear c0 c1 X2 bA hW2;go_wp2
   go_loopw [18] (fun v wx=>∃ i:Nat,i≤(d.tapes.2 t).recs.1∧v=.int .i64 i∧(∀ k,k<i→RecAns d.shape ((d.tapes.2 t).recs.2 k) 0)∧Below wo.heap.size wo wx) (fun v _=>(d.tapes.2 t).recs.1-(intOf v).toNat)
   case atStart=>exact ⟨0,Nat.zero_le _,rfl,fun i hi=>by omega,HB2.out⟩
   case round=>
    clear HB2 y2_1;obtain ⟨i,hi',rfl,hal2,hb4⟩:=hrel;obtain ⟨wx,rfl⟩:∃ x,x=wr:=⟨_,rfl⟩;have HAL2:=hid hal2;have HB4:=hid hb4;clear hal2
    by_cases hli:i<(d.tapes.2 t).recs.1
    ·obtain ⟨b6,off6,he6,hb6,hel6⟩:=HCT.out (by omega)
     subst he6;obtain ⟨cr,hrr,hcr⟩:=zas (t:=0) hel6 hb4 (by omega) hb6 hli;obtain ⟨ro6,rc6,ro7,rc7,ro8,rc8,rfl,-⟩:=zbd hrr;have r0:wx.cell? ⟨b6,off6+i*9,none⟩=some (.int .i64 ((d.tapes.2 t).recs.2 i).kind):=hcr 0 (by decide);have r1:wx.cell? ⟨b6,off6+i*9+1,none⟩=some (.int .i64 ((d.tapes.2 t).recs.2 i).seq):=hcr 1 (by decide);have r2:wx.cell? ⟨b6,off6+i*9+2,none⟩=some (.string ((d.tapes.2 t).recs.2 i).name):=hcr 2 (by decide);have r3:wx.cell? ⟨b6,off6+i*9+3,none⟩=some (.int .i64 ((d.tapes.2 t).recs.2 i).length):=hcr 3 (by decide);have r4:wx.cell? ⟨b6,off6+i*9+4,none⟩=some (.int .i64 ((d.tapes.2 t).recs.2 i).group):=hcr 4 (by decide);have r5:wx.cell? ⟨b6,off6+i*9+5,none⟩=some (.int .i64 ((d.tapes.2 t).recs.2 i).row):=hcr 5 (by decide);have r6:wx.cell? ⟨b6,off6+i*9+6,none⟩=some (.slice ro6 ((d.tapes.2 t).recs.2 i).rows.1 rc6):=hcr 6 (by decide);have r7:wx.cell? ⟨b6,off6+i*9+7,none⟩=some (.slice ro7 ((d.tapes.2 t).recs.2 i).data.1 rc7):=hcr 7 (by decide);have r8:wx.cell? ⟨b6,off6+i*9+8,none⟩=some (.slice ro8 ((d.tapes.2 t).recs.2 i).delta.1 rc8):=hcr 8 (by decide);have HRR:=hid hrr;have T4:One w wx (rwW d ao1 cap1 ao2 cap2 (some ⟨b3,off3,none⟩) cap3).toArray 38:=HT1.out.call hb4;have HT4:=hid T4;have zx:wo.heap.size≤wx.heap.size:=hb4.size;obtain ⟨X,hX⟩:∃ X,RecAns d.shape ((d.tapes.2 t).recs.2 i) X:=zcO (K:=isZ) ⟨0,rfl⟩ _;have HX:=hid hX;clear hel6 hcr hrr T4 hb4 hX
     go_upto_region 7 with fail
     have bA:=bAl wx (.cells #[.int .i64 ((d.tapes.2 t).recs.2 i).kind,.int .i64 ((d.tapes.2 t).recs.2 i).seq,.string ((d.tapes.2 t).recs.2 i).name,.int .i64 ((d.tapes.2 t).recs.2 i).length,.int .i64 ((d.tapes.2 t).recs.2 i).group,.int .i64 ((d.tapes.2 t).recs.2 i).row,.slice ro6 ((d.tapes.2 t).recs.2 i).rows.1 rc6,.slice ro7 ((d.tapes.2 t).recs.2 i).data.1 rc7,.slice ro8 ((d.tapes.2 t).recs.2 i).delta.1 rc8] 56);have X5:=zaz wx #[.int .i64 ((d.tapes.2 t).recs.2 i).kind,.int .i64 ((d.tapes.2 t).recs.2 i).seq,.string ((d.tapes.2 t).recs.2 i).name,.int .i64 ((d.tapes.2 t).recs.2 i).length,.int .i64 ((d.tapes.2 t).recs.2 i).group,.int .i64 ((d.tapes.2 t).recs.2 i).row,.slice ro6 ((d.tapes.2 t).recs.2 i).rows.1 rc6,.slice ro7 ((d.tapes.2 t).recs.2 i).data.1 rc7,.slice ro8 ((d.tapes.2 t).recs.2 i).delta.1 rc8] 56;obtain ⟨W5,hW5⟩:∃ x,x=wx.alloc (.cells #[.int .i64 ((d.tapes.2 t).recs.2 i).kind,.int .i64 ((d.tapes.2 t).recs.2 i).seq,.string ((d.tapes.2 t).recs.2 i).name,.int .i64 ((d.tapes.2 t).recs.2 i).length,.int .i64 ((d.tapes.2 t).recs.2 i).group,.int .i64 ((d.tapes.2 t).recs.2 i).row,.slice ro6 ((d.tapes.2 t).recs.2 i).rows.1 rc6,.slice ro7 ((d.tapes.2 t).recs.2 i).data.1 rc7,.slice ro8 ((d.tapes.2 t).recs.2 i).delta.1 rc8] 56):=⟨_,rfl⟩;rw [← hW5] at bA X5 ⊢;have T5:One w W5 (rwW d ao1 cap1 ao2 cap2 (some ⟨b3,off3,none⟩) cap3).toArray 38:=HT4.out.call bA;have y5_0:W5.cell? ⟨wx.heap.size,0,none⟩=some (.int .i64 ((d.tapes.2 t).recs.2 i).kind):=X5.cell 0;have y5_1:W5.cell? ⟨wx.heap.size,1,none⟩=some (.int .i64 ((d.tapes.2 t).recs.2 i).seq):=X5.cell 1;have y5_2:W5.cell? ⟨wx.heap.size,2,none⟩=some (.string ((d.tapes.2 t).recs.2 i).name):=X5.cell 2;have y5_3:W5.cell? ⟨wx.heap.size,3,none⟩=some (.int .i64 ((d.tapes.2 t).recs.2 i).length):=X5.cell 3;have y5_4:W5.cell? ⟨wx.heap.size,4,none⟩=some (.int .i64 ((d.tapes.2 t).recs.2 i).group):=X5.cell 4;have y5_5:W5.cell? ⟨wx.heap.size,5,none⟩=some (.int .i64 ((d.tapes.2 t).recs.2 i).row):=X5.cell 5;have y5_6:W5.cell? ⟨wx.heap.size,6,none⟩=some (.slice ro6 ((d.tapes.2 t).recs.2 i).rows.1 rc6):=X5.cell 6;have y5_7:W5.cell? ⟨wx.heap.size,7,none⟩=some (.slice ro7 ((d.tapes.2 t).recs.2 i).data.1 rc7):=X5.cell 7
     have y5_8:W5.cell? ⟨wx.heap.size,8,none⟩=some (.slice ro8 ((d.tapes.2 t).recs.2 i).delta.1 rc8):=X5.cell 8;have x5_0:W5.cell? ⟨w.heap.size,0,none⟩=some (.int .i64 (d.shape 0)):=T5.b1.cell 0;have x5_1:W5.cell? ⟨w.heap.size,1,none⟩=some (.int .i64 (d.shape 1)):=T5.b1.cell 1;have x5_2:W5.cell? ⟨w.heap.size,2,none⟩=some (.int .i64 (d.shape 2)):=T5.b1.cell 2;have x5_3:W5.cell? ⟨w.heap.size,3,none⟩=some (.int .i64 (d.shape 3)):=T5.b1.cell 3;have x5_4:W5.cell? ⟨w.heap.size,4,none⟩=some (.int .i64 (d.shape 4)):=T5.b1.cell 4;have x5_5:W5.cell? ⟨w.heap.size,5,none⟩=some (.int .i64 (d.shape 5)):=T5.b1.cell 5;have x5_6:W5.cell? ⟨w.heap.size,6,none⟩=some (.int .i64 (d.shape 6)):=T5.b1.cell 6;have x5_7:W5.cell? ⟨w.heap.size,7,none⟩=some (.int .i64 (d.shape 7)):=T5.b1.cell 7;have x5_8:W5.cell? ⟨w.heap.size,8,none⟩=some (.int .i64 (d.shape 8)):=T5.b1.cell 8;have CR:=zh1 HX.out (zd0 d.shape ((d.tapes.2 t).recs.2 i) _ hi W5 (zac.rd_below HRR.out bA (by omega)) (by have:=bA.size;omega) (HNM.out t hlt i hli));unfold zak at CR;have HB5:=hid bA;clear r0 r1 r2 r3 r4 r5 r6 r7 r8 bA X5 T5 hW5
     go_wp2_with fail
     refine CR.mono ?_;rintro e w6 ⟨rfl,b6'⟩;have HB6:Hid (Below wo.heap.size wo w6):=HB4.out.trans ((HB5.out.trans (b6'.mono HB5.out.size)).mono HB4.out.size);clear b6' CR y5_0 x5_0 y5_1 x5_1 y5_2 x5_2 y5_3 x5_3 y5_4 x5_4 y5_5 x5_5 y5_6 x5_6 y5_7 x5_7 y5_8 x5_8
     by_cases hx0:X=0
     ·subst hx0
      go_wp2
      go_roundw
      case rel=>exact ⟨i+1,by omega,by go_num,fun k hk=>by
       by_cases c:k=i
       ·subst c;exact HX.out
       ·exact HAL2.out k (by omega),HB6.out⟩
      case measure=>simp [intOf];omega
     ·have hne:(X != 0)=true:=by simp [hx0]
      go_wp2;go_ret;exact ⟨X,rfl,.inr ⟨hx0,t,i,hlt,hli,HX.out,HAL2.out,HAL.out⟩,(HT1.out.call HB6.out).bel⟩
    ·obtain rfl:i=(d.tapes.2 t).recs.1:=by omega
     clear hb4;go_wp2
     go_roundw
     case rel=>exact ⟨t+1,by omega,by go_num,fun u hu=>by
      by_cases c:u=t
      ·subst c;exact HAL2.out
      ·exact HAL.out u (by omega),HT1.out.call HB4.out⟩
     case measure=>simp [intOf];omega
  ·obtain rfl:t=d.tapes.1:=by omega
   go_wp2;go_ret;exact ⟨0,rfl,.inl ⟨rfl,HAL.out⟩,HT1.out.bel⟩
set_option maxRecDepth 20000 in
theorem ze2 (d:WorldD) (cs:List Value) (hi:Nat) (w:World) (h:zae.rd w hi d cs) (hhi:hi≤w.heap.size) (hnm:∀ t,t<d.tapes.1→∀ i,i<(d.tapes.2 t).recs.1→((d.tapes.2 t).recs.2 i).name.size≤1048576) :
 Calls Tryz.prog 72 #[.agg cs.toArray] w (zcE d w):=by
 obtain ⟨ao1,cap1,ao2,cap2,ao3,cap3,rfl,g1,g2,g3,-⟩:=zaR h;have HRD:=hid h;have HG1:=hid g1;have HG3:=hid g3
 have hm3:d.tapes.1≤maxLen:=by obtain ⟨_,_,_,h,_⟩:=g3;exact h
 unfold maxLen at hm3;have HNM:=hid hnm;clear h g1 g2 g3 hnm;have T0:=zaQ w (rwW d ao1 cap1 ao2 cap2 ao3 cap3).toArray 38;have CSh:=fun w'=>zck d.shape w';unfold zak at CSh
 go_enter Tryz.func72,Tryz.ntmps72
 go_wp2_with fail
 refine (CSh _).mono ?_;rintro e w1 ⟨x,rfl,hx,b1⟩;have T1:One w w1 (rwW d ao1 cap1 ao2 cap2 ao3 cap3).toArray 38:=T0.call b1;have HT1:=hid T1;clear b1 T0 CSh;have x1_0:w1.cell? ⟨w.heap.size,0,none⟩=some (.int .i64 (d.shape 0)):=T1.b1.cell 0;have x1_1:w1.cell? ⟨w.heap.size,1,none⟩=some (.int .i64 (d.shape 1)):=T1.b1.cell 1;have x1_2:w1.cell? ⟨w.heap.size,2,none⟩=some (.int .i64 (d.shape 2)):=T1.b1.cell 2;have x1_3:w1.cell? ⟨w.heap.size,3,none⟩=some (.int .i64 (d.shape 3)):=T1.b1.cell 3;have x1_4:w1.cell? ⟨w.heap.size,4,none⟩=some (.int .i64 (d.shape 4)):=T1.b1.cell 4;have x1_5:w1.cell? ⟨w.heap.size,5,none⟩=some (.int .i64 (d.shape 5)):=T1.b1.cell 5;have x1_6:w1.cell? ⟨w.heap.size,6,none⟩=some (.int .i64 (d.shape 6)):=T1.b1.cell 6;have x1_7:w1.cell? ⟨w.heap.size,7,none⟩=some (.int .i64 (d.shape 7)):=T1.b1.cell 7;have x1_8:w1.cell? ⟨w.heap.size,8,none⟩=some (.int .i64 (d.shape 8)):=T1.b1.cell 8;have x1_9:w1.cell? ⟨w.heap.size,9,none⟩=some (.slice ao1 d.groups.1 cap1):=T1.b1.cell 9;have x1_10:w1.cell? ⟨w.heap.size,10,none⟩=some (.slice ao2 d.on.1 cap2):=T1.b1.cell 10;have x1_11:w1.cell? ⟨w.heap.size,11,none⟩=some (.slice ao3 d.tapes.1 cap3):=T1.b1.cell 11;have x1_12:w1.cell? ⟨w.heap.size,12,none⟩=some (.int .i64 d.writes):=T1.b1.cell 12;have x1_13:w1.cell? ⟨w.heap.size,13,none⟩=some (.int .i64 d.stop):=T1.b1.cell 13;have x1_14:w1.cell? ⟨w.heap.size,14,none⟩=some (.bool d.down):=T1.b1.cell 14;clear T1
 rcases hx with ⟨rfl,hno⟩ | ⟨rfl,hok⟩
 ·go_wp2
  go_ret;exact wldP rfl (Stair.fall hno) HT1.out.bel
 have HOK:=hid hok;clear hok;obtain ⟨t1,h1⟩:=exB (zcs d);have C1:=zbF (ze0 d.shape HOK.out d.groups _ hi w1 (((zab.slice 75).slice 76).rd_below HG1.out HT1.out.bel hhi) (Nat.le_trans hhi HT1.out.bel.size)) (show t1=true↔zib d.shape d.groups from h1);unfold zak at C1;have H1:=hid h1;clear h1
 go_wp2_with fail
 refine C1.mono ?_;rintro e w2 ⟨rfl,b2⟩;have T2:One w w2 (rwW d ao1 cap1 ao2 cap2 ao3 cap3).toArray 38:=HT1.out.call b2;have HT2:=hid T2;clear b2 x1_0 x1_1 x1_2 x1_3 x1_4 x1_5 x1_6 x1_7 x1_8 x1_9 x1_10 x1_11 x1_12 x1_13 x1_14;have x2_0:w2.cell? ⟨w.heap.size,0,none⟩=some (.int .i64 (d.shape 0)):=T2.b1.cell 0;have x2_1:w2.cell? ⟨w.heap.size,1,none⟩=some (.int .i64 (d.shape 1)):=T2.b1.cell 1;have x2_2:w2.cell? ⟨w.heap.size,2,none⟩=some (.int .i64 (d.shape 2)):=T2.b1.cell 2;have x2_3:w2.cell? ⟨w.heap.size,3,none⟩=some (.int .i64 (d.shape 3)):=T2.b1.cell 3;have x2_4:w2.cell? ⟨w.heap.size,4,none⟩=some (.int .i64 (d.shape 4)):=T2.b1.cell 4;have x2_5:w2.cell? ⟨w.heap.size,5,none⟩=some (.int .i64 (d.shape 5)):=T2.b1.cell 5;have x2_6:w2.cell? ⟨w.heap.size,6,none⟩=some (.int .i64 (d.shape 6)):=T2.b1.cell 6;have x2_7:w2.cell? ⟨w.heap.size,7,none⟩=some (.int .i64 (d.shape 7)):=T2.b1.cell 7;have x2_8:w2.cell? ⟨w.heap.size,8,none⟩=some (.int .i64 (d.shape 8)):=T2.b1.cell 8;have x2_9:w2.cell? ⟨w.heap.size,9,none⟩=some (.slice ao1 d.groups.1 cap1):=T2.b1.cell 9;have x2_10:w2.cell? ⟨w.heap.size,10,none⟩=some (.slice ao2 d.on.1 cap2):=T2.b1.cell 10;have x2_11:w2.cell? ⟨w.heap.size,11,none⟩=some (.slice ao3 d.tapes.1 cap3):=T2.b1.cell 11;have x2_12:w2.cell? ⟨w.heap.size,12,none⟩=some (.int .i64 d.writes):=T2.b1.cell 12;have x2_13:w2.cell? ⟨w.heap.size,13,none⟩=some (.int .i64 d.stop):=T2.b1.cell 13;have x2_14:w2.cell? ⟨w.heap.size,14,none⟩=some (.bool d.down):=T2.b1.cell 14;clear T2;clear C1
 cases t1 with
 | false=>
  go_wp2;go_ret;exact wldP rfl (Stair.pass HOK.out (Stair.fall (fun h=>by have:=H1.out.2 h.1;simp at this))) HT2.out.bel
 | true=>
 have HB:Hid (zcs d):=H1.out.1 rfl;clear H1;obtain ⟨t2,h2⟩:=exB (OnP d);have C2:=zbF (zhB d HOK.out _ hi w2 (zae.rd_below HRD.out HT2.out.bel hhi) (Nat.le_trans hhi HT2.out.bel.size)) h2;have H2:=hid h2;clear h2
 go_wp2_with fail
 refine C2.mono ?_;rintro e w3 ⟨rfl,b3⟩;have T3:One w w3 (rwW d ao1 cap1 ao2 cap2 ao3 cap3).toArray 38:=HT2.out.call b3;have HT3:=hid T3;clear b3 x2_0 x2_1 x2_2 x2_3 x2_4 x2_5 x2_6 x2_7 x2_8 x2_9 x2_10 x2_11 x2_12 x2_13 x2_14;have x3_0:w3.cell? ⟨w.heap.size,0,none⟩=some (.int .i64 (d.shape 0)):=T3.b1.cell 0;have x3_1:w3.cell? ⟨w.heap.size,1,none⟩=some (.int .i64 (d.shape 1)):=T3.b1.cell 1;have x3_2:w3.cell? ⟨w.heap.size,2,none⟩=some (.int .i64 (d.shape 2)):=T3.b1.cell 2;have x3_3:w3.cell? ⟨w.heap.size,3,none⟩=some (.int .i64 (d.shape 3)):=T3.b1.cell 3;have x3_4:w3.cell? ⟨w.heap.size,4,none⟩=some (.int .i64 (d.shape 4)):=T3.b1.cell 4;have x3_5:w3.cell? ⟨w.heap.size,5,none⟩=some (.int .i64 (d.shape 5)):=T3.b1.cell 5;have x3_6:w3.cell? ⟨w.heap.size,6,none⟩=some (.int .i64 (d.shape 6)):=T3.b1.cell 6;have x3_7:w3.cell? ⟨w.heap.size,7,none⟩=some (.int .i64 (d.shape 7)):=T3.b1.cell 7;have x3_8:w3.cell? ⟨w.heap.size,8,none⟩=some (.int .i64 (d.shape 8)):=T3.b1.cell 8;have x3_9:w3.cell? ⟨w.heap.size,9,none⟩=some (.slice ao1 d.groups.1 cap1):=T3.b1.cell 9;have x3_10:w3.cell? ⟨w.heap.size,10,none⟩=some (.slice ao2 d.on.1 cap2):=T3.b1.cell 10;have x3_11:w3.cell? ⟨w.heap.size,11,none⟩=some (.slice ao3 d.tapes.1 cap3):=T3.b1.cell 11;have x3_12:w3.cell? ⟨w.heap.size,12,none⟩=some (.int .i64 d.writes):=T3.b1.cell 12;have x3_13:w3.cell? ⟨w.heap.size,13,none⟩=some (.int .i64 d.stop):=T3.b1.cell 13;have x3_14:w3.cell? ⟨w.heap.size,14,none⟩=some (.bool d.down):=T3.b1.cell 14;clear T3;clear C2
 cases t2 with
 | false=>
  go_wp2;go_ret;exact wldP rfl (Stair.pass HOK.out (Stair.fall (fun h=>by have:=H2.out.2 h.2.1;simp at this))) HT3.out.bel
 | true=>
 have HO:Hid (OnP d):=H2.out.1 rfl;clear H2
 by_cases h5:d.tapes.1=2
 ·have n5:((d.tapes.1:Int) != 2)=false:=by simp;omega
  have HFM:Hid (zcg d):=⟨HB.out,HO.out,h5⟩;clear h5;obtain ⟨t4,h4⟩:=exB (zbw d.tapes);have C4:=zbF (zdl d.tapes _ _ hi w3 ((zag.slice 100).rd_below HG3.out HT3.out.bel hhi) (Nat.le_trans hhi HT3.out.bel.size)) h4;have H4:=hid h4;clear h4
  go_wp2_with fail
  refine C4.mono ?_;rintro e w4 ⟨rfl,b4⟩;have T4:One w w4 (rwW d ao1 cap1 ao2 cap2 ao3 cap3).toArray 38:=HT3.out.call b4;have HT4:=hid T4;clear b4 x3_0 x3_1 x3_2 x3_3 x3_4 x3_5 x3_6 x3_7 x3_8 x3_9 x3_10 x3_11 x3_12 x3_13 x3_14;have x4_0:w4.cell? ⟨w.heap.size,0,none⟩=some (.int .i64 (d.shape 0)):=T4.b1.cell 0;have x4_1:w4.cell? ⟨w.heap.size,1,none⟩=some (.int .i64 (d.shape 1)):=T4.b1.cell 1;have x4_2:w4.cell? ⟨w.heap.size,2,none⟩=some (.int .i64 (d.shape 2)):=T4.b1.cell 2;have x4_3:w4.cell? ⟨w.heap.size,3,none⟩=some (.int .i64 (d.shape 3)):=T4.b1.cell 3;have x4_4:w4.cell? ⟨w.heap.size,4,none⟩=some (.int .i64 (d.shape 4)):=T4.b1.cell 4;have x4_5:w4.cell? ⟨w.heap.size,5,none⟩=some (.int .i64 (d.shape 5)):=T4.b1.cell 5;have x4_6:w4.cell? ⟨w.heap.size,6,none⟩=some (.int .i64 (d.shape 6)):=T4.b1.cell 6;have x4_7:w4.cell? ⟨w.heap.size,7,none⟩=some (.int .i64 (d.shape 7)):=T4.b1.cell 7;have x4_8:w4.cell? ⟨w.heap.size,8,none⟩=some (.int .i64 (d.shape 8)):=T4.b1.cell 8;have x4_9:w4.cell? ⟨w.heap.size,9,none⟩=some (.slice ao1 d.groups.1 cap1):=T4.b1.cell 9;have x4_10:w4.cell? ⟨w.heap.size,10,none⟩=some (.slice ao2 d.on.1 cap2):=T4.b1.cell 10;have x4_11:w4.cell? ⟨w.heap.size,11,none⟩=some (.slice ao3 d.tapes.1 cap3):=T4.b1.cell 11;have x4_12:w4.cell? ⟨w.heap.size,12,none⟩=some (.int .i64 d.writes):=T4.b1.cell 12;have x4_13:w4.cell? ⟨w.heap.size,13,none⟩=some (.int .i64 d.stop):=T4.b1.cell 13;have x4_14:w4.cell? ⟨w.heap.size,14,none⟩=some (.bool d.down):=T4.b1.cell 14;clear T4;clear C4
  cases t4 with
  | true=>
   go_wp2;go_ret
   exact wldP rfl (Stair.pass HOK.out (Stair.pass HFM.out (Stair.fall (fun h=>by
    obtain ⟨t,ht,hh⟩:=H4.out.1 (by simp);have:=h t ht
    omega)))) HT4.out.bel
  | false=>
  have HFW:Hid (FewP d):=fun t ht=>by
   by_cases c:200<(d.tapes.2 t).recs.1
   ·have:=H4.out.2 ⟨t,ht,c⟩
    simp at this
   ·omega
  clear H4;have C5:=ze1 d _ hi w4 (zae.rd_below HRD.out HT4.out.bel hhi) (Nat.le_trans hhi HT4.out.bel.size) HNM.out
  go_wp2_with fail
  refine C5.mono ?_;rintro e w5 ⟨X,rfl,hX,b5⟩;have T5:One w w5 (rwW d ao1 cap1 ao2 cap2 ao3 cap3).toArray 38:=HT4.out.call b5;have HT5:=hid T5;clear b5 x4_0 x4_1 x4_2 x4_3 x4_4 x4_5 x4_6 x4_7 x4_8 x4_9 x4_10 x4_11 x4_12 x4_13 x4_14;have x5_0:w5.cell? ⟨w.heap.size,0,none⟩=some (.int .i64 (d.shape 0)):=T5.b1.cell 0;have x5_1:w5.cell? ⟨w.heap.size,1,none⟩=some (.int .i64 (d.shape 1)):=T5.b1.cell 1;have x5_2:w5.cell? ⟨w.heap.size,2,none⟩=some (.int .i64 (d.shape 2)):=T5.b1.cell 2;have x5_3:w5.cell? ⟨w.heap.size,3,none⟩=some (.int .i64 (d.shape 3)):=T5.b1.cell 3;have x5_4:w5.cell? ⟨w.heap.size,4,none⟩=some (.int .i64 (d.shape 4)):=T5.b1.cell 4;have x5_5:w5.cell? ⟨w.heap.size,5,none⟩=some (.int .i64 (d.shape 5)):=T5.b1.cell 5;have x5_6:w5.cell? ⟨w.heap.size,6,none⟩=some (.int .i64 (d.shape 6)):=T5.b1.cell 6;have x5_7:w5.cell? ⟨w.heap.size,7,none⟩=some (.int .i64 (d.shape 7)):=T5.b1.cell 7;have x5_8:w5.cell? ⟨w.heap.size,8,none⟩=some (.int .i64 (d.shape 8)):=T5.b1.cell 8;have x5_9:w5.cell? ⟨w.heap.size,9,none⟩=some (.slice ao1 d.groups.1 cap1):=T5.b1.cell 9;have x5_10:w5.cell? ⟨w.heap.size,10,none⟩=some (.slice ao2 d.on.1 cap2):=T5.b1.cell 10;have x5_11:w5.cell? ⟨w.heap.size,11,none⟩=some (.slice ao3 d.tapes.1 cap3):=T5.b1.cell 11;have x5_12:w5.cell? ⟨w.heap.size,12,none⟩=some (.int .i64 d.writes):=T5.b1.cell 12;have x5_13:w5.cell? ⟨w.heap.size,13,none⟩=some (.int .i64 d.stop):=T5.b1.cell 13;have x5_14:w5.cell? ⟨w.heap.size,14,none⟩=some (.bool d.down):=T5.b1.cell 14;clear T5;clear C5
  by_cases hx0:X=0
  ·subst hx0
   have HRZ:=hid hX;clear hX;obtain ⟨t6,h6⟩:=exB (zaX d.tapes);have C6:=zbF (zcu d.tapes _ _ hi w5 ((zag.slice 100).rd_below HG3.out HT5.out.bel hhi) (Nat.le_trans hhi HT5.out.bel.size)) h6;have H6:=hid h6;clear h6
   go_wp2_with fail
   refine C6.mono ?_;rintro e w6 ⟨rfl,b6⟩;have T6:One w w6 (rwW d ao1 cap1 ao2 cap2 ao3 cap3).toArray 38:=HT5.out.call b6;have HT6:=hid T6;clear b6 x5_0 x5_1 x5_2 x5_3 x5_4 x5_5 x5_6 x5_7 x5_8 x5_9 x5_10 x5_11 x5_12 x5_13 x5_14;have x6_0:w6.cell? ⟨w.heap.size,0,none⟩=some (.int .i64 (d.shape 0)):=T6.b1.cell 0;have x6_1:w6.cell? ⟨w.heap.size,1,none⟩=some (.int .i64 (d.shape 1)):=T6.b1.cell 1;have x6_2:w6.cell? ⟨w.heap.size,2,none⟩=some (.int .i64 (d.shape 2)):=T6.b1.cell 2;have x6_3:w6.cell? ⟨w.heap.size,3,none⟩=some (.int .i64 (d.shape 3)):=T6.b1.cell 3;have x6_4:w6.cell? ⟨w.heap.size,4,none⟩=some (.int .i64 (d.shape 4)):=T6.b1.cell 4;have x6_5:w6.cell? ⟨w.heap.size,5,none⟩=some (.int .i64 (d.shape 5)):=T6.b1.cell 5;have x6_6:w6.cell? ⟨w.heap.size,6,none⟩=some (.int .i64 (d.shape 6)):=T6.b1.cell 6;have x6_7:w6.cell? ⟨w.heap.size,7,none⟩=some (.int .i64 (d.shape 7)):=T6.b1.cell 7;have x6_8:w6.cell? ⟨w.heap.size,8,none⟩=some (.int .i64 (d.shape 8)):=T6.b1.cell 8;have x6_9:w6.cell? ⟨w.heap.size,9,none⟩=some (.slice ao1 d.groups.1 cap1):=T6.b1.cell 9;have x6_10:w6.cell? ⟨w.heap.size,10,none⟩=some (.slice ao2 d.on.1 cap2):=T6.b1.cell 10;have x6_11:w6.cell? ⟨w.heap.size,11,none⟩=some (.slice ao3 d.tapes.1 cap3):=T6.b1.cell 11;have x6_12:w6.cell? ⟨w.heap.size,12,none⟩=some (.int .i64 d.writes):=T6.b1.cell 12;have x6_13:w6.cell? ⟨w.heap.size,13,none⟩=some (.int .i64 d.stop):=T6.b1.cell 13;have x6_14:w6.cell? ⟨w.heap.size,14,none⟩=some (.bool d.down):=T6.b1.cell 14;clear T6;clear C6
   cases t6 with
   | true=>
    go_wp2;go_ret;exact wldP rfl (Stair.pass HOK.out (Stair.pass HFM.out (Stair.pass HFW.out (Stair.last (.inr ⟨HRZ.out,Stair.fall (fun h=>by obtain ⟨t,ht,h1,h2⟩:=H6.out.1 (by simp);have:=h t ht h1;omega)⟩))))) HT6.out.bel
   | false=>
   have HCL:Hid (zg1 d):=fun t ht hw=>by
    by_cases c:0<(d.tapes.2 t).recs.1
    ·have:=H6.out.2 ⟨t,ht,hw,c⟩
     simp at this
    ·omega
   clear H6
   by_cases h7:InP d.writes 0 1000000000
   ·go_wp2_with fail
    refine (zaV (t:=true) (by omega) (exBT h7) _).mono ?_;rintro e w' ⟨rfl,hw'⟩;obtain rfl:=hw'.symm
    by_cases h8:InP d.stop (-1) 1000000000
    ·go_wp2_with fail
     refine (zaV (t:=true) (by omega) (exBT h8) _).mono ?_;rintro e w' ⟨rfl,hw'⟩;obtain rfl:=hw'.symm;go_wp2;go_ret;exact wldP rfl (Stair.pass HOK.out (Stair.pass HFM.out (Stair.pass HFW.out (Stair.last (.inr ⟨HRZ.out,Stair.pass HCL.out (Stair.pass ⟨h7,h8⟩ (Stair.last rfl))⟩))))) HT6.out.bel
    ·go_wp2_with fail
     refine (zaV (t:=false) (by omega) (exBF h8) _).mono ?_;rintro e w' ⟨rfl,hw'⟩;obtain rfl:=hw'.symm;go_wp2;go_ret;exact wldP rfl (Stair.pass HOK.out (Stair.pass HFM.out (Stair.pass HFW.out (Stair.last (.inr ⟨HRZ.out,Stair.pass HCL.out (Stair.fall (fun h=>h8 h.2))⟩))))) HT6.out.bel
   ·go_wp2_with fail
    refine (zaV (t:=false) (by omega) (exBF h7) _).mono ?_;rintro e w' ⟨rfl,hw'⟩;obtain rfl:=hw'.symm;go_wp2;go_ret;exact wldP rfl (Stair.pass HOK.out (Stair.pass HFM.out (Stair.pass HFW.out (Stair.last (.inr ⟨HRZ.out,Stair.pass HCL.out (Stair.fall (fun h=>h7 h.1))⟩))))) HT6.out.bel
  ·have hne:(X != 0)=true:=by simp [hx0]
   go_wp2;go_ret;exact wldP rfl (Stair.pass HOK.out (Stair.pass HFM.out (Stair.pass HFW.out (Stair.last (.inl ⟨hx0,hX⟩))))) HT5.out.bel
 ·have n5:((d.tapes.1:Int) != 2)=true:=by simp;omega
  go_wp2;go_ret;exact wldP rfl (Stair.pass HOK.out (Stair.fall (fun h=>h5 h.2.2))) HT3.out.bel
theorem zgE {w:World} {hi:Nat} {d:WorldD} {cs:List Value} (h:zae.rd w hi d cs):∃ v0 v1 v2 v3 v4 v5 v6 v7 v8 vp0 vl0 vq0 vp1 vl1 vq1 vp2 vl2 vq2 v9 v10 vb,cs=[.int .i64 v0,.int .i64 v1,.int .i64 v2,.int .i64 v3,.int .i64 v4,.int .i64 v5,.int .i64 v6,.int .i64 v7,.int .i64 v8,.slice vp0 vl0 vq0,.slice vp1 vl1 vq1,.slice vp2 vl2 vq2,.int .i64 v9,.int .i64 v10,.bool vb]:=by
 obtain ⟨p1,pc1,p2,pc2,p3,pc3,rfl,-⟩:=zaR h;exact ⟨_,_,_,_,_,_,_,_,_,_,_,_,_,_,_,_,_,_,_,_,_,rfl⟩
theorem zg6 {w:World} {lo hi:Nat} {d:WorldD} {cs:List Value} (h:OwnT zae w lo hi d cs):∃ v0 v1 v2 v3 v4 v5 v6 v7 v8 vp0 vl0 vq0 vp1 vl1 vq1 vp2 vl2 vq2 v9 v10 vb,cs=[.int .i64 v0,.int .i64 v1,.int .i64 v2,.int .i64 v3,.int .i64 v4,.int .i64 v5,.int .i64 v6,.int .i64 v7,.int .i64 v8,.slice vp0 vl0 vq0,.slice vp1 vl1 vq1,.slice vp2 vl2 vq2,.int .i64 v9,.int .i64 v10,.bool vb]:=zgE h.rd
def cutW (d:WorldD):WorldD:={ d with on:=(0,fun _=>0),down:=true }
theorem ziV {w:World} {lo hi:Nat} {d:WorldD} {c0 c1 c2 c3 c4 c5 c6 c7 c8 c9 c10 c11 c12 c13 c14:Value} (h:OwnT zae w lo hi d [c0,c1,c2,c3,c4,c5,c6,c7,c8,c9,c10,c11,c12,c13,c14]):OwnT zae w lo hi (cutW d) [c0,c1,c2,c3,c4,c5,c6,c7,c8,c9,.slice none 0 0,c11,c12,c13,.bool true]:=by
 obtain ⟨M,h1,h2,h3⟩:=h;obtain ⟨a1,b1,a2,b2,a3,b3,K1,K2,K3,e,hM,o1,o2,o3,k0,k4,k5⟩:=zbn h1
 simp only [List.cons.injEq,and_true] at e
 obtain ⟨rfl,rfl,rfl,rfl,rfl,rfl,rfl,rfl,rfl,rfl,rfl,rfl,rfl,rfl,rfl⟩:=e;subst hM;refine ⟨K1++([]++(K3++[])),zcf (cutW d) o1 (zdj w _ (fun _=>show (-9223372036854775808≤(0:Int)∧(0:Int)≤9223372036854775807) by decide)) o3 k0 k4 k5,?_,fun b hb=>h3 b ?_⟩
 ·obtain ⟨n1,n2,n3⟩:=List.nodup_append.1 h2
  obtain ⟨_,n4,_⟩:=List.nodup_append.1 n2;exact List.nodup_append.2 ⟨n1,n4,fun b hb c hc=>n3 b hb c (List.mem_append_right _ hc)⟩
 ·rcases List.mem_append.1 hb with h | h
  ·exact List.mem_append_left _ h
  ·exact List.mem_append_right _ (List.mem_append_right _ h)
theorem zdB {K:Int→Prop}:∀ (l:List (Prop×Int)) {x:Int},Stair l K x→K x∨∃ p,p∈l∧x=p.2
 | [],x,h=>.inl h
 | (p,c)::l,x,h=>by
  rcases h with ⟨_,h⟩ | ⟨_,h⟩
  ·exact .inr ⟨(p,c),List.mem_cons_self ..,h⟩
  ·rcases zdB l h with k | ⟨q,hq,k⟩
   ·exact .inl k
   ·exact .inr ⟨q,List.mem_cons_of_mem _ hq,k⟩
theorem zfM {s:Nat→Int} {r:RecD} {x:Int} (h:RecAns s r x):0≤x∧x≤9:=by
 rcases zdB _ h with k | ⟨p,hp,rfl⟩
 ·rw [show x=0 from k];decide
 ·simp at hp
  rcases hp with rfl | rfl | rfl | rfl | rfl | rfl<;>constructor<;>simp
theorem zid {d:WorldD} {x:Int} (h:WldAns d x):(-9223372036854775808≤x∧x≤9223372036854775807):=by
 have key:0≤x∧x≤9:=by
  rcases zdB _ h with k | ⟨p,hp,rfl⟩
  ·rcases k with ⟨_,k⟩ | ⟨_,k⟩
   ·rcases k with ⟨rfl,_⟩ | ⟨_,t,i,_,_,hr,_⟩
    ·decide
    ·exact zfM hr
   ·rcases zdB _ k with k | ⟨p,hp,rfl⟩
    ·rw [show x=0 from k];decide
    ·simp at hp
     rcases hp with rfl | rfl<;>constructor<;>simp
  ·simp at hp
   rcases hp with rfl | rfl | rfl<;>constructor<;>simp
 omega
theorem zds {d:WorldD} (h:zaS d≤1048576):∀ t,t<d.tapes.1→∀ i,i<(d.tapes.2 t).recs.1→((d.tapes.2 t).recs.2 i).name.size≤1048576:=fun t ht i hi=>by
 have h1:szSl zaN d.tapes≤1048576:=by unfold zaS at h;omega
 have h2:szSl zaH (d.tapes.2 t).recs≤1048576:=zbf h1 ht;have h3:zaH ((d.tapes.2 t).recs.2 i)≤1048576:=zbf h2 hi;unfold zaH at h3;omega
structure Turn {α:Type} (A:Lay α) (w:World) (K:List Nat) (w':World) (a:α) (cs:List Value) (K':List Nat):Prop where
 own:A.own w' a cs K'
 nd:K'.Nodup
 sub:∀ b,b∈K'→b∈K∨(w.heap.size≤b∧b<w'.heap.size)
 chg:ChgL K w w'
theorem zhC {n:Nat} {F:Nat→List Nat} (h1:∀ k,k<n→(F k).Nodup) (h2:∀ k j,k<n→j<n→k≠j→∀ b,b∈F k→b∉F j):(catN n F).Nodup:=by
 induction n with
 | zero=>simp [catN]
 | succ n ih=>
  rw [za7];refine List.nodup_append.2 ⟨ih (fun k hk=>h1 k (by omega)) (fun k j hk hj=>h2 k j (by omega) (by omega)),h1 n (by omega),fun b hb c hc hh=>?_⟩;subst hh;obtain ⟨k,hk,hbk⟩:=zaA.1 hb;exact h2 k n (by omega) (by omega) (by omega) b hbk hc
theorem zd1 {n:Nat} {F:Nat→List Nat} (h:(catN n F).Nodup) {k:Nat} (hk:k<n):(F k).Nodup:=by
 induction n with
 | zero=>omega
 | succ n ih=>
  rw [za7] at h;obtain ⟨h1,h2,_⟩:=List.nodup_append.1 h
  by_cases c:k=n
  ·subst c;exact h2
  ·exact ih h1 (by omega)
section
variable {α:Type} {E:Lay α} {t:TypeId} {w w':World} {g cap n:Nat} {x:Nat→α} {ce:Nat→List Value} {Ls:Nat→List Nat}
theorem ziy {i:Nat} (hi:i<n) {K':List Nat} {N M:Nat} (nd:(g::catN n Ls).Nodup) (hN:∀ b,b∈g::catN n Ls→b<N) (hn:K'.Nodup) (hs:∀ b,b∈K'→b∈Ls i∨(N≤b∧b<M)):(g::catN n (upd Ls i K')).Nodup:=by
 obtain ⟨n1,n2⟩:=List.nodup_cons.1 nd
 have ne:∀ k,k<n→k≠i→∀ b,b∈Ls k→b∉K':=fun k hk hne b hb hbK=>by
  rcases hs b hbK with h | h
  ·exact zcZ n2 hi hk hne hb h
  ·have:=hN b (List.mem_cons_of_mem _ (zaA.2 ⟨k,hk,hb⟩));omega
 refine List.nodup_cons.2 ⟨fun hg=>?_,zhC (fun k hk=>?_) (fun k j hk hj hne b hb=>?_)⟩
 ·obtain ⟨k,hk,hb⟩:=zaA.1 hg
  by_cases c:k=i
  ·subst c
   rw [zaU] at hb
   rcases hs g hb with h | h
   ·exact n1 (zaA.2 ⟨k,hk,h⟩)
   ·have:=hN g (List.mem_cons_self ..);omega
  ·rw [zaW Ls K' c] at hb
   exact n1 (zaA.2 ⟨k,hk,hb⟩)
 ·by_cases c:k=i
  ·subst c;rw [zaU];exact hn
  ·rw [zaW Ls K' c];exact zd1 n2 hk
 ·by_cases c:k=i
  ·subst c
   rw [zaU] at hb;rw [zaW Ls K' (fun h=>hne h.symm)];exact fun hbj=>ne j hj (fun h=>hne h.symm) b hbj hb
  ·rw [zaW Ls K' c] at hb
   by_cases c2:j=i
   ·subst c2
    rw [zaU];exact ne k hk c b hb
   ·rw [zaW Ls K' c2]
    exact zcZ n2 hj hk hne hb
theorem ziW {i:Nat} (hi:i<n) {K':List Nat} {N M:Nat} (hs:∀ b,b∈K'→b∈Ls i∨(N≤b∧b<M)):∀ b,b∈g::catN n (upd Ls i K')→b∈g::catN n Ls∨(N≤b∧b<M):=fun b hb=>by
 rcases List.mem_cons.1 hb with rfl | hb
 ·exact .inl (List.mem_cons_self ..)
 ·obtain ⟨k,hk,hb⟩:=zaA.1 hb
  by_cases c:k=i
  ·subst c
   rw [zaU] at hb
   rcases hs b hb with h | h
   ·exact .inl (List.mem_cons_of_mem _ (zaA.2 ⟨k,hk,h⟩))
   ·exact .inr h
  ·rw [zaW Ls K' c] at hb
   exact .inl (List.mem_cons_of_mem _ (zaA.2 ⟨k,hk,hb⟩))
theorem SlO.turn_at {w1:World} (h:SlO E t w g cap n x ce Ls) (nd:(g::catN n Ls).Nodup) {i:Nat} (hi:i<n) {a':α} {cs':List Value} {K':List Nat} (ht:Turn E w (Ls i) w1 a' cs' K') (hw:w'=Go.Proofs.YtonemlgejkapbaaGreat.stN w1 g (i*E.sz) cs') :
 Turn (E.slice t) w (g::catN n Ls) w' (n,upd x i a') [.slice (some ⟨g,0,none⟩) n cap] (g::catN n (upd Ls i K')):=by
 subst hw;have hgi:g∉Ls i:=fun hb=>(List.nodup_cons.1 nd).1 (zaA.2 ⟨i,hi,hb⟩);have nd':=ziy (g:=g) hi nd h.mem_lt ht.nd ht.sub;have hcs:=E.own_len ht.own
 have row1:w1.ownsRow 0 t E.sz (.slice (some ⟨g,0,none⟩) n cap) n (catN n ce):=by
  refine ⟨h.row.1,?_⟩
  rcases h.row.2 with ⟨hn,_⟩ | ⟨g',cap',cur,he,hbg,hgg,rest⟩
  ·cases hn
  ·cases he
   exact .inr ⟨g,cap,cur,rfl,hbg,(ht.chg.block g h.lt hgi).trans hgg,rest⟩
 have hgK:∀ b,b∈catN n (upd Ls i K')→b≠g:=fun b hb hh=>by
  subst hh;exact (List.nodup_cons.1 nd').1 hb
 have hO:SlO E t (Go.Proofs.YtonemlgejkapbaaGreat.stN w1 g (i*E.sz) cs') g cap n (upd x i a') (upd ce i cs') (upd Ls i K'):=by
  refine ⟨?_,fun k hk=>?_⟩
  ·have:=zf6 cs' w1 (i*E.sz) _ row1
   rw [zff h.lens hi hcs] at this;exact this
  ·have own1:E.own w1 (upd x i a' k) (upd ce i cs' k) (upd Ls i K' k):=by
    by_cases c:k=i
    ·subst c;rw [zaU,zaU,zaU];exact ht.own
    ·rw [zaW x a' c,zaW ce cs' c,zaW Ls K' c]
     exact E.own_chgL (h.each k hk) ht.chg (fun b hb=>zcZ (List.nodup_cons.1 nd).2 hi hk c hb)
   exact E.own_kept own1 (fun b hb=>zbz g b (hgK b (zaA.2 ⟨k,hk,hb⟩)) cs' w1 _)
 have c1:ChgL (g::catN n Ls) w w1:=ht.chg.mono (SlO.sub i hi);refine ⟨hO.own,nd',fun b hb=>?_,?_⟩
 ·rw [zbp];exact ziW hi ht.sub b hb
 ·exact c1.trans ⟨(za3 g cs' w1 _).1,(za3 g cs' w1 _).2.1,(za3 g cs' w1 _).2.2,Nat.le_of_eq (zbp g cs' w1 _).symm,fun b _ hb=>zbz g b (fun hh=>hb (by rw [hh];exact List.mem_cons_self ..)) cs' w1 _⟩
end
structure WOpen (w:World) (lo hi:Nat) (d:WorldD) (v1 v2 v3:Value) (K1 K2 K3:List Nat):Prop where
 g:((zab.slice 75).slice 76).own w d.groups [v1] K1
 o:zai.own w d.on [v2] K2
 t:(zag.slice 100).own w d.tapes [v3] K3
 nd:(K1++(K2++K3)).Nodup
 inn:∀ b,b∈K1++(K2++K3)→lo≤b∧b<hi
 k0:∀ i,-9223372036854775808≤d.shape i∧d.shape i≤9223372036854775807
 k4:-9223372036854775808≤d.writes∧d.writes≤9223372036854775807
 k5:-9223372036854775808≤d.stop∧d.stop≤9223372036854775807
theorem zhD {w:World} {lo hi:Nat} {d:WorldD} {cs:List Value} (h:OwnT zae w lo hi d cs):∃ p1 c1 p2 c2 p3 c3 K1 K2 K3,cs=[.int .i64 (d.shape 0),.int .i64 (d.shape 1),.int .i64 (d.shape 2),.int .i64 (d.shape 3),.int .i64 (d.shape 4),.int .i64 (d.shape 5),.int .i64 (d.shape 6),.int .i64 (d.shape 7),.int .i64 (d.shape 8),.slice p1 d.groups.1 c1,.slice p2 d.on.1 c2,.slice p3 d.tapes.1 c3,.int .i64 d.writes,.int .i64 d.stop,.bool d.down]∧WOpen w lo hi d (.slice p1 d.groups.1 c1) (.slice p2 d.on.1 c2) (.slice p3 d.tapes.1 c3) K1 K2 K3:=by
 obtain ⟨M,h1,h2,h3⟩:=h;obtain ⟨a1,b1,a2,b2,a3,b3,K1,K2,K3,e,hM,o1,o2,o3,k0,k4,k5⟩:=zbn h1;subst hM
 simp only [List.append_nil] at h2 h3
 exact ⟨a1,b1,a2,b2,a3,b3,K1,K2,K3,e,o1,o2,o3,h2,h3,k0,k4,k5⟩
theorem WOpen.own {w:World} {lo hi:Nat} {d:WorldD} {p1 p2 p3:Option Addr} {c1 c2 c3:Nat} {K1 K2 K3:List Nat} (h:WOpen w lo hi d (.slice p1 d.groups.1 c1) (.slice p2 d.on.1 c2) (.slice p3 d.tapes.1 c3) K1 K2 K3):OwnT zae w lo hi d [.int .i64 (d.shape 0),.int .i64 (d.shape 1),.int .i64 (d.shape 2),.int .i64 (d.shape 3),.int .i64 (d.shape 4),.int .i64 (d.shape 5),.int .i64 (d.shape 6),.int .i64 (d.shape 7),.int .i64 (d.shape 8),.slice p1 d.groups.1 c1,.slice p2 d.on.1 c2,.slice p3 d.tapes.1 c3,.int .i64 d.writes,.int .i64 d.stop,.bool d.down]:=
 ⟨K1++(K2++(K3++[])),zcf d h.g h.o h.t h.k0 h.k4 h.k5,by simpa using h.nd,by simpa using h.inn⟩
theorem zfN {A B C B':List Nat} {N M:Nat} (nd:(A++(B++C)).Nodup) (hN:∀ b,b∈A++(B++C)→b<N) (hn:B'.Nodup) (hs:∀ b,b∈B'→b∈B∨(N≤b∧b<M)):(A++(B'++C)).Nodup:=by
 obtain ⟨a1,a2,a3⟩:=List.nodup_append.1 nd;obtain ⟨b1,b2,b3⟩:=List.nodup_append.1 a2;refine List.nodup_append.2 ⟨a1,List.nodup_append.2 ⟨hn,b2,fun b hb c hc hh=>?_⟩,fun b hb c hc hh=>?_⟩
 ·subst hh
  rcases hs b hb with h | h
  ·exact b3 b h b hc rfl
  ·have:=hN b (List.mem_append_right _ (List.mem_append_right _ hc));omega
 ·subst hh
  rcases List.mem_append.1 hc with hc | hc
  ·rcases hs b hc with h | h
   ·exact a3 b hb b (List.mem_append_left _ h) rfl
   ·have:=hN b (List.mem_append_left _ hb);omega
  ·exact a3 b hb b (List.mem_append_right _ hc) rfl
section
variable {w w':World} {lo hi:Nat} {d:WorldD} {v1 v2 v3:Value} {K1 K2 K3:List Nat}
theorem WOpen.ap12 (h:WOpen w lo hi d v1 v2 v3 K1 K2 K3) {b:Nat} (hb:b∈K1):b∉K2:=fun h2=>(List.nodup_append.1 h.nd).2.2 b hb b (List.mem_append_left _ h2) rfl
theorem WOpen.ap13 (h:WOpen w lo hi d v1 v2 v3 K1 K2 K3) {b:Nat} (hb:b∈K1):b∉K3:=fun h2=>(List.nodup_append.1 h.nd).2.2 b hb b (List.mem_append_right _ h2) rfl
theorem WOpen.ap23 (h:WOpen w lo hi d v1 v2 v3 K1 K2 K3) {b:Nat} (hb:b∈K2):b∉K3:=fun h2=>(List.nodup_append.1 (List.nodup_append.1 h.nd).2.1).2.2 b hb b h2 rfl
theorem WOpen.on (h:WOpen w lo hi d v1 v2 v3 K1 K2 K3) (hhi:hi≤w.heap.size) (hlo:lo≤w.heap.size) {o':Nat×(Nat→Int)} {v':Value} {K':List Nat} (ht:Turn zai w K2 w' o' [v'] K'):WOpen w' lo w'.heap.size { d with on:=o' } v1 v' v3 K1 K' K3:=by
 have hN:∀ b,b∈K1++(K2++K3)→b<w.heap.size:=fun b hb=>by have:=(h.inn b hb).2;omega
 refine ⟨Lay.own_chgL _ h.g ht.chg (fun b hb=>h.ap12 hb),ht.own,Lay.own_chgL _ h.t ht.chg (fun b hb hb2=>h.ap23 hb2 hb),zfN h.nd hN ht.nd ht.sub,fun b hb=>?_,h.k0,h.k4,h.k5⟩;have hz:=ht.chg.size
 rcases List.mem_append.1 hb with hb | hb
 ·have:=h.inn b (List.mem_append_left _ hb);omega
 ·rcases List.mem_append.1 hb with hb | hb
  ·rcases ht.sub b hb with hb | hb
   ·have:=h.inn b (List.mem_append_right _ (List.mem_append_left _ hb));omega
   ·omega
  ·have:=h.inn b (List.mem_append_right _ (List.mem_append_right _ hb));omega
theorem WOpen.tapes (h:WOpen w lo hi d v1 v2 v3 K1 K2 K3) (hhi:hi≤w.heap.size) (hlo:lo≤w.heap.size) {o':Nat×(Nat→TapeD)} {v':Value} {K':List Nat} (ht:Turn (zag.slice 100) w K3 w' o' [v'] K'):WOpen w' lo w'.heap.size { d with tapes:=o' } v1 v2 v' K1 K2 K':=by
 have hN:∀ b,b∈(K1++K2)++(K3++[])→b<w.heap.size:=fun b hb=>by have:=(h.inn b (by simpa using hb)).2;omega
 have hnd:((K1++K2)++(K3++[])).Nodup:=by simpa using h.nd
 have n2:=zfN hnd hN ht.nd ht.sub;refine ⟨Lay.own_chgL _ h.g ht.chg (fun b hb=>h.ap13 hb),Lay.own_chgL _ h.o ht.chg (fun b hb=>h.ap23 hb),ht.own,by simpa using n2,fun b hb=>?_,h.k0,h.k4,h.k5⟩;have hz:=ht.chg.size
 rcases List.mem_append.1 hb with hb | hb
 ·have:=h.inn b (List.mem_append_left _ hb);omega
 ·rcases List.mem_append.1 hb with hb | hb
  ·have:=h.inn b (List.mem_append_right _ (List.mem_append_left _ hb));omega
  ·rcases ht.sub b hb with hb | hb
   ·have:=h.inn b (List.mem_append_right _ (List.mem_append_right _ hb));omega
   ·omega
theorem WOpen.below (h:WOpen w lo hi d v1 v2 v3 K1 K2 K3) {B:Nat} (hb:Below B w w') (hB:hi≤B):WOpen w' lo hi d v1 v2 v3 K1 K2 K3:=
 ⟨Lay.own_kept _ h.g (fun b hb'=>hb.block b (by have:=h.inn b (List.mem_append_left _ hb');omega)),Lay.own_kept _ h.o (fun b hb'=>hb.block b (by have:=h.inn b (List.mem_append_right _ (List.mem_append_left _ hb'));omega)),Lay.own_kept _ h.t (fun b hb'=>hb.block b (by have:=h.inn b (List.mem_append_right _ (List.mem_append_right _ hb'));omega)),h.nd,h.inn,h.k0,h.k4,h.k5⟩
end
theorem zek {α:Type} {E:Lay α} {T e:TypeId} {by_:Nat} {zs:List Value} (I:ElInfo E T e by_ zs) (ty:TypeId) {w0 W:World} {n:Nat} {v:Value} {x:Nat→α} {L:List Nat} (h:(E.slice e).own w0 (n,x) [v] L) (nd:L.Nodup) (hW:Below w0.heap.size w0 W) {d:α} {cs:List Value} {La:List Nat} (ha:E.own W d cs La) (hnd:La.Nodup) (hLa:∀ b,b∈La→w0.heap.size≤b) (b c:Nat) (hcell:∀ j,j<E.sz→W.cell? ⟨b,j,none⟩=cs[j]?) (hn:n≤10000000) :
 ∃ v' w' L',(Builtin.append_ #[T,T] ty #[v,.slice (some ⟨b,0,none⟩) 1 c]).run Tryz.prog W=.ok v' w'∧Turn (E.slice e) w0 L w' (n+1,upd x n d) [v'] L':=by
 obtain ⟨hs,hzs,hu,hi,few⟩:=I
 obtain ⟨i0,hi0⟩:∃ i0,Tryz.prog.info? e=some i0:=by
  cases h:Tryz.prog.info? e with
  | none=>rw [h] at hi;cases hi
  | some i0=>exact ⟨i0,rfl⟩
 rw [hi0] at hi
 simp only [Option.map_some,Option.some.injEq,Prod.mk.injEq] at hi
 obtain ⟨h1,h2,h3⟩:=hi
 obtain ⟨z,hz,hzc⟩:∃ z,i0.zero=some z∧z.cells=zs.toArray:=by
  cases h:i0.zero with
  | none=>rw [h] at h1;cases h1
  | some z=>rw [h] at h1;exact ⟨z,rfl,by simpa using h1⟩
 have hlt:=Lay.own_lt _ h;obtain ⟨_,ce,Ls,ev,rfl,hrow,heach⟩:=h
 cases ev
 have hG1:SlG E e w0 0 v n x ce Ls:=⟨hrow,heach,nd,fun _ _=>Nat.zero_le _⟩;have hG2:SlG E e W 0 v n x ce Ls:=hG1.below hW;have hcs:=E.own_len ha
 obtain ⟨v',w',hr,r1,r2,r3,r4⟩:=run_append_own_at (P:=Tryz.prog) W 0 T ty e i0 z E.sz by_ hu hi0 hz h2 h3 (by rw [hzc];simpa using hzs) hs v n (catN n ce) hG2.row ⟨b,0,none⟩ 1 c cs (by rw [hcs,Nat.one_mul])
  (fun j u hj=>by
   have hlt:j<cs.length:=(List.getElem?_eq_some_iff.1 hj).1;have:=hcell j (by omega);rw [hj] at this;rw [zi4]
   exact this) (E.own_one ha) (by unfold maxLen;omega) (by
    have:(n+1)*by_≤10000001*1000:=Nat.mul_le_mul (by omega) few
    omega) (Nat.zero_le _)
 have hG3:=hG2.grown ha hnd (fun k hk=>⟨Nat.zero_le _,fun hh=>by have:=hlt k hh;have:=hLa k hk;omega⟩) r1 r2 r4;have hz':=hW.size;refine ⟨v',w',v'.ownBlock.toList++catN (n+1) (upd Ls n La),hr,⟨v',_,_,rfl,rfl,hG3.row,hG3.each⟩,hG3.nd,fun k hk=>?_,?_⟩
 ·have hkl:k<w'.heap.size:=Lay.own_lt (E.slice e) (⟨v',_,_,rfl,rfl,hG3.row,hG3.each⟩:(E.slice e).own w' (n+1,upd x n d) [v'] _) k hk
  rcases List.mem_append.1 hk with hk | hk
  ·have hk':v'.ownBlock=some k:=by simpa using hk
   rcases r4 with r4 | r4
   ·exact .inl (List.mem_append_left _ (by rw [← r4];exact hk))
   ·rw [r4] at hk'
    cases hk'
    exact .inr ⟨hz',hkl⟩
  ·obtain ⟨i,hi,hki⟩:=zaA.1 hk
   by_cases c:i=n
   ·subst c
    rw [zaU] at hki;exact .inr ⟨hLa k hki,hkl⟩
   ·rw [zaW Ls La c] at hki
    exact .inl (List.mem_append_right _ (zaA.2 ⟨i,by omega,hki⟩))
 ·exact ⟨r2.os.trans hW.os,r2.tape.trans hW.tape,r2.output.trans hW.output,Nat.le_trans hW.size r2.size,fun k hk hn'=>(r2.block k (by omega) (fun he=>hn' (List.mem_append_left _ (by rw [← he];simp)))).trans (hW.block k hk)⟩
section
variable {α:Type} {E:Lay α} {t:TypeId} {w w':World} {g cap n:Nat} {x:Nat→α} {ce:Nat→List Value} {Ls:Nat→List Nat}
end
def AskAns (d:WorldD) (x:Int):Prop:=(x≠0∧WldAns d x)∨(WldAns d 0∧((d.down=true∧x=9)∨(d.down=false∧x=0)))
theorem AskAns.one {d:WorldD} {x y:Int} (h:AskAns d x) (k:AskAns d y):x=y:=by
 rcases h with ⟨h1,h2⟩ | ⟨h1,h2⟩<;>rcases k with ⟨k1,k2⟩ | ⟨k1,k2⟩
 ·exact h2.one k2
 ·exact absurd (h2.one k1) h1
 ·exact absurd (k2.one h1) k1
 ·rcases h2 with ⟨a,rfl⟩ | ⟨a,rfl⟩<;>rcases k2 with ⟨b,rfl⟩ | ⟨b,rfl⟩
  ·rfl
  ·rw [a] at b;cases b
  ·rw [a] at b;cases b
  ·rfl
def zie (P:Int→Prop) (w:World) (e:Ending) (w':World):Prop:=∃ x,e=.returned (.int .i64 x)∧P x∧Below w.heap.size w w'
set_option maxRecDepth 20000 in
theorem zgF (d:WorldD) (cs:List Value) (hi:Nat) (w:World) (h:zae.rd w hi d cs) (hhi:hi≤w.heap.size) (hsz:zaS d≤1048576) :
 Calls Tryz.prog 28 #[.agg cs.toArray] w (zie (AskAns d) w):=by
 have C:=fun w' hb=>zeU d cs hi w' (zae.rd_below h (B:=w.heap.size) hb hhi);obtain ⟨ao1,cap1,ao2,cap2,ao3,cap3,rfl,-⟩:=zaR h;have T0:=zaQ w (rwW d ao1 cap1 ao2 cap2 ao3 cap3).toArray 38;clear h
 go_enter Tryz.func28,Tryz.ntmps28
 go_wp2_with (refine zao 38 (.tmp 1) rfl rfl w.heap.size rfl T0.b1 Tryz.underlying38 zbH rfl ?_)
 refine (C _ T0.bel (Nat.le_trans hhi T0.bel.size) (zds hsz)).mono ?_;rintro e w1 ⟨x,rfl,hx,b1⟩;have T1:=T0.call b1;have HX:=hid hx;have HB:=hid T1.bel;have c14:w1.cell? ⟨w.heap.size,14,none⟩=some (.bool d.down):=T1.b1.cell 14;clear T0 T1 b1 C hx
 by_cases hx0:x=0
 ·subst hx0
  obtain ⟨dn,hdn⟩:∃ b,b=d.down:=⟨_,rfl⟩;rw [← hdn] at c14;have HD:=hid hdn;clear hdn
  cases dn with
  | true=>
   go_wp2;go_ret;exact ⟨9,rfl,.inr ⟨HX.out,.inl ⟨HD.out.symm,rfl⟩⟩,HB.out⟩
  | false=>
   go_wp2;go_ret;exact ⟨0,rfl,.inr ⟨HX.out,.inr ⟨HD.out.symm,rfl⟩⟩,HB.out⟩
 ·have hne:(x != 0)=true:=by simp [hx0]
  go_wp2;go_ret;exact ⟨x,rfl,.inl ⟨hx0,HX.out⟩,HB.out⟩
set_option maxRecDepth 20000 in
theorem zgG (d:WorldD) (cs:List Value) (hi:Nat) (w:World) (h:zae.rd w hi d cs) (hhi:hi≤w.heap.size) (hsz:zaS d≤1048576) :
 Calls Tryz.prog 40 #[.agg cs.toArray] w (zie (AskAns d) w):=by
 have C:=fun w' hb=>ze2 d cs hi w' (zae.rd_below h (B:=w.heap.size) hb hhi);obtain ⟨ao1,cap1,ao2,cap2,ao3,cap3,rfl,-⟩:=zaR h;have T0:=zaQ w (rwW d ao1 cap1 ao2 cap2 ao3 cap3).toArray 38;clear h
 go_enter Tryz.func40,Tryz.ntmps40
 go_wp2_with (refine zao 38 (.tmp 1) rfl rfl w.heap.size rfl T0.b1 Tryz.underlying38 zbH rfl ?_)
 refine (C _ T0.bel (Nat.le_trans hhi T0.bel.size) (zds hsz)).mono ?_;rintro e w1 ⟨x,rfl,hx,b1⟩;have T1:=T0.call b1;have HX:=hid hx;have HB:=hid T1.bel;have c14:w1.cell? ⟨w.heap.size,14,none⟩=some (.bool d.down):=T1.b1.cell 14;clear T0 T1 b1 C hx
 by_cases hx0:x=0
 ·subst hx0
  obtain ⟨dn,hdn⟩:∃ b,b=d.down:=⟨_,rfl⟩;rw [← hdn] at c14;have HD:=hid hdn;clear hdn
  cases dn with
  | true=>
   go_wp2;go_ret;exact ⟨9,rfl,.inr ⟨HX.out,.inl ⟨HD.out.symm,rfl⟩⟩,HB.out⟩
  | false=>
   go_wp2;go_ret;exact ⟨0,rfl,.inr ⟨HX.out,.inr ⟨HD.out.symm,rfl⟩⟩,HB.out⟩
 ·have hne:(x != 0)=true:=by simp [hx0]
  go_wp2;go_ret;exact ⟨x,rfl,.inl ⟨hx0,HX.out⟩,HB.out⟩
theorem zdb {d:WorldD} {x:Int} (h:AskAns d x):(-9223372036854775808≤x∧x≤9223372036854775807):=by
 rcases h with ⟨_,h⟩ | ⟨_,h | h⟩
 ·exact zid h
 ·rw [h.2];decide
 ·rw [h.2];decide
theorem zif {d:WorldD} (h:AskAns d 0):OkWorld d:=by
 rcases h with ⟨h,_⟩ | ⟨h,_⟩
 ·exact absurd rfl h
 ·exact h.ok
theorem OwnI.full {w:World} {lo hi g n:Nat} {f:Nat→Int} (h:OwnI w lo hi (.slice (some ⟨g,0,none⟩) n n) n f):w.heap[g]?=some (.cells (zaZ n f).toArray 2 (0,0)):=by
 rcases h.1.2 with ⟨h',_⟩ | ⟨g',cap',cur,h',_,hg,_,_,hcs,htake⟩
 ·simp at h'
 ·simp only [Value.slice.injEq,Option.some.injEq,Addr.mk.injEq,and_true,true_and] at h'
  obtain ⟨rfl,rfl⟩:=h'
  have:cur=(zaZ n f).toArray:=by
   rw [← htake,List.take_of_length_le (by simp;omega)]
  rw [← this];exact hg
theorem zfO {w:World} {lo g n:Nat} {f:Nat→Int} (hg:w.heap[g]?=some (.cells (zaZ n f).toArray 2 (0,0))) (hlo:lo≤g) (hm:n≤maxLen):OwnI w lo w.heap.size (.slice (some ⟨g,0,none⟩) n n) n f:=
 ⟨⟨by rw [zar];omega,.inr ⟨g,n,_,rfl,hlo,hg,Nat.le_refl _,hm,by simp [zar],by simp [List.take_of_length_le,zar]⟩⟩,fun k hk=>by
  simp [Value.ownBlock] at hk
  subst hk
  exact (Array.getElem?_eq_some_iff.1 hg).1⟩
theorem zgH (N off m:Nat) (f t h:Nat→Int) (hm:off+m≤N) (hh:∀ i,i<N→h i=if off≤i∧i<off+m then t (i-off) else f i):splice (zaZ N f) off (zaZ m t)=zaZ N h:=by
 unfold splice
 apply List.ext_getElem?
 intro i
 by_cases hi:i<N
 ·rw [za6 N h i hi,hh i hi]
  by_cases h1:i<off
  ·have e1:¬ (off≤i∧i<off+m):=by omega
   rw [if_neg e1,List.getElem?_append_left (by rw [List.length_take,zar];omega),List.getElem?_take,if_pos h1,za6 N f i hi]
  ·rw [List.getElem?_append_right (by rw [List.length_take,zar];omega)]
   have e0:(List.take off (zaZ N f)).length=off:=by rw [List.length_take,zar];omega
   rw [e0]
   by_cases h2:i<off+m
   ·rw [if_pos ⟨by omega,h2⟩,List.getElem?_append_left (by rw [zar];omega),za6 m t _ (by omega)]
   ·have e1:¬ (off≤i∧i<off+m):=by omega
    rw [if_neg e1,List.getElem?_append_right (by rw [zar];omega),zar,List.getElem?_drop,show off+m+(i-off-m)=i by omega,za6 N f i hi]
 ·rw [List.getElem?_eq_none (by simp [zar];omega),List.getElem?_eq_none (by rw [zar];omega)]
theorem zfP {w:World} {hi n cap:Nat} {ao:Option Addr} {f:Nat→Int} (r:RdI w hi (.slice ao n cap) n f) (h:0<(zaZ n f).length):∃ ad,ao=some ad∧∀ j v,(zaZ n f)[j]?=some v→w.cell? (ad.add j)=some v:=by
 rw [zar] at h;obtain ⟨ao',cap',he,_,hc⟩:=r
 simp only [Value.slice.injEq,true_and] at he
 obtain ⟨rfl,rfl⟩:=he;obtain ⟨b,off,rfl,_,hcell⟩:=hc (by omega);refine ⟨_,rfl,fun j v hj=>?_⟩
 by_cases hjn:j<n
 ·rw [za6 n f j hjn] at hj
  rw [add_none',hcell j hjn];exact hj
 ·rw [List.getElem?_eq_none (by rw [zar];omega)] at hj
  cases hj
theorem zeA (n:Nat) (f:Nat→Int):∀ v∈zaZ n f,v.oneCell'=true:=fun v hv=>by
 simp only [zaZ,List.mem_map] at hv
 obtain ⟨i,_,rfl⟩:=hv;rfl
theorem ziz:(Tryz.prog.info? 2).map (·.size)=some 1:=by kernel_rfl
theorem ziL {w:World} {lo hi n:Nat} {v:Value} {f:Nat→Int} (h:OwnI w lo hi v n f) (hh:hi≤w.heap.size) (kf:∀ i,-9223372036854775808≤f i∧f i≤9223372036854775807):OwnT zai w lo hi (n,f) [v]:=by
 refine ⟨v.ownBlock.toList,⟨v,rfl,rfl,h.weaken (Nat.zero_le _) hh,kf⟩,?_,fun b hb=>?_⟩
 ·cases v.ownBlock<;>simp
 ·have hb':v.ownBlock=some b:=by simpa using hb
  exact ⟨(h.1.lt b hb').1,h.2 b hb'⟩
def ToF {α:Type} (A:Lay α) (sz:α→Nat) (fn g:Nat):Prop:=∀ (v:Value) (d:α) (hi:Nat) (w:World),A.rd w hi d [v]→hi≤w.heap.size→sz d≤1048576→
 Calls Tryz.prog fn #[v,.func (.func g) #[] #[]] w fun e w'=>∃ v',e=.returned v'∧OwnT A w' w.heap.size w'.heap.size d [v']∧Below w.heap.size w w'
theorem zcG:ToS zad lenD 127:=fun v d hi w h hhi hn=>by
 obtain ⟨n,f⟩:=d;obtain ⟨v',e1,r1,kf⟩:=h
 cases e1
 simp only at r1 kf
 skip
 have hn':n≤1048576:=hn;clear hn;have R1:=fun (w1:World) (hb:Below w.heap.size w w1)=>r1.below hb hhi;obtain ⟨ao,cap,rfl,hm1,hc1⟩:=r1;clear hc1;have HS:Hid (splice (cellsOf n fun _=>0) 0 (cellsOf n f)=cellsOf n f):=zfu n 0 n _ f f (by omega) (fun i hi=>by simp [hi])
 have L1:(cellsOf n f).length=Nat.min n n:=by rw [zan];exact (Nat.min_self n).symm
 have L2:0+(cellsOf n f).length≤(cellsOf n fun _=>0).length:=by simp [zan]
 have HL1:=hid L1;have HL2:=hid L2;clear L1 L2
 go_enter Tryz.func127,Tryz.ntmps127
 go_wp2_with (first | (at_make;refine zgN _ rfl _ _ rfl _ _ n rfl rfl (by simp) (by simp) (by omega) ?_;intro w1 hown1 hb1 hz1) | (refine wpList_copy_splice rfl (.tmp 7) (.tmp 8) 29 29 rfl 5 Tryz.underlying29 ziO (some ⟨w.heap.size,0,none⟩) ao n n n cap rfl rfl w.heap.size 0 (cellsOf n fun _=>0) 5 hown1.full (cellsOf n f) HL1.out (fun hp=>⟨rfl,zgW (R1 w1 hb1) hp⟩) HL2.out (zdO n f) w.heap.size w hb1 (Nat.le_refl _) ?_;intro w2 hF2 hb2))
 go_ret;have F2:=hF2.out;rw [HS.out] at F2;exact ⟨_,rfl,ziJ (zgc F2 (Nat.le_refl _) (by unfold maxLen;omega)) (Nat.le_refl _) kf,hb2⟩
theorem zd2:ToS zai lenD 119:=fun v d hi w h hhi hn=>by
 obtain ⟨n,f⟩:=d;obtain ⟨v',e1,r1,kf⟩:=h
 cases e1
 simp only at r1 kf
 replace r1:=r1.1;have hn':n≤1048576:=hn;clear hn;have R1:=fun (w1:World) (hb:Below w.heap.size w w1)=>r1.below hb hhi;obtain ⟨ao,cap,rfl,hm1,hc1⟩:=r1;clear hc1;have HS:Hid (splice (zaZ n fun _=>0) 0 (zaZ n f)=zaZ n f):=zgH n 0 n _ f f (by omega) (fun i hi=>by simp [hi])
 have L1:(zaZ n f).length=Nat.min n n:=by rw [zar];exact (Nat.min_self n).symm
 have L2:0+(zaZ n f).length≤(zaZ n fun _=>0).length:=by simp [zar]
 have HL1:=hid L1;have HL2:=hid L2;clear L1 L2
 go_enter Tryz.func119,Tryz.ntmps119
 go_wp2_with (first | (at_make;refine zgP _ rfl _ _ rfl _ _ n rfl rfl (by simp) (by simp) (by omega) ?_;intro w1 hown1 hb1 hz1) | (refine wpList_copy_splice rfl (.tmp 7) (.tmp 8) 25 25 rfl 2 Tryz.underlying25 ziz (some ⟨w.heap.size,0,none⟩) ao n n n cap rfl rfl w.heap.size 0 (zaZ n fun _=>0) 2 hown1.full (zaZ n f) HL1.out (fun hp=>⟨rfl,zfP (R1 w1 hb1) hp⟩) HL2.out (zeA n f) w.heap.size w hb1 (Nat.le_refl _) ?_;intro w2 hF2 hb2))
 go_ret;have F2:=hF2.out;rw [HS.out] at F2;exact ⟨_,rfl,ziL (zfO F2 (Nat.le_refl _) (by unfold maxLen;omega)) (Nat.le_refl _) kf,hb2⟩
theorem run_append_none' {P:Program} (w:World) (base:Nat) (t ty e:TypeId) (i:TypeInfo) (size:Nat) (ht:P.underlying t=some (.slice e)) (hi:P.info? e=some i) (v:Value) (n c:Nat) (xs:List Value) (hown:w.ownsRow base e size v n xs) :
 (Builtin.append_ #[t,t] ty #[v,.slice none 0 c]).run P w=.ok v w:=by
 rcases hown.2 with ⟨rfl,rfl⟩ | ⟨g,cap,cur,rfl,_,_,hnc,_⟩
 ·simp [Builtin.append_,run_underlying ht,sizeOf,typeInfo,hi,Builtin.lenOf,Builtin.firstCells]
 ·simp [Builtin.append_,run_underlying ht,sizeOf,typeInfo,hi,Builtin.lenOf,Builtin.firstCells,hnc,storeCells]
theorem zd3 (w:World) (e:TypeId):(w.alloc (.cells #[] e)).ownsRow w.heap.size e 1 (.slice (some ⟨w.heap.size,0,none⟩) 0 0) 0 []:=World.ownsRow_lit (base:=w.heap.size) (e:=e) (size:=1) w #[] 0 (Nat.le_refl _) (Nat.zero_le _) rfl
theorem zd4 {T e:TypeId} {z:Value} {by_:Nat} (hu:Tryz.prog.underlying T=some (.slice e)) (hi:(Tryz.prog.info? e).map (fun i=>(i.zero,i.size,i.bytes))=some (some z,1,by_)) (hz:z.cells.size=1) (hby:by_≤100) (ty:TypeId) (W:World) (p:Nat) (hown:W.ownsRow p e 1 (.slice (some ⟨p,0,none⟩) 0 0) 0 [])
 (ao:Option Addr) (m cap:Nat) (cs:List Value) (hl:cs.length=m) (hsrc:0<cs.length→∃ ad,ao=some ad∧∀ j v,cs[j]?=some v→W.cell? (ad.add j)=some v) (h1:∀ v∈cs,v.oneCell'=true) (hm:m≤10000000) :
 ∃ v' w',(Builtin.append_ #[T,T] ty #[.slice (some ⟨p,0,none⟩) 0 0,.slice ao m cap]).run Tryz.prog W=.ok v' w'∧w'.ownsRow p e 1 v' m cs∧Below p W w':=by
 obtain ⟨i0,hi0,hz0,hz1,hz2⟩:=info_parts hi;have hlo:p≤W.heap.size:=Nat.le_of_lt (hown.lt p rfl).2
 have big:∀ ad,ao=some ad→(∀ j v,cs[j]?=some v→W.cell? (ad.add j)=some v)→∃ v' w',(Builtin.append_ #[T,T] ty #[.slice (some ⟨p,0,none⟩) 0 0,.slice ao m cap]).run Tryz.prog W=.ok v' w'∧w'.ownsRow p e 1 v' m cs∧Below p W w':=fun ad ha hc=>by
  subst ha
  have hb2:(0+m)*by_≤140737488355328:=by
   have:(0+m)*by_≤10000000*100:=Nat.mul_le_mul (by omega) hby;omega
  obtain ⟨v',w',hr,r1,r2,_⟩:=run_append_own_at (P:=Tryz.prog) W p T ty e i0 z 1 by_ hu hi0 hz0 hz1 hz2 hz (by decide) _ 0 [] hown ad m cap cs (by omega) hc h1 (by unfold maxLen;omega) hb2 hlo;refine ⟨v',w',hr,?_,(Below.refl _ _).grown r2 hlo (fun k hk=>(hown.lt k hk).1)⟩;rw [Nat.zero_add,List.nil_append] at r1;exact r1
 by_cases h0:0<cs.length
 ·obtain ⟨ad,ha,hc⟩:=hsrc h0
  exact big ad ha hc
 ·have hcs:cs=[]:=List.eq_nil_of_length_eq_zero (by omega)
  subst hcs
  cases ao with
  | some ad=>exact big ad rfl (fun j v hj=>by simp at hj)
  | none=>
   have hm0:m=0:=by simpa using hl.symm
   subst hm0;exact ⟨_,W,run_append_none' W p T ty e i0 1 hu hi0 _ 0 cap _ hown,hown,Below.refl _ _⟩
theorem one_i:(Value.int .i64 0).cells.size=1:=rfl
theorem one_b:(Value.int .u8 0).cells.size=1:=rfl
theorem zdt (ty:TypeId) (W:World) (p:Nat) (hown:W.ownsRow p 2 1 (.slice (some ⟨p,0,none⟩) 0 0) 0 []) {hi m cap:Nat} {ao:Option Addr} {f:Nat→Int} (r:zai.rd W hi (m,f) [.slice ao m cap]) (hm:m≤10000000) :
 ∃ v' w',(Builtin.append_ #[25,25] ty #[.slice (some ⟨p,0,none⟩) 0 0,.slice ao m cap]).run Tryz.prog W=.ok v' w'∧OwnT zai w' p w'.heap.size (m,f) [v']∧Below p W w':=by
 obtain ⟨v,e,⟨r1,_⟩,kf⟩:=r
 cases e
 obtain ⟨v',w',hr,h2,h3⟩:=zd4 Tryz.underlying25 zgO one_i (by decide) ty W p hown ao m cap (zaZ m f) (zar m f) (fun hp=>zfP r1 hp) (zeA m f) hm;exact ⟨v',w',hr,ziL ⟨h2,fun k hk=>(h2.lt k hk).2⟩ (Nat.le_refl _) kf,h3⟩
theorem zcH (ty:TypeId) (W:World) (p:Nat) (hown:W.ownsRow p 5 1 (.slice (some ⟨p,0,none⟩) 0 0) 0 []) {hi m cap:Nat} {ao:Option Addr} {f:Nat→Nat} (r:zad.rd W hi (m,f) [.slice ao m cap]) (hm:m≤10000000) :
 ∃ v' w',(Builtin.append_ #[29,29] ty #[.slice (some ⟨p,0,none⟩) 0 0,.slice ao m cap]).run Tryz.prog W=.ok v' w'∧OwnT zad w' p w'.heap.size (m,f) [v']∧Below p W w':=by
 obtain ⟨v,e,r1,kf⟩:=r
 cases e
 obtain ⟨v',w',hr,h2,h3⟩:=zd4 Tryz.underlying29 zhK one_b (by decide) ty W p hown ao m cap (cellsOf m f) (zan m f) (fun hp=>zgW r1 hp) (zdO m f) hm;exact ⟨v',w',hr,ziJ ⟨h2,fun k hk=>(h2.lt k hk).2⟩ (Nat.le_refl _) kf,h3⟩
theorem ze3 {ops:Array Oper} {rest:List Oper} {o:Oper} {a:Act} {W w':World} {Q:Exit→Act→World→Prop} {T:TypeId} {v' x1 x2:Value} (hg:o.guard=none) (s y:Operand) (hop:o.op=Op.call { callee:=Callee.builtin Builtin.append,args:=#[s,y],argTypes:=#[T,T] })
 (h1:a.eval s=x1) (h2:a.eval y=x2) (hrun:(Builtin.append_ #[T,T] o.type #[x1,x2]).run Tryz.prog W=.ok v' w') (hK:wpList Tryz.prog ops Q rest (a.put o.dst v') w'):wpList Tryz.prog ops Q (o::rest) a W:=by
 refine wpList_plain hg fun K hK'=>?_;unfold Oper.wp
 simp [execOp,hop,resolve,invoke,builtin,h1,h2,hrun,Result.andThen]
 exact hK' _ _ hK
theorem zd5 {ops:Array Oper} {o:Oper} {a:Act} {W w':World} {K:Act→World→Prop} {Q:Exit→Act→World→Prop} {F:Prop} {T:TypeId} {v' x1 x2:Value} (hg:o.guard=none) (s y:Operand) (hop:o.op=Op.call { callee:=Callee.builtin Builtin.append,args:=#[s,y],argTypes:=#[T,T] })
 (h1:a.eval s=x1) (h2:a.eval y=x2) (hrun:(Builtin.append_ #[T,T] o.type #[x1,x2]).run Tryz.prog W=.ok v' w') (hK:K (a.put o.dst v') w'):if Region.wanted o (yielded ops a.tmps)=true then Oper.wp Tryz.prog o a W K Q else F:=by
 have hw:Region.wanted o (yielded ops a.tmps)=true:=by simp [Region.wanted,hg]
 rw [if_pos hw];unfold Oper.wp
 simp [execOp,hop,resolve,invoke,builtin,h1,h2,hrun,Result.andThen]
 exact hK
theorem WOpen.chgn {w w':World} {lo hi:Nat} {d:WorldD} {v1 v2 v3:Value} {K1 K2 K3 K:List Nat} (h:WOpen w lo hi d v1 v2 v3 K1 K2 K3) (hc:ChgL K w w') (hK:∀ b,b∈K→b∉K1++(K2++K3)):WOpen w' lo hi d v1 v2 v3 K1 K2 K3:=
 ⟨Lay.own_chgL _ h.g hc (fun b hb hbK=>hK b hbK (List.mem_append_left _ hb)),Lay.own_chgL _ h.o hc (fun b hb hbK=>hK b hbK (List.mem_append_right _ (List.mem_append_left _ hb))),Lay.own_chgL _ h.t hc (fun b hb hbK=>hK b hbK (List.mem_append_right _ (List.mem_append_right _ hb))),h.nd,h.inn,h.k0,h.k4,h.k5⟩
end Go.Proofs.YtonemlgejkapbaaGreat
