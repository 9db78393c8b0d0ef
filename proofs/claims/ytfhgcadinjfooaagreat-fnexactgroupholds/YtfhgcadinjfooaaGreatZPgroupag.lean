/- Walks of the program's recInBounds and RecFault. -/
import Derived.Test.YtfhgcadinjfooaaGreatZPgroupaf
set_option linter.unusedVariables false
set_option linter.unusedSimpArgs false
set_option maxHeartbeats 16000000
namespace Go.Proofs.YtfhgcadinjfooaaGreat
open Go.RowKit F256
theorem zde (s:Nat→Int) (hs:zaj s) (r:RecD) (cs:List Value) (hi:Nat) (w:World) (h:zan.rd w hi r cs) (hhi:hi≤w.heap.size) (hk:InP r.kind 1 4) :
 Calls Tryz.prog 116 #[zad s,.agg cs.toArray] w (zaR (za1 s r) w):=by
 obtain ⟨kind,seq,name,length,group,row,rows,data,delta⟩:=r;obtain ⟨ao6,cap6,ao7,cap7,ao8,cap8,rfl,g6,g7,g8,k0,k1,k2,k3,k4,k5⟩:=zbz h;have HRD:=hid h;obtain ⟨v7,e7,⟨_,_,e7',hm7,_⟩,_⟩:=g7
 cases e7
 cases e7'
 obtain ⟨v8,e8,⟨_,_,e8',hm8,_⟩,_⟩:=g8
 cases e8
 cases e8'
 unfold maxLen at hm7 hm8
 simp only at hk hm7 hm8
 have HS:=hid hs
 have hk4:kind=1∨kind=2∨kind=3∨kind=4:=by unfold InP at hk;omega
 clear h g6 k0 k1 k2 k3 k4 k5 hk hs
 rcases hk4 with rfl | rfl | rfl | rfl
 ·have T0:=zaP w (rwS s).toArray #[.int .i64 1,.int .i64 seq,.string name,.int .i64 length,.int .i64 group,.int .i64 row,.slice ao6 rows.1 cap6,.slice ao7 data.1 cap7,.slice ao8 delta.1 cap8] 31 71
  obtain ⟨t1,h1⟩:=exB (zbf s ⟨1,seq,name,length,group,row,rows,data,delta⟩);have C:=zbo (zhX s HS.out ⟨1,seq,name,length,group,row,rows,data,delta⟩ _ hi _ (zan.rd_below HRD.out T0.bel hhi) (Nat.le_trans hhi T0.bel.size)) h1
  have HE:Hid (za1 s ⟨1,seq,name,length,group,row,rows,data,delta⟩↔t1=true):=by
   show za1 s ⟨1,seq,name,length,group,row,rows,data,delta⟩↔_
   rw [h1];unfold za1
   simp
  clear h1;unfold zad at C ⊢
  go_enter Tryz.func116,Tryz.ntmps116
  go_wp2_with fail
  refine C.mono ?_;rintro e w1 ⟨rfl,b1⟩;have HB:Hid (Below w.heap.size w w1):=(T0.call b1).bel;clear b1 C T0;go_wp2;go_ret
  cases t1 with
  | true=>exact zam rfl (HE.out.2 (by simp)) HB.out
  | false=>exact zai rfl (fun h=>by have:=HE.out.1 h;simp at this) HB.out
 ·have T0:=zaP w (rwS s).toArray #[.int .i64 2,.int .i64 seq,.string name,.int .i64 length,.int .i64 group,.int .i64 row,.slice ao6 rows.1 cap6,.slice ao7 data.1 cap7,.slice ao8 delta.1 cap8] 31 71
  obtain ⟨t1,h1⟩:=exB (InP group 0 (s 0-1));obtain ⟨t2,h2⟩:=exB (InP row 0 (s 4-1));obtain ⟨t3,h3⟩:∃ b,((data.1:Int)==s 2*4)=b:=⟨_,rfl⟩;obtain ⟨t4,h4⟩:∃ b,((delta.1:Int)==s 2*4)=b:=⟨_,rfl⟩;have C1:=fun w'=>ze3 HS.out h1 w';have C2:=fun w'=>ziR HS.out h2 w';have C3:=fun w'=>zed HS.out (ao:=ao7) (cap:=cap7) (by omega) h3 w';have C4:=fun w'=>zed HS.out (ao:=ao8) (cap:=cap8) (by omega) h4 w'
  have HE:Hid (za1 s ⟨2,seq,name,length,group,row,rows,data,delta⟩↔(t1=true∧t2=true∧t3=true∧t4=true)):=by
   show za1 s ⟨2,seq,name,length,group,row,rows,data,delta⟩↔_
   rw [h1,h2,← h3,← h4];unfold za1 zjS
   simp
  clear h1 h2 h3 h4;unfold zad at C1 C2 C3 C4 ⊢
  go_enter Tryz.func116,Tryz.ntmps116
  go_wp2_with fail
  refine (C1 _).mono ?_;rintro e w1 ⟨rfl,b1⟩;have T1:Two w w1 (rwS s).toArray #[.int .i64 2,.int .i64 seq,.string name,.int .i64 length,.int .i64 group,.int .i64 row,.slice ao6 rows.1 cap6,.slice ao7 data.1 cap7,.slice ao8 delta.1 cap8] 31 71:=T0.call b1;have HB1:=hid T1.bel;clear b1;have x1_0:w1.cell? ⟨w.heap.size,0,none⟩=some (.int .i64 (s 0)):=T1.b1.cell 0;have y1_0:w1.cell? ⟨w.heap.size+1,0,none⟩=some (.int .i64 2):=T1.b2.cell 0;have x1_1:w1.cell? ⟨w.heap.size,1,none⟩=some (.int .i64 (s 1)):=T1.b1.cell 1;have y1_1:w1.cell? ⟨w.heap.size+1,1,none⟩=some (.int .i64 seq):=T1.b2.cell 1;have x1_2:w1.cell? ⟨w.heap.size,2,none⟩=some (.int .i64 (s 2)):=T1.b1.cell 2;have y1_2:w1.cell? ⟨w.heap.size+1,2,none⟩=some (.string name):=T1.b2.cell 2;have x1_3:w1.cell? ⟨w.heap.size,3,none⟩=some (.int .i64 (s 3)):=T1.b1.cell 3;have y1_3:w1.cell? ⟨w.heap.size+1,3,none⟩=some (.int .i64 length):=T1.b2.cell 3;have x1_4:w1.cell? ⟨w.heap.size,4,none⟩=some (.int .i64 (s 4)):=T1.b1.cell 4;have y1_4:w1.cell? ⟨w.heap.size+1,4,none⟩=some (.int .i64 group):=T1.b2.cell 4;have x1_5:w1.cell? ⟨w.heap.size,5,none⟩=some (.int .i64 (s 5)):=T1.b1.cell 5;have y1_5:w1.cell? ⟨w.heap.size+1,5,none⟩=some (.int .i64 row):=T1.b2.cell 5;have x1_6:w1.cell? ⟨w.heap.size,6,none⟩=some (.int .i64 (s 6)):=T1.b1.cell 6;have y1_6:w1.cell? ⟨w.heap.size+1,6,none⟩=some (.slice ao6 rows.1 cap6):=T1.b2.cell 6;have x1_7:w1.cell? ⟨w.heap.size,7,none⟩=some (.int .i64 (s 7)):=T1.b1.cell 7;have y1_7:w1.cell? ⟨w.heap.size+1,7,none⟩=some (.slice ao7 data.1 cap7):=T1.b2.cell 7;have x1_8:w1.cell? ⟨w.heap.size,8,none⟩=some (.int .i64 (s 8)):=T1.b1.cell 8;have y1_8:w1.cell? ⟨w.heap.size+1,8,none⟩=some (.slice ao8 delta.1 cap8):=T1.b2.cell 8
  cases t1 with
  | false=>
   clear T1;go_wp2;go_ret;exact zai rfl (fun h=>by have:=HE.out.1 h;simp at this) HB1.out
  | true=>
   go_wp2_with fail
   refine (C2 _).mono ?_;rintro e w2 ⟨rfl,b2⟩;have T2:Two w w2 (rwS s).toArray #[.int .i64 2,.int .i64 seq,.string name,.int .i64 length,.int .i64 group,.int .i64 row,.slice ao6 rows.1 cap6,.slice ao7 data.1 cap7,.slice ao8 delta.1 cap8] 31 71:=T1.call b2;have HB2:=hid T2.bel;clear b2;have x2_0:w2.cell? ⟨w.heap.size,0,none⟩=some (.int .i64 (s 0)):=T2.b1.cell 0;have y2_0:w2.cell? ⟨w.heap.size+1,0,none⟩=some (.int .i64 2):=T2.b2.cell 0;have x2_1:w2.cell? ⟨w.heap.size,1,none⟩=some (.int .i64 (s 1)):=T2.b1.cell 1;have y2_1:w2.cell? ⟨w.heap.size+1,1,none⟩=some (.int .i64 seq):=T2.b2.cell 1;have x2_2:w2.cell? ⟨w.heap.size,2,none⟩=some (.int .i64 (s 2)):=T2.b1.cell 2;have y2_2:w2.cell? ⟨w.heap.size+1,2,none⟩=some (.string name):=T2.b2.cell 2;have x2_3:w2.cell? ⟨w.heap.size,3,none⟩=some (.int .i64 (s 3)):=T2.b1.cell 3;have y2_3:w2.cell? ⟨w.heap.size+1,3,none⟩=some (.int .i64 length):=T2.b2.cell 3;have x2_4:w2.cell? ⟨w.heap.size,4,none⟩=some (.int .i64 (s 4)):=T2.b1.cell 4;have y2_4:w2.cell? ⟨w.heap.size+1,4,none⟩=some (.int .i64 group):=T2.b2.cell 4;have x2_5:w2.cell? ⟨w.heap.size,5,none⟩=some (.int .i64 (s 5)):=T2.b1.cell 5;have y2_5:w2.cell? ⟨w.heap.size+1,5,none⟩=some (.int .i64 row):=T2.b2.cell 5;have x2_6:w2.cell? ⟨w.heap.size,6,none⟩=some (.int .i64 (s 6)):=T2.b1.cell 6;have y2_6:w2.cell? ⟨w.heap.size+1,6,none⟩=some (.slice ao6 rows.1 cap6):=T2.b2.cell 6;have x2_7:w2.cell? ⟨w.heap.size,7,none⟩=some (.int .i64 (s 7)):=T2.b1.cell 7;have y2_7:w2.cell? ⟨w.heap.size+1,7,none⟩=some (.slice ao7 data.1 cap7):=T2.b2.cell 7;have x2_8:w2.cell? ⟨w.heap.size,8,none⟩=some (.int .i64 (s 8)):=T2.b1.cell 8;have y2_8:w2.cell? ⟨w.heap.size+1,8,none⟩=some (.slice ao8 delta.1 cap8):=T2.b2.cell 8
   cases t2 with
   | false=>
    clear T2;go_wp2;go_ret;exact zai rfl (fun h=>by have:=HE.out.1 h;simp at this) HB2.out
   | true=>
    go_wp2_with fail
    refine (C3 _).mono ?_;rintro e w3 ⟨rfl,b3⟩;have T3:Two w w3 (rwS s).toArray #[.int .i64 2,.int .i64 seq,.string name,.int .i64 length,.int .i64 group,.int .i64 row,.slice ao6 rows.1 cap6,.slice ao7 data.1 cap7,.slice ao8 delta.1 cap8] 31 71:=T2.call b3;have HB3:=hid T3.bel;clear b3;have x3_0:w3.cell? ⟨w.heap.size,0,none⟩=some (.int .i64 (s 0)):=T3.b1.cell 0;have y3_0:w3.cell? ⟨w.heap.size+1,0,none⟩=some (.int .i64 2):=T3.b2.cell 0;have x3_1:w3.cell? ⟨w.heap.size,1,none⟩=some (.int .i64 (s 1)):=T3.b1.cell 1;have y3_1:w3.cell? ⟨w.heap.size+1,1,none⟩=some (.int .i64 seq):=T3.b2.cell 1;have x3_2:w3.cell? ⟨w.heap.size,2,none⟩=some (.int .i64 (s 2)):=T3.b1.cell 2;have y3_2:w3.cell? ⟨w.heap.size+1,2,none⟩=some (.string name):=T3.b2.cell 2;have x3_3:w3.cell? ⟨w.heap.size,3,none⟩=some (.int .i64 (s 3)):=T3.b1.cell 3;have y3_3:w3.cell? ⟨w.heap.size+1,3,none⟩=some (.int .i64 length):=T3.b2.cell 3;have x3_4:w3.cell? ⟨w.heap.size,4,none⟩=some (.int .i64 (s 4)):=T3.b1.cell 4;have y3_4:w3.cell? ⟨w.heap.size+1,4,none⟩=some (.int .i64 group):=T3.b2.cell 4;have x3_5:w3.cell? ⟨w.heap.size,5,none⟩=some (.int .i64 (s 5)):=T3.b1.cell 5;have y3_5:w3.cell? ⟨w.heap.size+1,5,none⟩=some (.int .i64 row):=T3.b2.cell 5;have x3_6:w3.cell? ⟨w.heap.size,6,none⟩=some (.int .i64 (s 6)):=T3.b1.cell 6;have y3_6:w3.cell? ⟨w.heap.size+1,6,none⟩=some (.slice ao6 rows.1 cap6):=T3.b2.cell 6;have x3_7:w3.cell? ⟨w.heap.size,7,none⟩=some (.int .i64 (s 7)):=T3.b1.cell 7;have y3_7:w3.cell? ⟨w.heap.size+1,7,none⟩=some (.slice ao7 data.1 cap7):=T3.b2.cell 7;have x3_8:w3.cell? ⟨w.heap.size,8,none⟩=some (.int .i64 (s 8)):=T3.b1.cell 8;have y3_8:w3.cell? ⟨w.heap.size+1,8,none⟩=some (.slice ao8 delta.1 cap8):=T3.b2.cell 8
    cases t3 with
    | false=>
     clear T3;go_wp2;go_ret;exact zai rfl (fun h=>by have:=HE.out.1 h;simp at this) HB3.out
    | true=>
     go_wp2_with fail
     refine (C4 _).mono ?_;rintro e w4 ⟨rfl,b4⟩;have T4:Two w w4 (rwS s).toArray #[.int .i64 2,.int .i64 seq,.string name,.int .i64 length,.int .i64 group,.int .i64 row,.slice ao6 rows.1 cap6,.slice ao7 data.1 cap7,.slice ao8 delta.1 cap8] 31 71:=T3.call b4;have HB4:=hid T4.bel;clear b4
     cases t4 with
     | false=>
      clear T4;go_wp2;go_ret;exact zai rfl (fun h=>by have:=HE.out.1 h;simp at this) HB4.out
     | true=>
      clear T4;go_wp2;go_ret;exact zam rfl (HE.out.2 (by simp)) HB4.out
 ·have T0:=zaP w (rwS s).toArray #[.int .i64 3,.int .i64 seq,.string name,.int .i64 length,.int .i64 group,.int .i64 row,.slice ao6 rows.1 cap6,.slice ao7 data.1 cap7,.slice ao8 delta.1 cap8] 31 71
  obtain ⟨t1,h1⟩:=exB (InP group 0 (s 0+s 1-1));have C:=fun w'=>zec HS.out h1 w'
  have HE:Hid (za1 s ⟨3,seq,name,length,group,row,rows,data,delta⟩↔t1=true):=by
   show za1 s ⟨3,seq,name,length,group,row,rows,data,delta⟩↔_
   rw [h1];unfold za1 zjT
   simp
  clear h1;unfold zad at C ⊢
  go_enter Tryz.func116,Tryz.ntmps116
  go_wp2_with fail
  refine (C _).mono ?_;rintro e w1 ⟨rfl,b1⟩;have HB:Hid (Below w.heap.size w w1):=(T0.call b1).bel;clear b1 C T0;go_wp2;go_ret
  cases t1 with
  | true=>exact zam rfl (HE.out.2 (by simp)) HB.out
  | false=>exact zai rfl (fun h=>by have:=HE.out.1 h;simp at this) HB.out
 ·have T0:=zaP w (rwS s).toArray #[.int .i64 4,.int .i64 seq,.string name,.int .i64 length,.int .i64 group,.int .i64 row,.slice ao6 rows.1 cap6,.slice ao7 data.1 cap7,.slice ao8 delta.1 cap8] 31 71
  obtain ⟨t1,h1⟩:=exB (zhd s ⟨4,seq,name,length,group,row,rows,data,delta⟩);have C:=zbo (zgM s HS.out ⟨4,seq,name,length,group,row,rows,data,delta⟩ _ hi _ (zan.rd_below HRD.out T0.bel hhi) (Nat.le_trans hhi T0.bel.size)) h1
  have HE:Hid (za1 s ⟨4,seq,name,length,group,row,rows,data,delta⟩↔t1=true):=by
   show za1 s ⟨4,seq,name,length,group,row,rows,data,delta⟩↔_
   rw [h1];unfold za1
   simp
  clear h1;unfold zad at C ⊢
  go_enter Tryz.func116,Tryz.ntmps116
  go_wp2_with fail
  refine C.mono ?_;rintro e w1 ⟨rfl,b1⟩;have HB:Hid (Below w.heap.size w w1):=(T0.call b1).bel;clear b1 C T0;go_wp2;go_ret
  cases t1 with
  | true=>exact zam rfl (HE.out.2 (by simp)) HB.out
  | false=>exact zai rfl (fun h=>by have:=HE.out.1 h;simp at this) HB.out
set_option maxRecDepth 20000 in
theorem zgO (s:Nat→Int) (r:RecD) (cs:List Value) (hi:Nat) (w:World) (h:zan.rd w hi r cs) (hhi:hi≤w.heap.size) (hnm:r.name.size≤1048576) :
 Calls Tryz.prog 95 #[zad s,.agg cs.toArray] w (zeY s r w):=by
 obtain ⟨kind,seq,name,length,group,row,rows,data,delta⟩:=r;obtain ⟨ao6,cap6,ao7,cap7,ao8,cap8,rfl,-⟩:=zbz h;have HRD:=hid h
 simp only at hnm
 clear h;have T0:=zaP w (rwS s).toArray #[.int .i64 kind,.int .i64 seq,.string name,.int .i64 length,.int .i64 group,.int .i64 row,.slice ao6 rows.1 cap6,.slice ao7 data.1 cap7,.slice ao8 delta.1 cap8] 31 71;have CSh:=fun w'=>zce s w';unfold zad at CSh ⊢
 go_enter Tryz.func95,Tryz.ntmps95
 go_wp2_with fail
 refine (CSh _).mono ?_;rintro e w1 ⟨x,rfl,hx,b1⟩;have T1:Two w w1 (rwS s).toArray #[.int .i64 kind,.int .i64 seq,.string name,.int .i64 length,.int .i64 group,.int .i64 row,.slice ao6 rows.1 cap6,.slice ao7 data.1 cap7,.slice ao8 delta.1 cap8] 31 71:=T0.call b1;have HT1:=hid T1;clear b1 T0 CSh;have x1_0:w1.cell? ⟨w.heap.size,0,none⟩=some (.int .i64 (s 0)):=T1.b1.cell 0;have y1_0:w1.cell? ⟨w.heap.size+1,0,none⟩=some (.int .i64 kind):=T1.b2.cell 0;have x1_1:w1.cell? ⟨w.heap.size,1,none⟩=some (.int .i64 (s 1)):=T1.b1.cell 1;have y1_1:w1.cell? ⟨w.heap.size+1,1,none⟩=some (.int .i64 seq):=T1.b2.cell 1;have x1_2:w1.cell? ⟨w.heap.size,2,none⟩=some (.int .i64 (s 2)):=T1.b1.cell 2;have y1_2:w1.cell? ⟨w.heap.size+1,2,none⟩=some (.string name):=T1.b2.cell 2;have x1_3:w1.cell? ⟨w.heap.size,3,none⟩=some (.int .i64 (s 3)):=T1.b1.cell 3;have y1_3:w1.cell? ⟨w.heap.size+1,3,none⟩=some (.int .i64 length):=T1.b2.cell 3;have x1_4:w1.cell? ⟨w.heap.size,4,none⟩=some (.int .i64 (s 4)):=T1.b1.cell 4;have y1_4:w1.cell? ⟨w.heap.size+1,4,none⟩=some (.int .i64 group):=T1.b2.cell 4;have x1_5:w1.cell? ⟨w.heap.size,5,none⟩=some (.int .i64 (s 5)):=T1.b1.cell 5;have y1_5:w1.cell? ⟨w.heap.size+1,5,none⟩=some (.int .i64 row):=T1.b2.cell 5;have x1_6:w1.cell? ⟨w.heap.size,6,none⟩=some (.int .i64 (s 6)):=T1.b1.cell 6;have y1_6:w1.cell? ⟨w.heap.size+1,6,none⟩=some (.slice ao6 rows.1 cap6):=T1.b2.cell 6;have x1_7:w1.cell? ⟨w.heap.size,7,none⟩=some (.int .i64 (s 7)):=T1.b1.cell 7;have y1_7:w1.cell? ⟨w.heap.size+1,7,none⟩=some (.slice ao7 data.1 cap7):=T1.b2.cell 7;have x1_8:w1.cell? ⟨w.heap.size,8,none⟩=some (.int .i64 (s 8)):=T1.b1.cell 8;have y1_8:w1.cell? ⟨w.heap.size+1,8,none⟩=some (.slice ao8 delta.1 cap8):=T1.b2.cell 8;clear T1
 rcases hx with ⟨rfl,hno⟩ | ⟨rfl,hok⟩
 ·go_wp2
  go_ret;exact recP rfl (Stair.fall hno) HT1.out.bel
 have HOK:=hid hok;clear hok
 by_cases hk:InP kind 1 4
 ·go_wp2_with fail
  refine (zaH (t:=true) (by omega) (exBT hk) _).mono ?_;rintro e w' ⟨rfl,hw'⟩;obtain rfl:=hw'.symm
  by_cases hq:InP seq 1 1000000000
  ·go_wp2_with fail
   refine (zaH (t:=true) (by omega) (exBT hq) _).mono ?_;rintro e w' ⟨rfl,hw'⟩;obtain rfl:=hw'.symm;have HK:=hid hk;have HQ:=hid hq
   have hk4:kind=1∨kind=2∨kind=3∨kind=4:=by unfold InP at hk;omega
   clear hk hq
   rcases hk4 with rfl | rfl | rfl | rfl
   ·go_wp2_with fail
    refine (zfQ name hnm _).mono ?_;rintro e w' ⟨x,rfl,hx,hw'⟩;obtain rfl:=hw'.symm
    rcases hx with ⟨rfl,hno⟩ | ⟨rfl,hyes⟩
    ·go_wp2
     go_ret;exact recP rfl (Stair.pass HOK.out (Stair.pass HK.out (Stair.pass HQ.out (Stair.fall (fun h=>hno (h rfl)))))) HT1.out.bel
    have HN:Hid (zdb ⟨1,seq,name,length,group,row,rows,data,delta⟩):=fun _=>hyes;clear hyes;obtain ⟨t5,h5⟩:=exB (za1 s ⟨1,seq,name,length,group,row,rows,data,delta⟩);have C5:=zbo (zde s HOK.out ⟨1,seq,name,length,group,row,rows,data,delta⟩ _ hi w1 (zan.rd_below HRD.out HT1.out.bel hhi) (Nat.le_trans hhi HT1.out.bel.size) HK.out) h5;have H5:=hid h5;unfold zad at C5;clear h5
    go_wp2_with fail
    refine C5.mono ?_;rintro e w5 ⟨rfl,b5⟩;have T5:Two w w5 (rwS s).toArray #[.int .i64 1,.int .i64 seq,.string name,.int .i64 length,.int .i64 group,.int .i64 row,.slice ao6 rows.1 cap6,.slice ao7 data.1 cap7,.slice ao8 delta.1 cap8] 31 71:=HT1.out.call b5;have HB5:=hid T5.bel;clear b5 C5;have x5_0:w5.cell? ⟨w.heap.size,0,none⟩=some (.int .i64 (s 0)):=T5.b1.cell 0;have y5_0:w5.cell? ⟨w.heap.size+1,0,none⟩=some (.int .i64 1):=T5.b2.cell 0;have x5_1:w5.cell? ⟨w.heap.size,1,none⟩=some (.int .i64 (s 1)):=T5.b1.cell 1;have y5_1:w5.cell? ⟨w.heap.size+1,1,none⟩=some (.int .i64 seq):=T5.b2.cell 1;have x5_2:w5.cell? ⟨w.heap.size,2,none⟩=some (.int .i64 (s 2)):=T5.b1.cell 2;have y5_2:w5.cell? ⟨w.heap.size+1,2,none⟩=some (.string name):=T5.b2.cell 2;have x5_3:w5.cell? ⟨w.heap.size,3,none⟩=some (.int .i64 (s 3)):=T5.b1.cell 3;have y5_3:w5.cell? ⟨w.heap.size+1,3,none⟩=some (.int .i64 length):=T5.b2.cell 3;have x5_4:w5.cell? ⟨w.heap.size,4,none⟩=some (.int .i64 (s 4)):=T5.b1.cell 4;have y5_4:w5.cell? ⟨w.heap.size+1,4,none⟩=some (.int .i64 group):=T5.b2.cell 4;have x5_5:w5.cell? ⟨w.heap.size,5,none⟩=some (.int .i64 (s 5)):=T5.b1.cell 5;have y5_5:w5.cell? ⟨w.heap.size+1,5,none⟩=some (.int .i64 row):=T5.b2.cell 5;have x5_6:w5.cell? ⟨w.heap.size,6,none⟩=some (.int .i64 (s 6)):=T5.b1.cell 6;have y5_6:w5.cell? ⟨w.heap.size+1,6,none⟩=some (.slice ao6 rows.1 cap6):=T5.b2.cell 6;have x5_7:w5.cell? ⟨w.heap.size,7,none⟩=some (.int .i64 (s 7)):=T5.b1.cell 7;have y5_7:w5.cell? ⟨w.heap.size+1,7,none⟩=some (.slice ao7 data.1 cap7):=T5.b2.cell 7;have x5_8:w5.cell? ⟨w.heap.size,8,none⟩=some (.int .i64 (s 8)):=T5.b1.cell 8;have y5_8:w5.cell? ⟨w.heap.size+1,8,none⟩=some (.slice ao8 delta.1 cap8):=T5.b2.cell 8;clear T5
    cases t5 with
    | false=>
     go_wp2;go_ret;exact recP rfl (Stair.pass HOK.out (Stair.pass HK.out (Stair.pass HQ.out (Stair.pass HN.out (Stair.fall (fun h=>by have:=H5.out.2 h;simp at this)))))) HB5.out
    | true=>
     have HKP:Hid (za1 s ⟨1,seq,name,length,group,row,rows,data,delta⟩):=H5.out.1 (by simp)
     go_wp2_with fail
     refine (zjr seq name length group row rows data delta ao6 ao7 ao8 cap6 cap7 cap8 _).mono ?_;rintro e w6 ⟨rfl,b6⟩;have HB6:=hid (HB5.out.trans (b6.mono HB5.out.size));clear b6
     go_wp2_with fail
     refine (zcf _ _ _ _ _ _ _ _ _ _ _ _ _ _ _ _).mono ?_;rintro e w7 ⟨t9,rfl,ht9,b7⟩;have HB7:=hid (HB6.out.trans (b7.mono HB6.out.size));clear b7
     have HT9:Hid (t9=true↔zaX ⟨1,seq,name,length,group,row,rows,data,delta⟩):=by
      show t9=true↔zaX ⟨1,seq,name,length,group,row,rows,data,delta⟩
      rw [ht9];unfold zdE zbW zaX zcA
      simp [and_assoc]
      try (intros;rfl)
     clear ht9
     cases t9 with
     | false=>
      go_wp2;go_ret;exact recP rfl (Stair.pass HOK.out (Stair.pass HK.out (Stair.pass HQ.out (Stair.pass HN.out (Stair.pass HKP.out (Stair.fall (fun h=>by have:=HT9.out.2 h;simp at this))))))) HB7.out
     | true=>
      go_wp2;go_ret;exact recP rfl (Stair.pass HOK.out (Stair.pass HK.out (Stair.pass HQ.out (Stair.pass HN.out (Stair.pass HKP.out (Stair.pass (HT9.out.1 (by simp)) (Stair.last rfl))))))) HB7.out
   ·have HN:Hid (zdb ⟨2,seq,name,length,group,row,rows,data,delta⟩):=fun h=>by simp at h
    obtain ⟨t5,h5⟩:=exB (za1 s ⟨2,seq,name,length,group,row,rows,data,delta⟩);have C5:=zbo (zde s HOK.out ⟨2,seq,name,length,group,row,rows,data,delta⟩ _ hi w1 (zan.rd_below HRD.out HT1.out.bel hhi) (Nat.le_trans hhi HT1.out.bel.size) HK.out) h5;have H5:=hid h5;unfold zad at C5;clear h5
    go_wp2_with fail
    refine C5.mono ?_;rintro e w5 ⟨rfl,b5⟩;have T5:Two w w5 (rwS s).toArray #[.int .i64 2,.int .i64 seq,.string name,.int .i64 length,.int .i64 group,.int .i64 row,.slice ao6 rows.1 cap6,.slice ao7 data.1 cap7,.slice ao8 delta.1 cap8] 31 71:=HT1.out.call b5;have HB5:=hid T5.bel;clear b5 C5;have x5_0:w5.cell? ⟨w.heap.size,0,none⟩=some (.int .i64 (s 0)):=T5.b1.cell 0;have y5_0:w5.cell? ⟨w.heap.size+1,0,none⟩=some (.int .i64 2):=T5.b2.cell 0;have x5_1:w5.cell? ⟨w.heap.size,1,none⟩=some (.int .i64 (s 1)):=T5.b1.cell 1;have y5_1:w5.cell? ⟨w.heap.size+1,1,none⟩=some (.int .i64 seq):=T5.b2.cell 1;have x5_2:w5.cell? ⟨w.heap.size,2,none⟩=some (.int .i64 (s 2)):=T5.b1.cell 2;have y5_2:w5.cell? ⟨w.heap.size+1,2,none⟩=some (.string name):=T5.b2.cell 2;have x5_3:w5.cell? ⟨w.heap.size,3,none⟩=some (.int .i64 (s 3)):=T5.b1.cell 3;have y5_3:w5.cell? ⟨w.heap.size+1,3,none⟩=some (.int .i64 length):=T5.b2.cell 3;have x5_4:w5.cell? ⟨w.heap.size,4,none⟩=some (.int .i64 (s 4)):=T5.b1.cell 4;have y5_4:w5.cell? ⟨w.heap.size+1,4,none⟩=some (.int .i64 group):=T5.b2.cell 4;have x5_5:w5.cell? ⟨w.heap.size,5,none⟩=some (.int .i64 (s 5)):=T5.b1.cell 5;have y5_5:w5.cell? ⟨w.heap.size+1,5,none⟩=some (.int .i64 row):=T5.b2.cell 5;have x5_6:w5.cell? ⟨w.heap.size,6,none⟩=some (.int .i64 (s 6)):=T5.b1.cell 6;have y5_6:w5.cell? ⟨w.heap.size+1,6,none⟩=some (.slice ao6 rows.1 cap6):=T5.b2.cell 6;have x5_7:w5.cell? ⟨w.heap.size,7,none⟩=some (.int .i64 (s 7)):=T5.b1.cell 7;have y5_7:w5.cell? ⟨w.heap.size+1,7,none⟩=some (.slice ao7 data.1 cap7):=T5.b2.cell 7;have x5_8:w5.cell? ⟨w.heap.size,8,none⟩=some (.int .i64 (s 8)):=T5.b1.cell 8;have y5_8:w5.cell? ⟨w.heap.size+1,8,none⟩=some (.slice ao8 delta.1 cap8):=T5.b2.cell 8;clear T5
    cases t5 with
    | false=>
     go_wp2;go_ret;exact recP rfl (Stair.pass HOK.out (Stair.pass HK.out (Stair.pass HQ.out (Stair.pass HN.out (Stair.fall (fun h=>by have:=H5.out.2 h;simp at this)))))) HB5.out
    | true=>
     have HKP:Hid (za1 s ⟨2,seq,name,length,group,row,rows,data,delta⟩):=H5.out.1 (by simp)
     go_wp2_with fail
     refine (zjs seq name length group row rows data delta ao6 ao7 ao8 cap6 cap7 cap8 _).mono ?_;rintro e w6 ⟨rfl,b6⟩;have HB6:=hid (HB5.out.trans (b6.mono HB5.out.size));clear b6
     go_wp2_with fail
     refine (zcf _ _ _ _ _ _ _ _ _ _ _ _ _ _ _ _).mono ?_;rintro e w7 ⟨t9,rfl,ht9,b7⟩;have HB7:=hid (HB6.out.trans (b7.mono HB6.out.size));clear b7
     have HT9:Hid (t9=true↔zaX ⟨2,seq,name,length,group,row,rows,data,delta⟩):=by
      show t9=true↔zaX ⟨2,seq,name,length,group,row,rows,data,delta⟩
      rw [ht9];unfold zdE zbW zaX zcA
      simp [and_assoc]
      try (intros;rfl)
     clear ht9
     cases t9 with
     | false=>
      go_wp2;go_ret;exact recP rfl (Stair.pass HOK.out (Stair.pass HK.out (Stair.pass HQ.out (Stair.pass HN.out (Stair.pass HKP.out (Stair.fall (fun h=>by have:=HT9.out.2 h;simp at this))))))) HB7.out
     | true=>
      go_wp2;go_ret;exact recP rfl (Stair.pass HOK.out (Stair.pass HK.out (Stair.pass HQ.out (Stair.pass HN.out (Stair.pass HKP.out (Stair.pass (HT9.out.1 (by simp)) (Stair.last rfl))))))) HB7.out
   ·have HN:Hid (zdb ⟨3,seq,name,length,group,row,rows,data,delta⟩):=fun h=>by simp at h
    obtain ⟨t5,h5⟩:=exB (za1 s ⟨3,seq,name,length,group,row,rows,data,delta⟩);have C5:=zbo (zde s HOK.out ⟨3,seq,name,length,group,row,rows,data,delta⟩ _ hi w1 (zan.rd_below HRD.out HT1.out.bel hhi) (Nat.le_trans hhi HT1.out.bel.size) HK.out) h5;have H5:=hid h5;unfold zad at C5;clear h5
    go_wp2_with fail
    refine C5.mono ?_;rintro e w5 ⟨rfl,b5⟩;have T5:Two w w5 (rwS s).toArray #[.int .i64 3,.int .i64 seq,.string name,.int .i64 length,.int .i64 group,.int .i64 row,.slice ao6 rows.1 cap6,.slice ao7 data.1 cap7,.slice ao8 delta.1 cap8] 31 71:=HT1.out.call b5;have HB5:=hid T5.bel;clear b5 C5;have x5_0:w5.cell? ⟨w.heap.size,0,none⟩=some (.int .i64 (s 0)):=T5.b1.cell 0;have y5_0:w5.cell? ⟨w.heap.size+1,0,none⟩=some (.int .i64 3):=T5.b2.cell 0;have x5_1:w5.cell? ⟨w.heap.size,1,none⟩=some (.int .i64 (s 1)):=T5.b1.cell 1;have y5_1:w5.cell? ⟨w.heap.size+1,1,none⟩=some (.int .i64 seq):=T5.b2.cell 1;have x5_2:w5.cell? ⟨w.heap.size,2,none⟩=some (.int .i64 (s 2)):=T5.b1.cell 2;have y5_2:w5.cell? ⟨w.heap.size+1,2,none⟩=some (.string name):=T5.b2.cell 2;have x5_3:w5.cell? ⟨w.heap.size,3,none⟩=some (.int .i64 (s 3)):=T5.b1.cell 3;have y5_3:w5.cell? ⟨w.heap.size+1,3,none⟩=some (.int .i64 length):=T5.b2.cell 3;have x5_4:w5.cell? ⟨w.heap.size,4,none⟩=some (.int .i64 (s 4)):=T5.b1.cell 4;have y5_4:w5.cell? ⟨w.heap.size+1,4,none⟩=some (.int .i64 group):=T5.b2.cell 4;have x5_5:w5.cell? ⟨w.heap.size,5,none⟩=some (.int .i64 (s 5)):=T5.b1.cell 5;have y5_5:w5.cell? ⟨w.heap.size+1,5,none⟩=some (.int .i64 row):=T5.b2.cell 5;have x5_6:w5.cell? ⟨w.heap.size,6,none⟩=some (.int .i64 (s 6)):=T5.b1.cell 6;have y5_6:w5.cell? ⟨w.heap.size+1,6,none⟩=some (.slice ao6 rows.1 cap6):=T5.b2.cell 6;have x5_7:w5.cell? ⟨w.heap.size,7,none⟩=some (.int .i64 (s 7)):=T5.b1.cell 7;have y5_7:w5.cell? ⟨w.heap.size+1,7,none⟩=some (.slice ao7 data.1 cap7):=T5.b2.cell 7;have x5_8:w5.cell? ⟨w.heap.size,8,none⟩=some (.int .i64 (s 8)):=T5.b1.cell 8;have y5_8:w5.cell? ⟨w.heap.size+1,8,none⟩=some (.slice ao8 delta.1 cap8):=T5.b2.cell 8;clear T5
    cases t5 with
    | false=>
     go_wp2;go_ret;exact recP rfl (Stair.pass HOK.out (Stair.pass HK.out (Stair.pass HQ.out (Stair.pass HN.out (Stair.fall (fun h=>by have:=H5.out.2 h;simp at this)))))) HB5.out
    | true=>
     have HKP:Hid (za1 s ⟨3,seq,name,length,group,row,rows,data,delta⟩):=H5.out.1 (by simp)
     go_wp2_with fail
     refine (zjt seq name length group row rows data delta ao6 ao7 ao8 cap6 cap7 cap8 _).mono ?_;rintro e w6 ⟨rfl,b6⟩;have HB6:=hid (HB5.out.trans (b6.mono HB5.out.size));clear b6
     go_wp2_with fail
     refine (zcf _ _ _ _ _ _ _ _ _ _ _ _ _ _ _ _).mono ?_;rintro e w7 ⟨t9,rfl,ht9,b7⟩;have HB7:=hid (HB6.out.trans (b7.mono HB6.out.size));clear b7
     have HT9:Hid (t9=true↔zaX ⟨3,seq,name,length,group,row,rows,data,delta⟩):=by
      show t9=true↔zaX ⟨3,seq,name,length,group,row,rows,data,delta⟩
      rw [ht9];unfold zdE zbW zaX zcA
      simp [and_assoc]
      try (intros;rfl)
     clear ht9
     cases t9 with
     | false=>
      go_wp2;go_ret;exact recP rfl (Stair.pass HOK.out (Stair.pass HK.out (Stair.pass HQ.out (Stair.pass HN.out (Stair.pass HKP.out (Stair.fall (fun h=>by have:=HT9.out.2 h;simp at this))))))) HB7.out
     | true=>
      go_wp2;go_ret;exact recP rfl (Stair.pass HOK.out (Stair.pass HK.out (Stair.pass HQ.out (Stair.pass HN.out (Stair.pass HKP.out (Stair.pass (HT9.out.1 (by simp)) (Stair.last rfl))))))) HB7.out
   ·have HN:Hid (zdb ⟨4,seq,name,length,group,row,rows,data,delta⟩):=fun h=>by simp at h
    obtain ⟨t5,h5⟩:=exB (za1 s ⟨4,seq,name,length,group,row,rows,data,delta⟩);have C5:=zbo (zde s HOK.out ⟨4,seq,name,length,group,row,rows,data,delta⟩ _ hi w1 (zan.rd_below HRD.out HT1.out.bel hhi) (Nat.le_trans hhi HT1.out.bel.size) HK.out) h5;have H5:=hid h5;unfold zad at C5;clear h5
    go_wp2_with fail
    refine C5.mono ?_;rintro e w5 ⟨rfl,b5⟩;have T5:Two w w5 (rwS s).toArray #[.int .i64 4,.int .i64 seq,.string name,.int .i64 length,.int .i64 group,.int .i64 row,.slice ao6 rows.1 cap6,.slice ao7 data.1 cap7,.slice ao8 delta.1 cap8] 31 71:=HT1.out.call b5;have HB5:=hid T5.bel;clear b5 C5;have x5_0:w5.cell? ⟨w.heap.size,0,none⟩=some (.int .i64 (s 0)):=T5.b1.cell 0;have y5_0:w5.cell? ⟨w.heap.size+1,0,none⟩=some (.int .i64 4):=T5.b2.cell 0;have x5_1:w5.cell? ⟨w.heap.size,1,none⟩=some (.int .i64 (s 1)):=T5.b1.cell 1;have y5_1:w5.cell? ⟨w.heap.size+1,1,none⟩=some (.int .i64 seq):=T5.b2.cell 1;have x5_2:w5.cell? ⟨w.heap.size,2,none⟩=some (.int .i64 (s 2)):=T5.b1.cell 2;have y5_2:w5.cell? ⟨w.heap.size+1,2,none⟩=some (.string name):=T5.b2.cell 2;have x5_3:w5.cell? ⟨w.heap.size,3,none⟩=some (.int .i64 (s 3)):=T5.b1.cell 3;have y5_3:w5.cell? ⟨w.heap.size+1,3,none⟩=some (.int .i64 length):=T5.b2.cell 3;have x5_4:w5.cell? ⟨w.heap.size,4,none⟩=some (.int .i64 (s 4)):=T5.b1.cell 4;have y5_4:w5.cell? ⟨w.heap.size+1,4,none⟩=some (.int .i64 group):=T5.b2.cell 4;have x5_5:w5.cell? ⟨w.heap.size,5,none⟩=some (.int .i64 (s 5)):=T5.b1.cell 5;have y5_5:w5.cell? ⟨w.heap.size+1,5,none⟩=some (.int .i64 row):=T5.b2.cell 5;have x5_6:w5.cell? ⟨w.heap.size,6,none⟩=some (.int .i64 (s 6)):=T5.b1.cell 6;have y5_6:w5.cell? ⟨w.heap.size+1,6,none⟩=some (.slice ao6 rows.1 cap6):=T5.b2.cell 6;have x5_7:w5.cell? ⟨w.heap.size,7,none⟩=some (.int .i64 (s 7)):=T5.b1.cell 7;have y5_7:w5.cell? ⟨w.heap.size+1,7,none⟩=some (.slice ao7 data.1 cap7):=T5.b2.cell 7;have x5_8:w5.cell? ⟨w.heap.size,8,none⟩=some (.int .i64 (s 8)):=T5.b1.cell 8;have y5_8:w5.cell? ⟨w.heap.size+1,8,none⟩=some (.slice ao8 delta.1 cap8):=T5.b2.cell 8;clear T5
    cases t5 with
    | false=>
     go_wp2;go_ret;exact recP rfl (Stair.pass HOK.out (Stair.pass HK.out (Stair.pass HQ.out (Stair.pass HN.out (Stair.fall (fun h=>by have:=H5.out.2 h;simp at this)))))) HB5.out
    | true=>
     have HKP:Hid (za1 s ⟨4,seq,name,length,group,row,rows,data,delta⟩):=H5.out.1 (by simp)
     go_wp2_with fail
     refine (zju seq name length group row rows data delta ao6 ao7 ao8 cap6 cap7 cap8 _).mono ?_;rintro e w6 ⟨rfl,b6⟩;have HB6:=hid (HB5.out.trans (b6.mono HB5.out.size));clear b6
     go_wp2_with fail
     refine (zcf _ _ _ _ _ _ _ _ _ _ _ _ _ _ _ _).mono ?_;rintro e w7 ⟨t9,rfl,ht9,b7⟩;have HB7:=hid (HB6.out.trans (b7.mono HB6.out.size));clear b7
     have HT9:Hid (t9=true↔zaX ⟨4,seq,name,length,group,row,rows,data,delta⟩):=by
      show t9=true↔zaX ⟨4,seq,name,length,group,row,rows,data,delta⟩
      rw [ht9];unfold zdE zbW zaX zcA
      simp [and_assoc]
      try (intros;rfl)
     clear ht9
     cases t9 with
     | false=>
      go_wp2;go_ret;exact recP rfl (Stair.pass HOK.out (Stair.pass HK.out (Stair.pass HQ.out (Stair.pass HN.out (Stair.pass HKP.out (Stair.fall (fun h=>by have:=HT9.out.2 h;simp at this))))))) HB7.out
     | true=>
      go_wp2;go_ret;exact recP rfl (Stair.pass HOK.out (Stair.pass HK.out (Stair.pass HQ.out (Stair.pass HN.out (Stair.pass HKP.out (Stair.pass (HT9.out.1 (by simp)) (Stair.last rfl))))))) HB7.out
  ·go_wp2_with fail
   refine (zaH (t:=false) (by omega) (exBF hq) _).mono ?_;rintro e w' ⟨rfl,hw'⟩;obtain rfl:=hw'.symm;go_wp2;go_ret;exact recP rfl (Stair.pass HOK.out (Stair.pass hk (Stair.fall hq))) HT1.out.bel
 ·go_wp2_with fail
  refine (zaH (t:=false) (by omega) (exBF hk) _).mono ?_;rintro e w' ⟨rfl,hw'⟩;obtain rfl:=hw'.symm;go_wp2;go_ret;exact recP rfl (Stair.pass HOK.out (Stair.fall hk)) HT1.out.bel
theorem zh0 (d:WorldD) (hs:zaj d.shape) (cs:List Value) (hi:Nat) (w:World) (h:zaf.rd w hi d cs) (hhi:hi≤w.heap.size) :
 Calls Tryz.prog 66 #[.agg cs.toArray] w (zaR (OnP d) w):=by
 obtain ⟨ao1,cap1,ao2,cap2,ao3,cap3,rfl,g1,g2,g3,-⟩:=zaz h;obtain ⟨v2,e2,⟨h2,hcp2⟩,_⟩:=g2
 cases e2
 have H2:=hid h2;have HCP:=hid hcp2;have hm2:=h2.mx;unfold maxLen at hm2;have hb:=okB hs;have HS:=hid hs;clear h h2 hcp2 g1 g3 hs;have T0:=zaw w #[.int .i64 (d.shape 0),.int .i64 (d.shape 1),.int .i64 (d.shape 2),.int .i64 (d.shape 3),.int .i64 (d.shape 4),.int .i64 (d.shape 5),.int .i64 (d.shape 6),.int .i64 (d.shape 7),.int .i64 (d.shape 8),.slice ao1 d.groups.1 cap1,.slice ao2 d.on.1 cap2,.slice ao3 d.tapes.1 cap3,.int .i64 d.writes,.int .i64 d.stop,.bool d.down] 35
 go_enter Tryz.func66,Tryz.ntmps66
 cases hd:d.down with
 | true=>
  obtain ⟨b0,h0⟩:∃ b,((d.on.1:Int)==0)=b:=⟨_,rfl⟩
  have HE:Hid (OnP d↔b0=true):=by
   show OnP d↔_
   rw [← h0];unfold OnP
   simp [hd]
   constructor
   ·exact fun h=>h.2.2
   ·intro h
    refine ⟨fun i hi=>by omega,by omega,h⟩
  have HB:Hid (Below w.heap.size w (w.alloc (.cells #[.int .i64 (d.shape 0),.int .i64 (d.shape 1),.int .i64 (d.shape 2),.int .i64 (d.shape 3),.int .i64 (d.shape 4),.int .i64 (d.shape 5),.int .i64 (d.shape 6),.int .i64 (d.shape 7),.int .i64 (d.shape 8),.slice ao1 d.groups.1 cap1,.slice ao2 d.on.1 cap2,.slice ao3 d.tapes.1 cap3,.int .i64 d.writes,.int .i64 d.stop,.bool true] 35))):=by
   have:=T0.bel;rw [hd] at this;exact this
  clear T0
  cases b0 with
  | true=>
   go_wp2;go_ret;exact zam (by simp [h0]) (HE.out.2 (by simp)) HB.out
  | false=>
   go_wp2;go_ret;exact zai (by simp [h0]) (fun h=>by have:=HE.out.1 h;simp at this) HB.out
 | false=>
  have T1:=T0;rw [hd] at T1;clear T0
  go_upto_region 3 with fail
  obtain ⟨W,hW⟩:∃ W,W=w.alloc (.cells #[.int .i64 (d.shape 0),.int .i64 (d.shape 1),.int .i64 (d.shape 2),.int .i64 (d.shape 3),.int .i64 (d.shape 4),.int .i64 (d.shape 5),.int .i64 (d.shape 6),.int .i64 (d.shape 7),.int .i64 (d.shape 8),.slice ao1 d.groups.1 cap1,.slice ao2 d.on.1 cap2,.slice ao3 d.tapes.1 cap3,.int .i64 d.writes,.int .i64 d.stop,.bool false] 35):=⟨_,rfl⟩;rw [← hW] at T1 ⊢;have HT:=hid T1;have x1_0:W.cell? ⟨w.heap.size,0,none⟩=some (.int .i64 (d.shape 0)):=T1.b1.cell 0;have kx1_0:=cell_regrown x1_0;have x1_1:W.cell? ⟨w.heap.size,1,none⟩=some (.int .i64 (d.shape 1)):=T1.b1.cell 1;have kx1_1:=cell_regrown x1_1;have x1_2:W.cell? ⟨w.heap.size,2,none⟩=some (.int .i64 (d.shape 2)):=T1.b1.cell 2;have kx1_2:=cell_regrown x1_2;have x1_3:W.cell? ⟨w.heap.size,3,none⟩=some (.int .i64 (d.shape 3)):=T1.b1.cell 3;have kx1_3:=cell_regrown x1_3;have x1_4:W.cell? ⟨w.heap.size,4,none⟩=some (.int .i64 (d.shape 4)):=T1.b1.cell 4;have kx1_4:=cell_regrown x1_4;have x1_5:W.cell? ⟨w.heap.size,5,none⟩=some (.int .i64 (d.shape 5)):=T1.b1.cell 5;have kx1_5:=cell_regrown x1_5;have x1_6:W.cell? ⟨w.heap.size,6,none⟩=some (.int .i64 (d.shape 6)):=T1.b1.cell 6;have kx1_6:=cell_regrown x1_6;have x1_7:W.cell? ⟨w.heap.size,7,none⟩=some (.int .i64 (d.shape 7)):=T1.b1.cell 7;have kx1_7:=cell_regrown x1_7;have x1_8:W.cell? ⟨w.heap.size,8,none⟩=some (.int .i64 (d.shape 8)):=T1.b1.cell 8;have kx1_8:=cell_regrown x1_8;have x1_10:W.cell? ⟨w.heap.size,10,none⟩=some (.slice ao2 d.on.1 cap2):=T1.b1.cell 10;have kx1_10:=cell_regrown x1_10;obtain ⟨b0,h0⟩:∃ b,decide ((d.on.1:Int)≤d.shape 5)=b:=⟨_,rfl⟩;obtain ⟨t2,h2⟩:=exB (zbB d.on.1 d.on.2 (d.shape 0+d.shape 1-1));have cG:=zas (W:=W) (fun w' _=>za8 d.shape HS.out w');have cD:=zas (W:=W) (fun w' hw'=>zbo (zck _ d.on.1 d.on.2 hi (d.shape 0+d.shape 1) (by omega) (by omega) w' ((H2.out.below T1.bel hhi).below hw' (Nat.le_trans hhi T1.bel.size)) HCP.out (Nat.le_trans hhi (Nat.le_trans T1.bel.size hw'.size))) h2);unfold zad at cG
  have HE:Hid (OnP d↔(b0=true∧t2=true)):=by
   show OnP d↔_
   rw [← h0,h2];unfold OnP
   simp [hd]
   exact ⟨fun h=>⟨h.2,h.1⟩,fun h=>⟨h.2,h.1⟩⟩
  have hst:b0=false∨(b0=true∧t2=false)∨(b0=true∧t2=true):=by
   clear HE h0 h2 cD
   cases b0<;>simp
  clear h2 hW T1
  rcases hst with rfl | ⟨rfl,rfl⟩ | ⟨rfl,rfl⟩
  all_goals
   refine WQ.region (by kernel_rfl) (by kernel_rfl) ?_
   repeat (first | (apply WQ.skip;(case hw=>rfl);intro K hK;go_simp;apply hK;clear hK K) | (apply WQ.want;(case hw=>rfl);intro K hK;go_simp;first | (apply hK;clear hK K) | (apply Exists.intro;apply And.intro;(case left=>intro p;(first | (go_at_call 72;exact cG _ _) | (go_at_call 93;exact cD _ _)));apply hK;clear hK K)))
   refine WQ.nil ?_;intro w2 hw2;have HB2:Hid (Below w.heap.size w w2):=(HT.out.call (zaB hw2)).bel;clear hw2;go_wp2;go_ret
   first
    | exact zai rfl (fun h=>by have:=HE.out.1 h;simp at this) HB2.out
    | exact zam rfl (HE.out.2 (by simp)) HB2.out
set_option maxRecDepth 20000 in
theorem ze8 (d:WorldD) (cs:List Value) (hi:Nat) (w:World) (h:zaf.rd w hi d cs) (hhi:hi≤w.heap.size) (hnm:∀ t,t<d.tapes.1→∀ i,i<(d.tapes.2 t).recs.1→((d.tapes.2 t).recs.2 i).name.size≤1048576) :
 Calls Tryz.prog 69 #[.agg cs.toArray] w (zjW d.shape d.tapes w):=by
 obtain ⟨ao1,cap1,ao2,cap2,ao3,cap3,rfl,g1,g2,g3,-⟩:=zaz h;obtain ⟨_,_,e3,hm3,hc3⟩:=g3
 cases e3
 unfold maxLen at hm3;have HC3:=hid hc3;have HNM:=hid hnm;have HT0:Hid (One w (w.alloc (.cells (rwW d ao1 cap1 ao2 cap2 ao3 cap3).toArray 35)) (rwW d ao1 cap1 ao2 cap2 ao3 cap3).toArray 35):=zaw w (rwW d ao1 cap1 ao2 cap2 ao3 cap3).toArray 35;clear h g1 g2 hc3 hnm
 go_enter Tryz.func69,Tryz.ntmps69
 go_wp2
 go_loopw [11] (fun v wr=>∃ t:Nat,t≤d.tapes.1∧v=.int .i64 t∧(∀ u,u<t→∀ k,k<(d.tapes.2 u).recs.1→RecAns d.shape ((d.tapes.2 u).recs.2 k) 0)∧One w wr (rwW d ao1 cap1 ao2 cap2 ao3 cap3).toArray 35) (fun v _=>d.tapes.1-(intOf v).toNat)
 case atStart=>exact ⟨0,Nat.zero_le _,rfl,fun i hi=>by omega,HT0.out⟩
 case round=>
  clear HT0;obtain ⟨t,ht,rfl,hal,T1⟩:=hrel;obtain ⟨wo,rfl⟩:∃ x,x=wr:=⟨_,rfl⟩;have HAL:=hid hal;have HT1:=hid T1;clear hal
  by_cases hlt:t<d.tapes.1
  ·obtain ⟨b3,off3,he3,hb3,hel3⟩:=HC3.out (by omega)
   subst he3;obtain ⟨ct,hrt,hct⟩:=zat (t:=0) hel3 T1.bel hhi hb3 hlt;obtain ⟨ap,cp,rfl,gt⟩:=zba hrt;have c0:wo.cell? ⟨b3,off3+t*2,none⟩=some (.bool (d.tapes.2 t).wiped):=hct 0 (by decide);have c1:wo.cell? ⟨b3,off3+t*2+1,none⟩=some (.slice ap (d.tapes.2 t).recs.1 cp):=hct 1 (by decide);obtain ⟨_,_,et,hmt,hct'⟩:=gt
   cases et
   unfold maxLen at hmt;have HCT:=hid hct';have zo:w.heap.size<wo.heap.size:=T1.b1.lt;clear hel3 hct hrt hct' T1
   go_upto_region 4 with fail
   have bA:=bAl wo (.cells #[.bool (d.tapes.2 t).wiped,.slice ap (d.tapes.2 t).recs.1 cp] 67);have X2:=zaD wo #[.bool (d.tapes.2 t).wiped,.slice ap (d.tapes.2 t).recs.1 cp] 67;obtain ⟨W2,hW2⟩:∃ x,x=wo.alloc (.cells #[.bool (d.tapes.2 t).wiped,.slice ap (d.tapes.2 t).recs.1 cp] 67):=⟨_,rfl⟩;rw [← hW2] at bA X2 ⊢;have y2_1:W2.cell? ⟨wo.heap.size,1,none⟩=some (.slice ap (d.tapes.2 t).recs.1 cp):=X2.cell 1;have HB2:=hid bA;clear c0 c1 X2 bA hW2;go_wp2
   go_loopw [18] (fun v wx=>∃ i:Nat,i≤(d.tapes.2 t).recs.1∧v=.int .i64 i∧(∀ k,k<i→RecAns d.shape ((d.tapes.2 t).recs.2 k) 0)∧Below wo.heap.size wo wx) (fun v _=>(d.tapes.2 t).recs.1-(intOf v).toNat)
   case atStart=>exact ⟨0,Nat.zero_le _,rfl,fun i hi=>by omega,HB2.out⟩
   case round=>
    clear HB2 y2_1;obtain ⟨i,hi',rfl,hal2,hb4⟩:=hrel;obtain ⟨wx,rfl⟩:∃ x,x=wr:=⟨_,rfl⟩;have HAL2:=hid hal2;have HB4:=hid hb4;clear hal2
    by_cases hli:i<(d.tapes.2 t).recs.1
    ·obtain ⟨b6,off6,he6,hb6,hel6⟩:=HCT.out (by omega)
     subst he6;obtain ⟨cr,hrr,hcr⟩:=zat (t:=0) hel6 hb4 (by omega) hb6 hli;obtain ⟨ro6,rc6,ro7,rc7,ro8,rc8,rfl,-⟩:=zbz hrr;have r0:wx.cell? ⟨b6,off6+i*9,none⟩=some (.int .i64 ((d.tapes.2 t).recs.2 i).kind):=hcr 0 (by decide);have r1:wx.cell? ⟨b6,off6+i*9+1,none⟩=some (.int .i64 ((d.tapes.2 t).recs.2 i).seq):=hcr 1 (by decide);have r2:wx.cell? ⟨b6,off6+i*9+2,none⟩=some (.string ((d.tapes.2 t).recs.2 i).name):=hcr 2 (by decide);have r3:wx.cell? ⟨b6,off6+i*9+3,none⟩=some (.int .i64 ((d.tapes.2 t).recs.2 i).length):=hcr 3 (by decide);have r4:wx.cell? ⟨b6,off6+i*9+4,none⟩=some (.int .i64 ((d.tapes.2 t).recs.2 i).group):=hcr 4 (by decide);have r5:wx.cell? ⟨b6,off6+i*9+5,none⟩=some (.int .i64 ((d.tapes.2 t).recs.2 i).row):=hcr 5 (by decide);have r6:wx.cell? ⟨b6,off6+i*9+6,none⟩=some (.slice ro6 ((d.tapes.2 t).recs.2 i).rows.1 rc6):=hcr 6 (by decide);have r7:wx.cell? ⟨b6,off6+i*9+7,none⟩=some (.slice ro7 ((d.tapes.2 t).recs.2 i).data.1 rc7):=hcr 7 (by decide);have r8:wx.cell? ⟨b6,off6+i*9+8,none⟩=some (.slice ro8 ((d.tapes.2 t).recs.2 i).delta.1 rc8):=hcr 8 (by decide);have HRR:=hid hrr;have T4:One w wx (rwW d ao1 cap1 ao2 cap2 (some ⟨b3,off3,none⟩) cap3).toArray 35:=HT1.out.call hb4;have HT4:=hid T4;have zx:wo.heap.size≤wx.heap.size:=hb4.size;obtain ⟨X,hX⟩:∃ X,RecAns d.shape ((d.tapes.2 t).recs.2 i) X:=zeZ (K:=isZ) ⟨0,rfl⟩ _;have HX:=hid hX;clear hel6 hcr hrr T4 hb4 hX
     go_upto_region 7 with fail
     have bA:=bAl wx (.cells #[.int .i64 ((d.tapes.2 t).recs.2 i).kind,.int .i64 ((d.tapes.2 t).recs.2 i).seq,.string ((d.tapes.2 t).recs.2 i).name,.int .i64 ((d.tapes.2 t).recs.2 i).length,.int .i64 ((d.tapes.2 t).recs.2 i).group,.int .i64 ((d.tapes.2 t).recs.2 i).row,.slice ro6 ((d.tapes.2 t).recs.2 i).rows.1 rc6,.slice ro7 ((d.tapes.2 t).recs.2 i).data.1 rc7,.slice ro8 ((d.tapes.2 t).recs.2 i).delta.1 rc8] 71);have X5:=zaD wx #[.int .i64 ((d.tapes.2 t).recs.2 i).kind,.int .i64 ((d.tapes.2 t).recs.2 i).seq,.string ((d.tapes.2 t).recs.2 i).name,.int .i64 ((d.tapes.2 t).recs.2 i).length,.int .i64 ((d.tapes.2 t).recs.2 i).group,.int .i64 ((d.tapes.2 t).recs.2 i).row,.slice ro6 ((d.tapes.2 t).recs.2 i).rows.1 rc6,.slice ro7 ((d.tapes.2 t).recs.2 i).data.1 rc7,.slice ro8 ((d.tapes.2 t).recs.2 i).delta.1 rc8] 71;obtain ⟨W5,hW5⟩:∃ x,x=wx.alloc (.cells #[.int .i64 ((d.tapes.2 t).recs.2 i).kind,.int .i64 ((d.tapes.2 t).recs.2 i).seq,.string ((d.tapes.2 t).recs.2 i).name,.int .i64 ((d.tapes.2 t).recs.2 i).length,.int .i64 ((d.tapes.2 t).recs.2 i).group,.int .i64 ((d.tapes.2 t).recs.2 i).row,.slice ro6 ((d.tapes.2 t).recs.2 i).rows.1 rc6,.slice ro7 ((d.tapes.2 t).recs.2 i).data.1 rc7,.slice ro8 ((d.tapes.2 t).recs.2 i).delta.1 rc8] 71):=⟨_,rfl⟩;rw [← hW5] at bA X5 ⊢;have T5:One w W5 (rwW d ao1 cap1 ao2 cap2 (some ⟨b3,off3,none⟩) cap3).toArray 35:=HT4.out.call bA;have y5_0:W5.cell? ⟨wx.heap.size,0,none⟩=some (.int .i64 ((d.tapes.2 t).recs.2 i).kind):=X5.cell 0;have y5_1:W5.cell? ⟨wx.heap.size,1,none⟩=some (.int .i64 ((d.tapes.2 t).recs.2 i).seq):=X5.cell 1;have y5_2:W5.cell? ⟨wx.heap.size,2,none⟩=some (.string ((d.tapes.2 t).recs.2 i).name):=X5.cell 2;have y5_3:W5.cell? ⟨wx.heap.size,3,none⟩=some (.int .i64 ((d.tapes.2 t).recs.2 i).length):=X5.cell 3;have y5_4:W5.cell? ⟨wx.heap.size,4,none⟩=some (.int .i64 ((d.tapes.2 t).recs.2 i).group):=X5.cell 4;have y5_5:W5.cell? ⟨wx.heap.size,5,none⟩=some (.int .i64 ((d.tapes.2 t).recs.2 i).row):=X5.cell 5;have y5_6:W5.cell? ⟨wx.heap.size,6,none⟩=some (.slice ro6 ((d.tapes.2 t).recs.2 i).rows.1 rc6):=X5.cell 6;have y5_7:W5.cell? ⟨wx.heap.size,7,none⟩=some (.slice ro7 ((d.tapes.2 t).recs.2 i).data.1 rc7):=X5.cell 7
     have y5_8:W5.cell? ⟨wx.heap.size,8,none⟩=some (.slice ro8 ((d.tapes.2 t).recs.2 i).delta.1 rc8):=X5.cell 8;have x5_0:W5.cell? ⟨w.heap.size,0,none⟩=some (.int .i64 (d.shape 0)):=T5.b1.cell 0;have x5_1:W5.cell? ⟨w.heap.size,1,none⟩=some (.int .i64 (d.shape 1)):=T5.b1.cell 1;have x5_2:W5.cell? ⟨w.heap.size,2,none⟩=some (.int .i64 (d.shape 2)):=T5.b1.cell 2;have x5_3:W5.cell? ⟨w.heap.size,3,none⟩=some (.int .i64 (d.shape 3)):=T5.b1.cell 3;have x5_4:W5.cell? ⟨w.heap.size,4,none⟩=some (.int .i64 (d.shape 4)):=T5.b1.cell 4;have x5_5:W5.cell? ⟨w.heap.size,5,none⟩=some (.int .i64 (d.shape 5)):=T5.b1.cell 5;have x5_6:W5.cell? ⟨w.heap.size,6,none⟩=some (.int .i64 (d.shape 6)):=T5.b1.cell 6;have x5_7:W5.cell? ⟨w.heap.size,7,none⟩=some (.int .i64 (d.shape 7)):=T5.b1.cell 7;have x5_8:W5.cell? ⟨w.heap.size,8,none⟩=some (.int .i64 (d.shape 8)):=T5.b1.cell 8;have CR:=ziO HX.out (zgO d.shape ((d.tapes.2 t).recs.2 i) _ hi W5 (zan.rd_below HRR.out bA (by omega)) (by have:=bA.size;omega) (HNM.out t hlt i hli));unfold zad at CR;have HB5:=hid bA;clear r0 r1 r2 r3 r4 r5 r6 r7 r8 bA X5 T5 hW5
     go_wp2_with fail
     refine CR.mono ?_;rintro e w6 ⟨rfl,b6'⟩;have HB6:Hid (Below wo.heap.size wo w6):=HB4.out.trans ((HB5.out.trans (b6'.mono HB5.out.size)).mono HB4.out.size);clear b6' CR y5_0 x5_0 y5_1 x5_1 y5_2 x5_2 y5_3 x5_3 y5_4 x5_4 y5_5 x5_5 y5_6 x5_6 y5_7 x5_7 y5_8 x5_8
     by_cases hx0:X=0
     ·subst hx0
      go_wp2
      go_roundw
      case rel=>exact ⟨i+1,by omega,by go_num,fun k hk=>by
       by_cases c:k=i
       ·subst c;exact HX.out
       ·exact HAL2.out k (by omega),HB6.out⟩
      case measure=>simp [intOf];omega
     ·have hne:(X != 0)=true:=by simp [hx0]
      go_wp2;go_ret;exact ⟨X,rfl,.inr ⟨hx0,t,i,hlt,hli,HX.out,HAL2.out,HAL.out⟩,(HT1.out.call HB6.out).bel⟩
    ·obtain rfl:i=(d.tapes.2 t).recs.1:=by omega
     clear hb4;go_wp2
     go_roundw
     case rel=>exact ⟨t+1,by omega,by go_num,fun u hu=>by
      by_cases c:u=t
      ·subst c;exact HAL2.out
      ·exact HAL.out u (by omega),HT1.out.call HB4.out⟩
     case measure=>simp [intOf];omega
  ·obtain rfl:t=d.tapes.1:=by omega
   go_wp2;go_ret;exact ⟨0,rfl,.inl ⟨rfl,HAL.out⟩,HT1.out.bel⟩
set_option maxRecDepth 20000 in
theorem ze9 (d:WorldD) (cs:List Value) (hi:Nat) (w:World) (h:zaf.rd w hi d cs) (hhi:hi≤w.heap.size) (hnm:∀ t,t<d.tapes.1→∀ i,i<(d.tapes.2 t).recs.1→((d.tapes.2 t).recs.2 i).name.size≤1048576) :
 Calls Tryz.prog 41 #[.agg cs.toArray] w (zcB d w):=by
 obtain ⟨ao1,cap1,ao2,cap2,ao3,cap3,rfl,g1,g2,g3,-⟩:=zaz h;have HRD:=hid h;have HG1:=hid g1;have HG3:=hid g3
 have hm3:d.tapes.1≤maxLen:=by obtain ⟨_,_,_,h,_⟩:=g3;exact h
 unfold maxLen at hm3;have HNM:=hid hnm;clear h g1 g2 g3 hnm;have T0:=zaw w (rwW d ao1 cap1 ao2 cap2 ao3 cap3).toArray 35;have CSh:=fun w'=>zce d.shape w';unfold zad at CSh
 go_enter Tryz.func41,Tryz.ntmps41
 go_wp2_with fail
 refine (CSh _).mono ?_;rintro e w1 ⟨x,rfl,hx,b1⟩;have T1:One w w1 (rwW d ao1 cap1 ao2 cap2 ao3 cap3).toArray 35:=T0.call b1;have HT1:=hid T1;clear b1 T0 CSh;have x1_0:w1.cell? ⟨w.heap.size,0,none⟩=some (.int .i64 (d.shape 0)):=T1.b1.cell 0;have x1_1:w1.cell? ⟨w.heap.size,1,none⟩=some (.int .i64 (d.shape 1)):=T1.b1.cell 1;have x1_2:w1.cell? ⟨w.heap.size,2,none⟩=some (.int .i64 (d.shape 2)):=T1.b1.cell 2;have x1_3:w1.cell? ⟨w.heap.size,3,none⟩=some (.int .i64 (d.shape 3)):=T1.b1.cell 3;have x1_4:w1.cell? ⟨w.heap.size,4,none⟩=some (.int .i64 (d.shape 4)):=T1.b1.cell 4;have x1_5:w1.cell? ⟨w.heap.size,5,none⟩=some (.int .i64 (d.shape 5)):=T1.b1.cell 5;have x1_6:w1.cell? ⟨w.heap.size,6,none⟩=some (.int .i64 (d.shape 6)):=T1.b1.cell 6;have x1_7:w1.cell? ⟨w.heap.size,7,none⟩=some (.int .i64 (d.shape 7)):=T1.b1.cell 7;have x1_8:w1.cell? ⟨w.heap.size,8,none⟩=some (.int .i64 (d.shape 8)):=T1.b1.cell 8;have x1_9:w1.cell? ⟨w.heap.size,9,none⟩=some (.slice ao1 d.groups.1 cap1):=T1.b1.cell 9;have x1_10:w1.cell? ⟨w.heap.size,10,none⟩=some (.slice ao2 d.on.1 cap2):=T1.b1.cell 10;have x1_11:w1.cell? ⟨w.heap.size,11,none⟩=some (.slice ao3 d.tapes.1 cap3):=T1.b1.cell 11;have x1_12:w1.cell? ⟨w.heap.size,12,none⟩=some (.int .i64 d.writes):=T1.b1.cell 12;have x1_13:w1.cell? ⟨w.heap.size,13,none⟩=some (.int .i64 d.stop):=T1.b1.cell 13;have x1_14:w1.cell? ⟨w.heap.size,14,none⟩=some (.bool d.down):=T1.b1.cell 14;clear T1
 rcases hx with ⟨rfl,hno⟩ | ⟨rfl,hok⟩
 ·go_wp2
  go_ret;exact wldP rfl (Stair.fall hno) HT1.out.bel
 have HOK:=hid hok;clear hok;obtain ⟨t1,h1⟩:=exB (zcj d);have C1:=zbo (ze7 d.shape HOK.out d.groups _ hi w1 (((zae.slice 79).slice 80).rd_below HG1.out HT1.out.bel hhi) (Nat.le_trans hhi HT1.out.bel.size)) (show t1=true↔ziS d.shape d.groups from h1);unfold zad at C1;have H1:=hid h1;clear h1
 go_wp2_with fail
 refine C1.mono ?_;rintro e w2 ⟨rfl,b2⟩;have T2:One w w2 (rwW d ao1 cap1 ao2 cap2 ao3 cap3).toArray 35:=HT1.out.call b2;have HT2:=hid T2;clear b2 x1_0 x1_1 x1_2 x1_3 x1_4 x1_5 x1_6 x1_7 x1_8 x1_9 x1_10 x1_11 x1_12 x1_13 x1_14;have x2_0:w2.cell? ⟨w.heap.size,0,none⟩=some (.int .i64 (d.shape 0)):=T2.b1.cell 0;have x2_1:w2.cell? ⟨w.heap.size,1,none⟩=some (.int .i64 (d.shape 1)):=T2.b1.cell 1;have x2_2:w2.cell? ⟨w.heap.size,2,none⟩=some (.int .i64 (d.shape 2)):=T2.b1.cell 2;have x2_3:w2.cell? ⟨w.heap.size,3,none⟩=some (.int .i64 (d.shape 3)):=T2.b1.cell 3;have x2_4:w2.cell? ⟨w.heap.size,4,none⟩=some (.int .i64 (d.shape 4)):=T2.b1.cell 4;have x2_5:w2.cell? ⟨w.heap.size,5,none⟩=some (.int .i64 (d.shape 5)):=T2.b1.cell 5;have x2_6:w2.cell? ⟨w.heap.size,6,none⟩=some (.int .i64 (d.shape 6)):=T2.b1.cell 6;have x2_7:w2.cell? ⟨w.heap.size,7,none⟩=some (.int .i64 (d.shape 7)):=T2.b1.cell 7;have x2_8:w2.cell? ⟨w.heap.size,8,none⟩=some (.int .i64 (d.shape 8)):=T2.b1.cell 8;have x2_9:w2.cell? ⟨w.heap.size,9,none⟩=some (.slice ao1 d.groups.1 cap1):=T2.b1.cell 9;have x2_10:w2.cell? ⟨w.heap.size,10,none⟩=some (.slice ao2 d.on.1 cap2):=T2.b1.cell 10;have x2_11:w2.cell? ⟨w.heap.size,11,none⟩=some (.slice ao3 d.tapes.1 cap3):=T2.b1.cell 11;have x2_12:w2.cell? ⟨w.heap.size,12,none⟩=some (.int .i64 d.writes):=T2.b1.cell 12;have x2_13:w2.cell? ⟨w.heap.size,13,none⟩=some (.int .i64 d.stop):=T2.b1.cell 13;have x2_14:w2.cell? ⟨w.heap.size,14,none⟩=some (.bool d.down):=T2.b1.cell 14;clear T2;clear C1
 cases t1 with
 | false=>
  go_wp2;go_ret;exact wldP rfl (Stair.pass HOK.out (Stair.fall (fun h=>by have:=H1.out.2 h.1;simp at this))) HT2.out.bel
 | true=>
 have HB:Hid (zcj d):=H1.out.1 rfl;clear H1;obtain ⟨t2,h2⟩:=exB (OnP d);have C2:=zbo (zh0 d HOK.out _ hi w2 (zaf.rd_below HRD.out HT2.out.bel hhi) (Nat.le_trans hhi HT2.out.bel.size)) h2;have H2:=hid h2;clear h2
 go_wp2_with fail
 refine C2.mono ?_;rintro e w3 ⟨rfl,b3⟩;have T3:One w w3 (rwW d ao1 cap1 ao2 cap2 ao3 cap3).toArray 35:=HT2.out.call b3;have HT3:=hid T3;clear b3 x2_0 x2_1 x2_2 x2_3 x2_4 x2_5 x2_6 x2_7 x2_8 x2_9 x2_10 x2_11 x2_12 x2_13 x2_14;have x3_0:w3.cell? ⟨w.heap.size,0,none⟩=some (.int .i64 (d.shape 0)):=T3.b1.cell 0;have x3_1:w3.cell? ⟨w.heap.size,1,none⟩=some (.int .i64 (d.shape 1)):=T3.b1.cell 1;have x3_2:w3.cell? ⟨w.heap.size,2,none⟩=some (.int .i64 (d.shape 2)):=T3.b1.cell 2;have x3_3:w3.cell? ⟨w.heap.size,3,none⟩=some (.int .i64 (d.shape 3)):=T3.b1.cell 3;have x3_4:w3.cell? ⟨w.heap.size,4,none⟩=some (.int .i64 (d.shape 4)):=T3.b1.cell 4;have x3_5:w3.cell? ⟨w.heap.size,5,none⟩=some (.int .i64 (d.shape 5)):=T3.b1.cell 5;have x3_6:w3.cell? ⟨w.heap.size,6,none⟩=some (.int .i64 (d.shape 6)):=T3.b1.cell 6;have x3_7:w3.cell? ⟨w.heap.size,7,none⟩=some (.int .i64 (d.shape 7)):=T3.b1.cell 7;have x3_8:w3.cell? ⟨w.heap.size,8,none⟩=some (.int .i64 (d.shape 8)):=T3.b1.cell 8;have x3_9:w3.cell? ⟨w.heap.size,9,none⟩=some (.slice ao1 d.groups.1 cap1):=T3.b1.cell 9;have x3_10:w3.cell? ⟨w.heap.size,10,none⟩=some (.slice ao2 d.on.1 cap2):=T3.b1.cell 10;have x3_11:w3.cell? ⟨w.heap.size,11,none⟩=some (.slice ao3 d.tapes.1 cap3):=T3.b1.cell 11;have x3_12:w3.cell? ⟨w.heap.size,12,none⟩=some (.int .i64 d.writes):=T3.b1.cell 12;have x3_13:w3.cell? ⟨w.heap.size,13,none⟩=some (.int .i64 d.stop):=T3.b1.cell 13;have x3_14:w3.cell? ⟨w.heap.size,14,none⟩=some (.bool d.down):=T3.b1.cell 14;clear T3;clear C2
 cases t2 with
 | false=>
  go_wp2;go_ret;exact wldP rfl (Stair.pass HOK.out (Stair.fall (fun h=>by have:=H2.out.2 h.2.1;simp at this))) HT3.out.bel
 | true=>
 have HO:Hid (OnP d):=H2.out.1 rfl;clear H2
 by_cases h5:d.tapes.1=2
 ·have n5:((d.tapes.1:Int) != 2)=false:=by simp;omega
  have HFM:Hid (zcb d):=⟨HB.out,HO.out,h5⟩;clear h5;obtain ⟨t4,h4⟩:=exB (zbe d.tapes);have C4:=zbo (zdw d.tapes _ _ hi w3 ((zav.slice 67).rd_below HG3.out HT3.out.bel hhi) (Nat.le_trans hhi HT3.out.bel.size)) h4;have H4:=hid h4;clear h4
  go_wp2_with fail
  refine C4.mono ?_;rintro e w4 ⟨rfl,b4⟩;have T4:One w w4 (rwW d ao1 cap1 ao2 cap2 ao3 cap3).toArray 35:=HT3.out.call b4;have HT4:=hid T4;clear b4 x3_0 x3_1 x3_2 x3_3 x3_4 x3_5 x3_6 x3_7 x3_8 x3_9 x3_10 x3_11 x3_12 x3_13 x3_14;have x4_0:w4.cell? ⟨w.heap.size,0,none⟩=some (.int .i64 (d.shape 0)):=T4.b1.cell 0;have x4_1:w4.cell? ⟨w.heap.size,1,none⟩=some (.int .i64 (d.shape 1)):=T4.b1.cell 1;have x4_2:w4.cell? ⟨w.heap.size,2,none⟩=some (.int .i64 (d.shape 2)):=T4.b1.cell 2;have x4_3:w4.cell? ⟨w.heap.size,3,none⟩=some (.int .i64 (d.shape 3)):=T4.b1.cell 3;have x4_4:w4.cell? ⟨w.heap.size,4,none⟩=some (.int .i64 (d.shape 4)):=T4.b1.cell 4;have x4_5:w4.cell? ⟨w.heap.size,5,none⟩=some (.int .i64 (d.shape 5)):=T4.b1.cell 5;have x4_6:w4.cell? ⟨w.heap.size,6,none⟩=some (.int .i64 (d.shape 6)):=T4.b1.cell 6;have x4_7:w4.cell? ⟨w.heap.size,7,none⟩=some (.int .i64 (d.shape 7)):=T4.b1.cell 7;have x4_8:w4.cell? ⟨w.heap.size,8,none⟩=some (.int .i64 (d.shape 8)):=T4.b1.cell 8;have x4_9:w4.cell? ⟨w.heap.size,9,none⟩=some (.slice ao1 d.groups.1 cap1):=T4.b1.cell 9;have x4_10:w4.cell? ⟨w.heap.size,10,none⟩=some (.slice ao2 d.on.1 cap2):=T4.b1.cell 10;have x4_11:w4.cell? ⟨w.heap.size,11,none⟩=some (.slice ao3 d.tapes.1 cap3):=T4.b1.cell 11;have x4_12:w4.cell? ⟨w.heap.size,12,none⟩=some (.int .i64 d.writes):=T4.b1.cell 12;have x4_13:w4.cell? ⟨w.heap.size,13,none⟩=some (.int .i64 d.stop):=T4.b1.cell 13;have x4_14:w4.cell? ⟨w.heap.size,14,none⟩=some (.bool d.down):=T4.b1.cell 14;clear T4;clear C4
  cases t4 with
  | true=>
   go_wp2;go_ret
   exact wldP rfl (Stair.pass HOK.out (Stair.pass HFM.out (Stair.fall (fun h=>by
    obtain ⟨t,ht,hh⟩:=H4.out.1 (by simp);have:=h t ht
    omega)))) HT4.out.bel
  | false=>
  have HFW:Hid (FewP d):=fun t ht=>by
   by_cases c:200<(d.tapes.2 t).recs.1
   ·have:=H4.out.2 ⟨t,ht,c⟩
    simp at this
   ·omega
  clear H4;have C5:=ze8 d _ hi w4 (zaf.rd_below HRD.out HT4.out.bel hhi) (Nat.le_trans hhi HT4.out.bel.size) HNM.out
  go_wp2_with fail
  refine C5.mono ?_;rintro e w5 ⟨X,rfl,hX,b5⟩;have T5:One w w5 (rwW d ao1 cap1 ao2 cap2 ao3 cap3).toArray 35:=HT4.out.call b5;have HT5:=hid T5;clear b5 x4_0 x4_1 x4_2 x4_3 x4_4 x4_5 x4_6 x4_7 x4_8 x4_9 x4_10 x4_11 x4_12 x4_13 x4_14;have x5_0:w5.cell? ⟨w.heap.size,0,none⟩=some (.int .i64 (d.shape 0)):=T5.b1.cell 0;have x5_1:w5.cell? ⟨w.heap.size,1,none⟩=some (.int .i64 (d.shape 1)):=T5.b1.cell 1;have x5_2:w5.cell? ⟨w.heap.size,2,none⟩=some (.int .i64 (d.shape 2)):=T5.b1.cell 2;have x5_3:w5.cell? ⟨w.heap.size,3,none⟩=some (.int .i64 (d.shape 3)):=T5.b1.cell 3;have x5_4:w5.cell? ⟨w.heap.size,4,none⟩=some (.int .i64 (d.shape 4)):=T5.b1.cell 4;have x5_5:w5.cell? ⟨w.heap.size,5,none⟩=some (.int .i64 (d.shape 5)):=T5.b1.cell 5;have x5_6:w5.cell? ⟨w.heap.size,6,none⟩=some (.int .i64 (d.shape 6)):=T5.b1.cell 6;have x5_7:w5.cell? ⟨w.heap.size,7,none⟩=some (.int .i64 (d.shape 7)):=T5.b1.cell 7;have x5_8:w5.cell? ⟨w.heap.size,8,none⟩=some (.int .i64 (d.shape 8)):=T5.b1.cell 8;have x5_9:w5.cell? ⟨w.heap.size,9,none⟩=some (.slice ao1 d.groups.1 cap1):=T5.b1.cell 9;have x5_10:w5.cell? ⟨w.heap.size,10,none⟩=some (.slice ao2 d.on.1 cap2):=T5.b1.cell 10;have x5_11:w5.cell? ⟨w.heap.size,11,none⟩=some (.slice ao3 d.tapes.1 cap3):=T5.b1.cell 11;have x5_12:w5.cell? ⟨w.heap.size,12,none⟩=some (.int .i64 d.writes):=T5.b1.cell 12;have x5_13:w5.cell? ⟨w.heap.size,13,none⟩=some (.int .i64 d.stop):=T5.b1.cell 13;have x5_14:w5.cell? ⟨w.heap.size,14,none⟩=some (.bool d.down):=T5.b1.cell 14;clear T5;clear C5
  by_cases hx0:X=0
  ·subst hx0
   have HRZ:=hid hX;clear hX;obtain ⟨t6,h6⟩:=exB (zaI d.tapes);have C6:=zbo (zcl d.tapes _ _ hi w5 ((zav.slice 67).rd_below HG3.out HT5.out.bel hhi) (Nat.le_trans hhi HT5.out.bel.size)) h6;have H6:=hid h6;clear h6
   go_wp2_with fail
   refine C6.mono ?_;rintro e w6 ⟨rfl,b6⟩;have T6:One w w6 (rwW d ao1 cap1 ao2 cap2 ao3 cap3).toArray 35:=HT5.out.call b6;have HT6:=hid T6;clear b6 x5_0 x5_1 x5_2 x5_3 x5_4 x5_5 x5_6 x5_7 x5_8 x5_9 x5_10 x5_11 x5_12 x5_13 x5_14;have x6_0:w6.cell? ⟨w.heap.size,0,none⟩=some (.int .i64 (d.shape 0)):=T6.b1.cell 0;have x6_1:w6.cell? ⟨w.heap.size,1,none⟩=some (.int .i64 (d.shape 1)):=T6.b1.cell 1;have x6_2:w6.cell? ⟨w.heap.size,2,none⟩=some (.int .i64 (d.shape 2)):=T6.b1.cell 2;have x6_3:w6.cell? ⟨w.heap.size,3,none⟩=some (.int .i64 (d.shape 3)):=T6.b1.cell 3;have x6_4:w6.cell? ⟨w.heap.size,4,none⟩=some (.int .i64 (d.shape 4)):=T6.b1.cell 4;have x6_5:w6.cell? ⟨w.heap.size,5,none⟩=some (.int .i64 (d.shape 5)):=T6.b1.cell 5;have x6_6:w6.cell? ⟨w.heap.size,6,none⟩=some (.int .i64 (d.shape 6)):=T6.b1.cell 6;have x6_7:w6.cell? ⟨w.heap.size,7,none⟩=some (.int .i64 (d.shape 7)):=T6.b1.cell 7;have x6_8:w6.cell? ⟨w.heap.size,8,none⟩=some (.int .i64 (d.shape 8)):=T6.b1.cell 8;have x6_9:w6.cell? ⟨w.heap.size,9,none⟩=some (.slice ao1 d.groups.1 cap1):=T6.b1.cell 9;have x6_10:w6.cell? ⟨w.heap.size,10,none⟩=some (.slice ao2 d.on.1 cap2):=T6.b1.cell 10;have x6_11:w6.cell? ⟨w.heap.size,11,none⟩=some (.slice ao3 d.tapes.1 cap3):=T6.b1.cell 11;have x6_12:w6.cell? ⟨w.heap.size,12,none⟩=some (.int .i64 d.writes):=T6.b1.cell 12;have x6_13:w6.cell? ⟨w.heap.size,13,none⟩=some (.int .i64 d.stop):=T6.b1.cell 13;have x6_14:w6.cell? ⟨w.heap.size,14,none⟩=some (.bool d.down):=T6.b1.cell 14;clear T6;clear C6
   cases t6 with
   | true=>
    go_wp2;go_ret;exact wldP rfl (Stair.pass HOK.out (Stair.pass HFM.out (Stair.pass HFW.out (Stair.last (.inr ⟨HRZ.out,Stair.fall (fun h=>by obtain ⟨t,ht,h1,h2⟩:=H6.out.1 (by simp);have:=h t ht h1;omega)⟩))))) HT6.out.bel
   | false=>
   have HCL:Hid (ziM d):=fun t ht hw=>by
    by_cases c:0<(d.tapes.2 t).recs.1
    ·have:=H6.out.2 ⟨t,ht,hw,c⟩
     simp at this
    ·omega
   clear H6
   by_cases h7:InP d.writes 0 1000000000
   ·go_wp2_with fail
    refine (zaH (t:=true) (by omega) (exBT h7) _).mono ?_;rintro e w' ⟨rfl,hw'⟩;obtain rfl:=hw'.symm
    by_cases h8:InP d.stop (-1) 1000000000
    ·go_wp2_with fail
     refine (zaH (t:=true) (by omega) (exBT h8) _).mono ?_;rintro e w' ⟨rfl,hw'⟩;obtain rfl:=hw'.symm;go_wp2;go_ret;exact wldP rfl (Stair.pass HOK.out (Stair.pass HFM.out (Stair.pass HFW.out (Stair.last (.inr ⟨HRZ.out,Stair.pass HCL.out (Stair.pass ⟨h7,h8⟩ (Stair.last rfl))⟩))))) HT6.out.bel
    ·go_wp2_with fail
     refine (zaH (t:=false) (by omega) (exBF h8) _).mono ?_;rintro e w' ⟨rfl,hw'⟩;obtain rfl:=hw'.symm;go_wp2;go_ret;exact wldP rfl (Stair.pass HOK.out (Stair.pass HFM.out (Stair.pass HFW.out (Stair.last (.inr ⟨HRZ.out,Stair.pass HCL.out (Stair.fall (fun h=>h8 h.2))⟩))))) HT6.out.bel
   ·go_wp2_with fail
    refine (zaH (t:=false) (by omega) (exBF h7) _).mono ?_;rintro e w' ⟨rfl,hw'⟩;obtain rfl:=hw'.symm;go_wp2;go_ret;exact wldP rfl (Stair.pass HOK.out (Stair.pass HFM.out (Stair.pass HFW.out (Stair.last (.inr ⟨HRZ.out,Stair.pass HCL.out (Stair.fall (fun h=>h7 h.1))⟩))))) HT6.out.bel
  ·have hne:(X != 0)=true:=by simp [hx0]
   go_wp2;go_ret;exact wldP rfl (Stair.pass HOK.out (Stair.pass HFM.out (Stair.pass HFW.out (Stair.last (.inl ⟨hx0,hX⟩))))) HT5.out.bel
 ·have n5:((d.tapes.1:Int) != 2)=true:=by simp;omega
  go_wp2;go_ret;exact wldP rfl (Stair.pass HOK.out (Stair.fall (fun h=>h5 h.2.2))) HT3.out.bel
set_option maxRecDepth 20000 in
theorem zcg (d:WorldD) (hs:zaj d.shape) (cs:List Value) (hi:Nat) (w:World) (h:zaf.rd w hi d cs) (hhi:hi≤w.heap.size) :
 Calls Tryz.prog 29 #[.agg cs.toArray] w (zaR (zcj d) w):=by
 obtain ⟨ao1,cap1,ao2,cap2,ao3,cap3,rfl,g1,-⟩:=zaz h;clear h;obtain ⟨_,_,e1,hm1,hc1⟩:=g1
 cases e1
 unfold maxLen at hm1;have HC1:=hid hc1;have HS:=hid hs;clear hc1 hs
 go_enter Tryz.func29,Tryz.ntmps29
 go_upto_region 2 with fail
 have T0:=zaP w (rwW d ao1 cap1 ao2 cap2 ao3 cap3).toArray (rwS d.shape).toArray 35 31;obtain ⟨W,hW⟩:∃ W,W=(w.alloc (.cells (rwW d ao1 cap1 ao2 cap2 ao3 cap3).toArray 35)).alloc (.cells (rwS d.shape).toArray 31):=⟨_,rfl⟩;rw [← hW] at T0 ⊢;have HT:=hid T0;clear hW;have x0_9:W.cell? ⟨w.heap.size,9,none⟩=some (.slice ao1 d.groups.1 cap1):=T0.b1.cell 9;have kx0_9:=cell_regrown x0_9;have y0_0:W.cell? ⟨w.heap.size+1,0,none⟩=some (.int .i64 (d.shape 0)):=T0.b2.cell 0;have ky0_0:=cell_regrown y0_0;have y0_1:W.cell? ⟨w.heap.size+1,1,none⟩=some (.int .i64 (d.shape 1)):=T0.b2.cell 1;have ky0_1:=cell_regrown y0_1;have y0_2:W.cell? ⟨w.heap.size+1,2,none⟩=some (.int .i64 (d.shape 2)):=T0.b2.cell 2;have ky0_2:=cell_regrown y0_2;have y0_3:W.cell? ⟨w.heap.size+1,3,none⟩=some (.int .i64 (d.shape 3)):=T0.b2.cell 3;have ky0_3:=cell_regrown y0_3;have y0_4:W.cell? ⟨w.heap.size+1,4,none⟩=some (.int .i64 (d.shape 4)):=T0.b2.cell 4;have ky0_4:=cell_regrown y0_4;have y0_5:W.cell? ⟨w.heap.size+1,5,none⟩=some (.int .i64 (d.shape 5)):=T0.b2.cell 5;have ky0_5:=cell_regrown y0_5;have y0_6:W.cell? ⟨w.heap.size+1,6,none⟩=some (.int .i64 (d.shape 6)):=T0.b2.cell 6;have ky0_6:=cell_regrown y0_6;have y0_7:W.cell? ⟨w.heap.size+1,7,none⟩=some (.int .i64 (d.shape 7)):=T0.b2.cell 7;have ky0_7:=cell_regrown y0_7;have y0_8:W.cell? ⟨w.heap.size+1,8,none⟩=some (.int .i64 (d.shape 8)):=T0.b2.cell 8
 have ky0_8:=cell_regrown y0_8;clear T0;have cA:=zas (W:=W) (fun w' _=>zbk d.shape HS.out w');unfold zad at cA
 by_cases hlen:(d.groups.1:Int)=d.shape 0+d.shape 1
 ·have hne:((d.groups.1:Int) != d.shape 0+d.shape 1)=false:=by simpa using hlen
  have HLEN:=hid hlen;clear hlen;refine WQ.region (by kernel_rfl) (by kernel_rfl) ?_
  repeat (first | (apply WQ.skip;(case hw=>rfl);intro K hK;go_simp;apply hK;clear hK K) | (apply WQ.want;(case hw=>rfl);intro K hK;go_simp;first | (apply hK;clear hK K) | (apply Exists.intro;apply And.intro;(case left=>intro p;(first | (go_at_call 31;exact cA _ _)));apply hK;clear hK K)))
  refine WQ.nil ?_;intro w1 hw1;have HT1:=hid (HT.out.call (zaB hw1));clear hw1 cA x0_9 kx0_9 y0_0 ky0_0 y0_1 ky0_1 y0_2 ky0_2 y0_3 ky0_3 y0_4 ky0_4 y0_5 ky0_5 y0_6 ky0_6 y0_7 ky0_7 y0_8 ky0_8;go_wp2
  go_loopw [4] (fun i wr=>∃ k:Nat,k≤d.groups.1∧i=.int .i64 k∧(∀ i,i<k→zeW d.shape (d.groups.2 i))∧Two w wr (rwW d ao1 cap1 ao2 cap2 ao3 cap3).toArray (rwS d.shape).toArray 35 31) (fun i _=>d.groups.1-(intOf i).toNat)
  case atStart=>exact ⟨0,Nat.zero_le _,rfl,fun i hi=>by omega,HT1.out⟩
  case round=>
   clear HT1;obtain ⟨k,hk,rfl,hal,T2⟩:=hrel;obtain ⟨wo,rfl⟩:∃ x,x=wr:=⟨_,rfl⟩;have HAL:=hid hal;have HT2:=hid T2;clear hal;have x2_9:wo.cell? ⟨w.heap.size,9,none⟩=some (.slice ao1 d.groups.1 cap1):=T2.b1.cell 9;have kx2_9:=cell_regrown x2_9;have y2_0:wo.cell? ⟨w.heap.size+1,0,none⟩=some (.int .i64 (d.shape 0)):=T2.b2.cell 0;have ky2_0:=cell_regrown y2_0;have y2_1:wo.cell? ⟨w.heap.size+1,1,none⟩=some (.int .i64 (d.shape 1)):=T2.b2.cell 1;have ky2_1:=cell_regrown y2_1;have y2_2:wo.cell? ⟨w.heap.size+1,2,none⟩=some (.int .i64 (d.shape 2)):=T2.b2.cell 2;have ky2_2:=cell_regrown y2_2;have y2_3:wo.cell? ⟨w.heap.size+1,3,none⟩=some (.int .i64 (d.shape 3)):=T2.b2.cell 3;have ky2_3:=cell_regrown y2_3;have y2_4:wo.cell? ⟨w.heap.size+1,4,none⟩=some (.int .i64 (d.shape 4)):=T2.b2.cell 4;have ky2_4:=cell_regrown y2_4;have y2_5:wo.cell? ⟨w.heap.size+1,5,none⟩=some (.int .i64 (d.shape 5)):=T2.b2.cell 5;have ky2_5:=cell_regrown y2_5;have y2_6:wo.cell? ⟨w.heap.size+1,6,none⟩=some (.int .i64 (d.shape 6)):=T2.b2.cell 6;have ky2_6:=cell_regrown y2_6;have y2_7:wo.cell? ⟨w.heap.size+1,7,none⟩=some (.int .i64 (d.shape 7)):=T2.b2.cell 7;have ky2_7:=cell_regrown y2_7;have y2_8:wo.cell? ⟨w.heap.size+1,8,none⟩=some (.int .i64 (d.shape 8)):=T2.b2.cell 8;have ky2_8:=cell_regrown y2_8
   by_cases hlt:k<d.groups.1
   ·obtain ⟨b1,off1,he1,hb1,hel1⟩:=HC1.out (by omega)
    subst he1;have HEL:=hid hel1;obtain ⟨ck,hrk,hcell⟩:=zat (t:=0) hel1 T2.bel hhi hb1 hlt;obtain ⟨ao9,cap9,rfl⟩:=za0 hrk
    have c0:wo.cell? ⟨b1,off1+k,none⟩=some (.slice ao9 (d.groups.2 k).1 cap9):=by
     have h:=hcell 0 (show 0<1 by decide);rw [show (zae.slice 79).sz=1 from rfl,Nat.mul_one,Nat.add_zero] at h;exact h
    have kc0:=cell_regrown c0;obtain ⟨_,_,e9,hm9,hc9⟩:=hrk
    cases e9
    have HC9:=hid hc9;unfold maxLen at hm9;have cD:=zas (W:=wo) (fun w' _=>zdB d.shape HS.out w');unfold zad at cD;have zw:w.heap.size+1<wo.heap.size:=T2.b2.lt;clear hcell hc9 hel1 T2
    by_cases hlen2:((d.groups.2 k).1:Int)=d.shape 2+d.shape 3
    ·have hne2:((
      (d.groups.2 k).1:Int) != d.shape 2+d.shape 3)=false:=by simpa using hlen2
     have HL2:=hid hlen2;clear hlen2;go_wp2;refine WQ.region (by kernel_rfl) (by kernel_rfl) ?_
     repeat (first | (apply WQ.skip;(case hw=>rfl);intro K hK;go_simp;apply hK;clear hK K) | (apply WQ.want;(case hw=>rfl);intro K hK;go_simp;first | (apply hK;clear hK K) | (apply Exists.intro;apply And.intro;(case left=>intro p;(first | (go_at_call 34;exact cD _ _)));apply hK;clear hK K)))
     refine WQ.nil ?_;intro w3 hw3;have HT3:=hid (HT2.out.call (zaB hw3));have HB3:=hid (zaB hw3);have HC0:=hid c0;clear hw3 cD c0 kc0 x2_9 kx2_9 y2_0 ky2_0 y2_1 ky2_1 y2_2 ky2_2 y2_3 ky2_3 y2_4 ky2_4 y2_5 ky2_5 y2_6 ky2_6 y2_7 ky2_7 y2_8 ky2_8;go_wp2
     go_loopw [5] (fun i wx=>∃ q:Nat,q≤(d.groups.2 k).1∧i=.int .i64 q∧(∀ i,i<q→zea d.shape ((d.groups.2 k).2 i).blocks)∧Two w wx (rwW d (some ⟨b1,off1,none⟩) cap1 ao2 cap2 ao3 cap3).toArray (rwS d.shape).toArray 35 31∧Below wo.heap.size wo wx) (fun i _=>(d.groups.2 k).1-(intOf i).toNat)
     case atStart=>exact ⟨0,Nat.zero_le _,rfl,fun i hi=>by omega,HT3.out,HB3.out⟩
     case round=>
      clear HT3 HB3;obtain ⟨q,hq,rfl,hal2,T4,hb4⟩:=hrel;obtain ⟨wx,rfl⟩:∃ x,x=wr:=⟨_,rfl⟩;have HAL2:=hid hal2;have HT4:=hid T4;have HB4:=hid hb4;clear hal2;have x4_9:wx.cell? ⟨w.heap.size,9,none⟩=some (.slice (some ⟨b1,off1,none⟩) d.groups.1 cap1):=T4.b1.cell 9;have y4_4:wx.cell? ⟨w.heap.size+1,4,none⟩=some (.int .i64 (d.shape 4)):=T4.b2.cell 4;have c4:wx.cell? ⟨b1,off1+k,none⟩=some (.slice ao9 (d.groups.2 k).1 cap9):=(hb4.cell (p:=⟨b1,off1+k,none⟩) (by show b1<wo.heap.size;omega)).trans HC0.out
      by_cases hlq:q<(d.groups.2 k).1
      ·obtain ⟨b9,off9,he9,hb9,hel9⟩:=HC9.out (by omega)
       subst he9;obtain ⟨cq,hrq,hcq⟩:=zat (t:=0) hel9 hb4 (by omega) hb9 hlq;obtain ⟨ao5,cap5,rfl,g5⟩:=zaM hrq;have c5:wx.cell? ⟨b9,off9+q*2+1,none⟩=some (.slice ao5 ((d.groups.2 k).2 q).blocks.1 cap5):=hcq 1 (by decide);obtain ⟨_,_,e5,hm5,hc5⟩:=g5
       cases e5
       have HC5:=hid hc5;unfold maxLen at hm5;obtain ⟨p,hp⟩:∃ p,p=((d.groups.2 k).2 q).blocks:=⟨_,rfl⟩;rw [← hp] at c5 hm5 HC5;have HP:=hid hp;clear hel9 hcq hc5 hrq T4 hb4 hp
       by_cases hl3:(p.1:Int)=d.shape 4
       ·have hne3:((p.1:Int) != d.shape 4)=false:=by simpa using hl3
        have HL3:=hid hl3;clear hl3;go_wp2
        go_loop [7] (fun i=>∃ z:Nat,z≤p.1∧i=.int .i64 z∧∀ i,i<z→zcO (p.2 i)) (fun i=>p.1-(intOf i).toNat)
        case atStart=>exact ⟨0,Nat.zero_le _,rfl,fun i hi=>by omega⟩
        case round=>
         obtain ⟨z,hz,rfl,hal3⟩:=hrel;have HAL3:=hid hal3;clear hal3
         by_cases hlz:z<p.1
         ·obtain ⟨b5,off5,he5,hb5,hel5⟩:=HC5.out (by omega)
          subst he5;obtain ⟨cz,hrz,hcz⟩:=hel5 z hlz;obtain ⟨ao0,cap0,rfl,-⟩:=zaV hrz;have s0:wx.cell? ⟨b5,off5+z*2,none⟩=some (.int .i64 (p.2 z).stamp):=hcz 0 (by decide);have s1:wx.cell? ⟨b5,off5+z*2+1,none⟩=some (.slice ao0 (p.2 z).bytes.1 cap0):=hcz 1 (by decide);obtain ⟨t1,h1⟩:=exB (InP (p.2 z).stamp 0 1000000000);have C1:=fun w'=>zbE (w:=w') h1;obtain ⟨b2',h2⟩:∃ b,(((p.2 z).bytes.1:Int) != 4)=b:=⟨_,rfl⟩
          have HE:Hid (zcO (p.2 z)↔(t1=true∧b2'=false)):=by
           show zcO (p.2 z)↔_
           rw [h1,← h2];unfold zcO
           simp
           intro _;omega
          clear hel5 hcz hrz h1
          go_wp2_with fail
          refine (C1 _).mono ?_;rintro e w' ⟨rfl,hw'⟩;obtain rfl:=hw'.symm;clear C1
          cases t1 with
          | false=>
           go_wp2;go_ret
           exact zai rfl (fun h=>by
            have hb:=((h.2 k hlt).2 q hlq).2 z (by rw [← HP.out];exact hlz);rw [← HP.out] at hb;have:=HE.out.1 hb
            simp at this) HT4.out.bel
          | true=>
           cases b2' with
           | true=>
            go_wp2;go_ret
            exact zai rfl (fun h=>by
             have hb:=((h.2 k hlt).2 q hlq).2 z (by rw [← HP.out];exact hlz);rw [← HP.out] at hb;have:=HE.out.1 hb
             simp at this) HT4.out.bel
           | false=>
            go_wp2
            go_round
            case rel=>exact ⟨z+1,by omega,by go_num,fun i hi=>by
             by_cases c:i=z
             ·subst c;exact HE.out.2 (by simp)
             ·exact HAL3.out i (by omega)⟩
            case measure=>simp [intOf];omega
         ·obtain rfl:z=p.1:=by omega
          go_wp2
          go_roundw
          case rel=>exact ⟨q+1,by omega,by go_num,fun i hi=>by
           by_cases c:i=q
           ·subst c
            rw [← HP.out];exact ⟨HL3.out,HAL3.out⟩
           ·exact HAL2.out i (by omega),HT4.out,HB4.out⟩
          case measure=>simp [intOf];omega
       ·have hne3:((p.1:Int) != d.shape 4)=true:=by simpa using hl3
        have HN3:=hid hl3;clear hl3;go_wp2;go_ret;exact zai rfl (fun h=>HN3.out (by rw [HP.out];exact ((h.2 k hlt).2 q hlq).1)) HT4.out.bel
      ·obtain rfl:q=(d.groups.2 k).1:=by omega
       clear T4 hb4;go_wp2
       go_roundw
       case rel=>exact ⟨k+1,by omega,by go_num,fun i hi=>by
        by_cases c:i=k
        ·subst c
         exact ⟨HL2.out,HAL2.out⟩
        ·exact HAL.out i (by omega),HT4.out⟩
       case measure=>simp [intOf];omega
    ·have hne2:(((d.groups.2 k).1:Int) != d.shape 2+d.shape 3)=true:=by simpa using hlen2
     have HN2:=hid hlen2;clear hlen2;go_wp2;refine WQ.region (by kernel_rfl) (by kernel_rfl) ?_
     repeat (first | (apply WQ.skip;(case hw=>rfl);intro K hK;go_simp;apply hK;clear hK K) | (apply WQ.want;(case hw=>rfl);intro K hK;go_simp;first | (apply hK;clear hK K) | (apply Exists.intro;apply And.intro;(case left=>intro p;(first | (go_at_call 34;exact cD _ _)));apply hK;clear hK K)))
     refine WQ.nil ?_;intro w3 hw3;have HB3:Hid (Below w.heap.size w w3):=(HT2.out.call (zaB hw3)).bel;clear hw3 cD c0 kc0;go_wp2;go_ret;exact zai rfl (fun h=>HN2.out (h.2 k hlt).1) HB3.out
   ·obtain rfl:k=d.groups.1:=by omega
    go_wp2;go_ret;exact zam rfl ⟨HLEN.out,HAL.out⟩ HT2.out.bel
 ·have hne:((d.groups.1:Int) != d.shape 0+d.shape 1)=true:=by simpa using hlen
  have HN:=hid hlen;clear hlen;refine WQ.region (by kernel_rfl) (by kernel_rfl) ?_
  repeat (first | (apply WQ.skip;(case hw=>rfl);intro K hK;go_simp;apply hK;clear hK K) | (apply WQ.want;(case hw=>rfl);intro K hK;go_simp;first | (apply hK;clear hK K) | (apply Exists.intro;apply And.intro;(case left=>intro p;(first | (go_at_call 31;exact cA _ _)));apply hK;clear hK K)))
  refine WQ.nil ?_;intro w1 hw1;have HB1:Hid (Below w.heap.size w w1):=(HT.out.call (zaB hw1)).bel;clear hw1;go_wp2;go_ret;exact zai rfl (fun h=>HN.out h.1) HB1.out
set_option maxRecDepth 20000 in
theorem zgP (d:WorldD) (cs:List Value) (hi:Nat) (w:World) (h:zaf.rd w hi d cs) (hhi:hi≤w.heap.size) (hnm:∀ t,t<d.tapes.1→∀ i,i<(d.tapes.2 t).recs.1→((d.tapes.2 t).recs.2 i).name.size≤1048576) (hok':zaj d.shape) (hsel:¬ (zcj d∧zbB d.on.1 d.on.2 (d.shape 0+d.shape 1-1))) :
 Calls Tryz.prog 12 #[.agg cs.toArray] w (zcB d w):=by
 obtain ⟨ao1,cap1,ao2,cap2,ao3,cap3,rfl,g1,g2,g3,-⟩:=zaz h;have HRD:=hid h;obtain ⟨v2,e2,⟨h2,hcp2⟩,_⟩:=g2
 cases e2
 have H2:=hid h2;have HCP:=hid hcp2;have hm2:=h2.mx;obtain ⟨_,_,e3,hm3,hc3⟩:=g3
 cases e3
 unfold maxLen at hm2 hm3;have HC3:=hid hc3;have HNM:=hid hnm;clear h h2 hcp2 hc3 g1 hnm;have T0:=zaw w (rwW d ao1 cap1 ao2 cap2 ao3 cap3).toArray 35;have CSh:=fun w'=>za4 d.shape w';unfold zad at CSh
 go_enter Tryz.func12,Tryz.ntmps12
 go_wp2_with fail
 refine (CSh _).mono ?_;rintro e w1 ⟨x,rfl,hx,b1⟩;have T1:One w w1 (rwW d ao1 cap1 ao2 cap2 ao3 cap3).toArray 35:=T0.call b1;have HT1:=hid T1;clear b1 T0 CSh;have x1_0:w1.cell? ⟨w.heap.size,0,none⟩=some (.int .i64 (d.shape 0)):=T1.b1.cell 0;have kx1_0:=cell_regrown x1_0;have x1_1:w1.cell? ⟨w.heap.size,1,none⟩=some (.int .i64 (d.shape 1)):=T1.b1.cell 1;have kx1_1:=cell_regrown x1_1;have x1_2:w1.cell? ⟨w.heap.size,2,none⟩=some (.int .i64 (d.shape 2)):=T1.b1.cell 2;have kx1_2:=cell_regrown x1_2;have x1_3:w1.cell? ⟨w.heap.size,3,none⟩=some (.int .i64 (d.shape 3)):=T1.b1.cell 3;have kx1_3:=cell_regrown x1_3;have x1_4:w1.cell? ⟨w.heap.size,4,none⟩=some (.int .i64 (d.shape 4)):=T1.b1.cell 4;have kx1_4:=cell_regrown x1_4;have x1_5:w1.cell? ⟨w.heap.size,5,none⟩=some (.int .i64 (d.shape 5)):=T1.b1.cell 5;have kx1_5:=cell_regrown x1_5;have x1_6:w1.cell? ⟨w.heap.size,6,none⟩=some (.int .i64 (d.shape 6)):=T1.b1.cell 6;have kx1_6:=cell_regrown x1_6;have x1_7:w1.cell? ⟨w.heap.size,7,none⟩=some (.int .i64 (d.shape 7)):=T1.b1.cell 7;have kx1_7:=cell_regrown x1_7;have x1_8:w1.cell? ⟨w.heap.size,8,none⟩=some (.int .i64 (d.shape 8)):=T1.b1.cell 8;have kx1_8:=cell_regrown x1_8;have x1_9:w1.cell? ⟨w.heap.size,9,none⟩=some (.slice ao1 d.groups.1 cap1):=T1.b1.cell 9;have kx1_9:=cell_regrown x1_9;have x1_10:w1.cell? ⟨w.heap.size,10,none⟩=some (.slice ao2 d.on.1 cap2):=T1.b1.cell 10;have kx1_10:=cell_regrown x1_10;have x1_11:w1.cell? ⟨w.heap.size,11,none⟩=some (.slice ao3 d.tapes.1 cap3):=T1.b1.cell 11;have kx1_11:=cell_regrown x1_11;have x1_12:w1.cell? ⟨w.heap.size,12,none⟩=some (.int .i64 d.writes):=T1.b1.cell 12;have kx1_12:=cell_regrown x1_12;have x1_13:w1.cell? ⟨w.heap.size,13,none⟩=some (.int .i64 d.stop):=T1.b1.cell 13;have kx1_13:=cell_regrown x1_13;have x1_14:w1.cell? ⟨w.heap.size,14,none⟩=some (.bool d.down):=T1.b1.cell 14;have kx1_14:=cell_regrown x1_14;clear T1
 rcases hx with ⟨rfl,hno⟩ | ⟨rfl,hok⟩
 ·go_wp2
  go_ret;exact wldP rfl (Stair.fall hno) HT1.out.bel
 have HOK:=hid hok
 have hsb:1≤d.shape 0∧d.shape 0≤4∧0≤d.shape 1∧d.shape 1≤2:=by
  obtain ⟨h1,_⟩:=hok;unfold Shp3 at h1;omega
 clear hok;obtain ⟨t1,h1⟩:=exB (zcj d);obtain ⟨t2,h2⟩:=exB (zbB d.on.1 d.on.2 (d.shape 0+d.shape 1-1));obtain ⟨b3',h3⟩:∃ b,decide (d.shape 5<(d.on.1:Int))=b:=⟨_,rfl⟩;obtain ⟨g',h4⟩:∃ b,decide (0<d.on.1)=b:=⟨_,rfl⟩;obtain ⟨b5',h5⟩:∃ b,((d.tapes.1:Int) != 2)=b:=⟨_,rfl⟩;have c1:=zas (W:=w1) (fun w' hw'=>zbo (zcg d HOK.out _ hi w' (zaf.rd_below (zaf.rd_below HRD.out HT1.out.bel hhi) hw' (Nat.le_trans hhi HT1.out.bel.size)) (Nat.le_trans hhi (Nat.le_trans HT1.out.bel.size hw'.size))) h1);have c2:=zas (W:=w1) (fun w' hw'=>zbo (zbT _ d.on.1 d.on.2 hi (d.shape 0+d.shape 1-1) w' ((H2.out.below HT1.out.bel hhi).below hw' (Nat.le_trans hhi HT1.out.bel.size)) HCP.out (Nat.le_trans hhi (Nat.le_trans HT1.out.bel.size hw'.size))) h2);have cA:=zas (W:=w1) (fun w' _=>zbk d.shape HOK.out w');unfold zad at cA
 have wsA:IntKind.i64.wrap (d.shape 0+d.shape 1-1)=d.shape 0+d.shape 1-1:=by rw [IntKind.wrap_i64];omega
 have h4':decide (0<(d.on.1:Int))=g':=by rw [← h4];simp
 obtain ⟨dn,hdn⟩:∃ x,x=d.down:=⟨_,rfl⟩
 have HE:Hid (zcb d↔(t1=true∧t2=true∧b3'=false∧(dn=true→g'=false)∧b5'=false)):=by
  show zcb d↔_
  have e3:(decide (d.shape 5<(d.on.1:Int))=false)↔(d.on.1:Int)≤d.shape 5:=by simp
  have e4:(decide (0<d.on.1)=false)↔d.on.1=0:=by simp
  have e5:(((d.tapes.1:Int) != 2)=false)↔d.tapes.1=2:=by simp;omega
  rw [h1,h2,← h3,← h4,← h5,hdn,e3,e4,e5];unfold zcb OnP
  constructor
  ·rintro ⟨a,⟨b,c,e⟩,f⟩
   exact ⟨a,b,c,e,f⟩
  ·rintro ⟨a,b,c,e,f⟩
   exact ⟨a,⟨b,c,e⟩,f⟩
 have hst:t1=false∨(t1=true∧t2=false):=by
  clear HE c1 c2
  cases t1 with
  | false=>exact .inl rfl
  | true=>
   cases t2 with
   | false=>exact .inr ⟨rfl,rfl⟩
   | true=>exact absurd ⟨h1.1 rfl,h2.1 rfl⟩ hsel
 have HNF:Hid (¬ zcb d):=fun h=>by
  obtain ⟨a,⟨b,c,e⟩,f⟩:=h;exact hsel ⟨a,b⟩
 rw [← hdn] at x1_14 kx1_14 c1;clear h1 h2 hsel hok'
 go_upto_region 4 with fail
 clear hdn
 rcases hst with rfl | ⟨rfl,rfl⟩
 all_goals
  refine WQ.region (by kernel_rfl) (by kernel_rfl) ?_
  repeat (first | (apply WQ.free;(case hw=>rfl);intro K hK;go_simp;first | (apply hK;clear hK K) | (apply Exists.intro;apply And.intro;(case left=>intro p;(first | (go_at_call 29;exact c1 _ _) | (go_at_call 30;exact c2 _ _) | (go_at_call 31;exact cA _ _)));apply hK;clear hK K)) | (apply WQ.skip;(case hw=>rfl);intro K hK;go_simp;apply hK;clear hK K) | (apply WQ.want;(case hw=>rfl);intro K hK;go_simp;first | (apply hK;clear hK K) | (apply Exists.intro;apply And.intro;(case left=>intro p;(first | (go_at_call 29;exact c1 _ _) | (go_at_call 30;exact c2 _ _) | (go_at_call 31;exact cA _ _)));apply hK;clear hK K)))
  refine WQ.nil ?_;intro w2 hw2;have HB2:Hid (Below w.heap.size w w2):=(HT1.out.call (zaB hw2)).bel;clear hw2;go_wp2;go_ret;exact wldP rfl (Stair.pass HOK.out (Stair.fall HNF.out)) HB2.out
set_option maxRecDepth 20000 in
theorem zgQ (d:WorldD) (cs:List Value) (hi:Nat) (w:World) (h:zaf.rd w hi d cs) (hhi:hi≤w.heap.size) (hnm:∀ t,t<d.tapes.1→∀ i,i<(d.tapes.2 t).recs.1→((d.tapes.2 t).recs.2 i).name.size≤1048576) (hok':zaj d.shape) (hsel:zcj d∧zbB d.on.1 d.on.2 (d.shape 0+d.shape 1-1)∧¬ ((d.on.1:Int)≤d.shape 5∧(d.down=true→d.on.1=0))) :
 Calls Tryz.prog 12 #[.agg cs.toArray] w (zcB d w):=by
 obtain ⟨ao1,cap1,ao2,cap2,ao3,cap3,rfl,g1,g2,g3,-⟩:=zaz h;have HRD:=hid h;obtain ⟨v2,e2,⟨h2,hcp2⟩,_⟩:=g2
 cases e2
 have H2:=hid h2;have HCP:=hid hcp2;have hm2:=h2.mx;obtain ⟨_,_,e3,hm3,hc3⟩:=g3
 cases e3
 unfold maxLen at hm2 hm3;have HC3:=hid hc3;have HNM:=hid hnm;clear h h2 hcp2 hc3 g1 hnm;have T0:=zaw w (rwW d ao1 cap1 ao2 cap2 ao3 cap3).toArray 35;have CSh:=fun w'=>za4 d.shape w';unfold zad at CSh
 go_enter Tryz.func12,Tryz.ntmps12
 go_wp2_with fail
 refine (CSh _).mono ?_;rintro e w1 ⟨x,rfl,hx,b1⟩;have T1:One w w1 (rwW d ao1 cap1 ao2 cap2 ao3 cap3).toArray 35:=T0.call b1;have HT1:=hid T1;clear b1 T0 CSh;have x1_0:w1.cell? ⟨w.heap.size,0,none⟩=some (.int .i64 (d.shape 0)):=T1.b1.cell 0;have kx1_0:=cell_regrown x1_0;have x1_1:w1.cell? ⟨w.heap.size,1,none⟩=some (.int .i64 (d.shape 1)):=T1.b1.cell 1;have kx1_1:=cell_regrown x1_1;have x1_2:w1.cell? ⟨w.heap.size,2,none⟩=some (.int .i64 (d.shape 2)):=T1.b1.cell 2;have kx1_2:=cell_regrown x1_2;have x1_3:w1.cell? ⟨w.heap.size,3,none⟩=some (.int .i64 (d.shape 3)):=T1.b1.cell 3;have kx1_3:=cell_regrown x1_3;have x1_4:w1.cell? ⟨w.heap.size,4,none⟩=some (.int .i64 (d.shape 4)):=T1.b1.cell 4;have kx1_4:=cell_regrown x1_4;have x1_5:w1.cell? ⟨w.heap.size,5,none⟩=some (.int .i64 (d.shape 5)):=T1.b1.cell 5;have kx1_5:=cell_regrown x1_5;have x1_6:w1.cell? ⟨w.heap.size,6,none⟩=some (.int .i64 (d.shape 6)):=T1.b1.cell 6;have kx1_6:=cell_regrown x1_6;have x1_7:w1.cell? ⟨w.heap.size,7,none⟩=some (.int .i64 (d.shape 7)):=T1.b1.cell 7;have kx1_7:=cell_regrown x1_7;have x1_8:w1.cell? ⟨w.heap.size,8,none⟩=some (.int .i64 (d.shape 8)):=T1.b1.cell 8;have kx1_8:=cell_regrown x1_8;have x1_9:w1.cell? ⟨w.heap.size,9,none⟩=some (.slice ao1 d.groups.1 cap1):=T1.b1.cell 9;have kx1_9:=cell_regrown x1_9;have x1_10:w1.cell? ⟨w.heap.size,10,none⟩=some (.slice ao2 d.on.1 cap2):=T1.b1.cell 10;have kx1_10:=cell_regrown x1_10;have x1_11:w1.cell? ⟨w.heap.size,11,none⟩=some (.slice ao3 d.tapes.1 cap3):=T1.b1.cell 11;have kx1_11:=cell_regrown x1_11;have x1_12:w1.cell? ⟨w.heap.size,12,none⟩=some (.int .i64 d.writes):=T1.b1.cell 12;have kx1_12:=cell_regrown x1_12;have x1_13:w1.cell? ⟨w.heap.size,13,none⟩=some (.int .i64 d.stop):=T1.b1.cell 13;have kx1_13:=cell_regrown x1_13;have x1_14:w1.cell? ⟨w.heap.size,14,none⟩=some (.bool d.down):=T1.b1.cell 14;have kx1_14:=cell_regrown x1_14;clear T1
 rcases hx with ⟨rfl,hno⟩ | ⟨rfl,hok⟩
 ·go_wp2
  go_ret;exact wldP rfl (Stair.fall hno) HT1.out.bel
 have HOK:=hid hok
 have hsb:1≤d.shape 0∧d.shape 0≤4∧0≤d.shape 1∧d.shape 1≤2:=by
  obtain ⟨h1,_⟩:=hok;unfold Shp3 at h1;omega
 clear hok;obtain ⟨t1,h1⟩:=exB (zcj d);obtain ⟨t2,h2⟩:=exB (zbB d.on.1 d.on.2 (d.shape 0+d.shape 1-1));obtain ⟨b3',h3⟩:∃ b,decide (d.shape 5<(d.on.1:Int))=b:=⟨_,rfl⟩;obtain ⟨g',h4⟩:∃ b,decide (0<d.on.1)=b:=⟨_,rfl⟩;obtain ⟨b5',h5⟩:∃ b,((d.tapes.1:Int) != 2)=b:=⟨_,rfl⟩;have c1:=zas (W:=w1) (fun w' hw'=>zbo (zcg d HOK.out _ hi w' (zaf.rd_below (zaf.rd_below HRD.out HT1.out.bel hhi) hw' (Nat.le_trans hhi HT1.out.bel.size)) (Nat.le_trans hhi (Nat.le_trans HT1.out.bel.size hw'.size))) h1);have c2:=zas (W:=w1) (fun w' hw'=>zbo (zbT _ d.on.1 d.on.2 hi (d.shape 0+d.shape 1-1) w' ((H2.out.below HT1.out.bel hhi).below hw' (Nat.le_trans hhi HT1.out.bel.size)) HCP.out (Nat.le_trans hhi (Nat.le_trans HT1.out.bel.size hw'.size))) h2);have cA:=zas (W:=w1) (fun w' _=>zbk d.shape HOK.out w');unfold zad at cA
 have wsA:IntKind.i64.wrap (d.shape 0+d.shape 1-1)=d.shape 0+d.shape 1-1:=by rw [IntKind.wrap_i64];omega
 have h4':decide (0<(d.on.1:Int))=g':=by rw [← h4];simp
 obtain ⟨dn,hdn⟩:∃ x,x=d.down:=⟨_,rfl⟩
 have HE:Hid (zcb d↔(t1=true∧t2=true∧b3'=false∧(dn=true→g'=false)∧b5'=false)):=by
  show zcb d↔_
  have e3:(decide (d.shape 5<(d.on.1:Int))=false)↔(d.on.1:Int)≤d.shape 5:=by simp
  have e4:(decide (0<d.on.1)=false)↔d.on.1=0:=by simp
  have e5:(((d.tapes.1:Int) != 2)=false)↔d.tapes.1=2:=by simp;omega
  rw [h1,h2,← h3,← h4,← h5,hdn,e3,e4,e5];unfold zcb OnP
  constructor
  ·rintro ⟨a,⟨b,c,e⟩,f⟩
   exact ⟨a,b,c,e,f⟩
  ·rintro ⟨a,b,c,e,f⟩
   exact ⟨a,⟨b,c,e⟩,f⟩
 have hst:(t1=true∧t2=true∧b3'=true)∨(t1=true∧t2=true∧b3'=false∧dn=true∧g'=true):=by
  clear HE c1 c2;have e1:=h1.2 hsel.1;have e2:=h2.2 hsel.2.1
  cases b3' with
  | true=>exact .inl ⟨e1,e2,rfl⟩
  | false=>
   have hc:(d.on.1:Int)≤d.shape 5:=by simpa using h3
   have hd:dn=true:=by
    cases dn with
    | true=>rfl
    | false=>exact absurd ⟨hc,fun h=>by rw [← hdn] at h;cases h⟩ hsel.2.2
   have hg:g'=true:=by
    cases g' with
    | true=>rfl
    | false=>exact absurd ⟨hc,fun _=>by simpa using h4⟩ hsel.2.2
   exact .inr ⟨e1,e2,rfl,hd,hg⟩
 have HNF:Hid (¬ zcb d):=fun h=>by
  obtain ⟨a,⟨b,c,e⟩,f⟩:=h;exact hsel.2.2 ⟨c,e⟩
 rw [← hdn] at x1_14 kx1_14 c1;clear h1 h2 hsel hok'
 go_upto_region 4 with fail
 clear hdn
 rcases hst with ⟨rfl,rfl,rfl⟩ | ⟨rfl,rfl,rfl,rfl,rfl⟩
 all_goals
  refine WQ.region (by kernel_rfl) (by kernel_rfl) ?_
  repeat (first | (apply WQ.free;(case hw=>rfl);intro K hK;go_simp;first | (apply hK;clear hK K) | (apply Exists.intro;apply And.intro;(case left=>intro p;(first | (go_at_call 29;exact c1 _ _) | (go_at_call 30;exact c2 _ _) | (go_at_call 31;exact cA _ _)));apply hK;clear hK K)) | (apply WQ.skip;(case hw=>rfl);intro K hK;go_simp;apply hK;clear hK K) | (apply WQ.want;(case hw=>rfl);intro K hK;go_simp;first | (apply hK;clear hK K) | (apply Exists.intro;apply And.intro;(case left=>intro p;(first | (go_at_call 29;exact c1 _ _) | (go_at_call 30;exact c2 _ _) | (go_at_call 31;exact cA _ _)));apply hK;clear hK K)))
  refine WQ.nil ?_;intro w2 hw2;have HB2:Hid (Below w.heap.size w w2):=(HT1.out.call (zaB hw2)).bel;clear hw2;go_wp2;go_ret;exact wldP rfl (Stair.pass HOK.out (Stair.fall HNF.out)) HB2.out
set_option maxRecDepth 20000 in
theorem zgR (d:WorldD) (cs:List Value) (hi:Nat) (w:World) (h:zaf.rd w hi d cs) (hhi:hi≤w.heap.size) (hnm:∀ t,t<d.tapes.1→∀ i,i<(d.tapes.2 t).recs.1→((d.tapes.2 t).recs.2 i).name.size≤1048576) (hok':zaj d.shape) (hsel:zcj d∧zbB d.on.1 d.on.2 (d.shape 0+d.shape 1-1)∧((d.on.1:Int)≤d.shape 5∧(d.down=true→d.on.1=0))∧d.tapes.1≠2) :
 Calls Tryz.prog 12 #[.agg cs.toArray] w (zcB d w):=by
 obtain ⟨ao1,cap1,ao2,cap2,ao3,cap3,rfl,g1,g2,g3,-⟩:=zaz h;have HRD:=hid h;obtain ⟨v2,e2,⟨h2,hcp2⟩,_⟩:=g2
 cases e2
 have H2:=hid h2;have HCP:=hid hcp2;have hm2:=h2.mx;obtain ⟨_,_,e3,hm3,hc3⟩:=g3
 cases e3
 unfold maxLen at hm2 hm3;have HC3:=hid hc3;have HNM:=hid hnm;clear h h2 hcp2 hc3 g1 hnm;have T0:=zaw w (rwW d ao1 cap1 ao2 cap2 ao3 cap3).toArray 35;have CSh:=fun w'=>za4 d.shape w';unfold zad at CSh
 go_enter Tryz.func12,Tryz.ntmps12
 go_wp2_with fail
 refine (CSh _).mono ?_;rintro e w1 ⟨x,rfl,hx,b1⟩;have T1:One w w1 (rwW d ao1 cap1 ao2 cap2 ao3 cap3).toArray 35:=T0.call b1;have HT1:=hid T1;clear b1 T0 CSh;have x1_0:w1.cell? ⟨w.heap.size,0,none⟩=some (.int .i64 (d.shape 0)):=T1.b1.cell 0;have kx1_0:=cell_regrown x1_0;have x1_1:w1.cell? ⟨w.heap.size,1,none⟩=some (.int .i64 (d.shape 1)):=T1.b1.cell 1;have kx1_1:=cell_regrown x1_1;have x1_2:w1.cell? ⟨w.heap.size,2,none⟩=some (.int .i64 (d.shape 2)):=T1.b1.cell 2;have kx1_2:=cell_regrown x1_2;have x1_3:w1.cell? ⟨w.heap.size,3,none⟩=some (.int .i64 (d.shape 3)):=T1.b1.cell 3;have kx1_3:=cell_regrown x1_3;have x1_4:w1.cell? ⟨w.heap.size,4,none⟩=some (.int .i64 (d.shape 4)):=T1.b1.cell 4;have kx1_4:=cell_regrown x1_4;have x1_5:w1.cell? ⟨w.heap.size,5,none⟩=some (.int .i64 (d.shape 5)):=T1.b1.cell 5;have kx1_5:=cell_regrown x1_5;have x1_6:w1.cell? ⟨w.heap.size,6,none⟩=some (.int .i64 (d.shape 6)):=T1.b1.cell 6;have kx1_6:=cell_regrown x1_6;have x1_7:w1.cell? ⟨w.heap.size,7,none⟩=some (.int .i64 (d.shape 7)):=T1.b1.cell 7;have kx1_7:=cell_regrown x1_7;have x1_8:w1.cell? ⟨w.heap.size,8,none⟩=some (.int .i64 (d.shape 8)):=T1.b1.cell 8;have kx1_8:=cell_regrown x1_8;have x1_9:w1.cell? ⟨w.heap.size,9,none⟩=some (.slice ao1 d.groups.1 cap1):=T1.b1.cell 9;have kx1_9:=cell_regrown x1_9;have x1_10:w1.cell? ⟨w.heap.size,10,none⟩=some (.slice ao2 d.on.1 cap2):=T1.b1.cell 10;have kx1_10:=cell_regrown x1_10;have x1_11:w1.cell? ⟨w.heap.size,11,none⟩=some (.slice ao3 d.tapes.1 cap3):=T1.b1.cell 11;have kx1_11:=cell_regrown x1_11;have x1_12:w1.cell? ⟨w.heap.size,12,none⟩=some (.int .i64 d.writes):=T1.b1.cell 12;have kx1_12:=cell_regrown x1_12;have x1_13:w1.cell? ⟨w.heap.size,13,none⟩=some (.int .i64 d.stop):=T1.b1.cell 13;have kx1_13:=cell_regrown x1_13;have x1_14:w1.cell? ⟨w.heap.size,14,none⟩=some (.bool d.down):=T1.b1.cell 14;have kx1_14:=cell_regrown x1_14;clear T1
 rcases hx with ⟨rfl,hno⟩ | ⟨rfl,hok⟩
 ·go_wp2
  go_ret;exact wldP rfl (Stair.fall hno) HT1.out.bel
 have HOK:=hid hok
 have hsb:1≤d.shape 0∧d.shape 0≤4∧0≤d.shape 1∧d.shape 1≤2:=by
  obtain ⟨h1,_⟩:=hok;unfold Shp3 at h1;omega
 clear hok;obtain ⟨t1,h1⟩:=exB (zcj d);obtain ⟨t2,h2⟩:=exB (zbB d.on.1 d.on.2 (d.shape 0+d.shape 1-1));obtain ⟨b3',h3⟩:∃ b,decide (d.shape 5<(d.on.1:Int))=b:=⟨_,rfl⟩;obtain ⟨g',h4⟩:∃ b,decide (0<d.on.1)=b:=⟨_,rfl⟩;obtain ⟨b5',h5⟩:∃ b,((d.tapes.1:Int) != 2)=b:=⟨_,rfl⟩;have c1:=zas (W:=w1) (fun w' hw'=>zbo (zcg d HOK.out _ hi w' (zaf.rd_below (zaf.rd_below HRD.out HT1.out.bel hhi) hw' (Nat.le_trans hhi HT1.out.bel.size)) (Nat.le_trans hhi (Nat.le_trans HT1.out.bel.size hw'.size))) h1);have c2:=zas (W:=w1) (fun w' hw'=>zbo (zbT _ d.on.1 d.on.2 hi (d.shape 0+d.shape 1-1) w' ((H2.out.below HT1.out.bel hhi).below hw' (Nat.le_trans hhi HT1.out.bel.size)) HCP.out (Nat.le_trans hhi (Nat.le_trans HT1.out.bel.size hw'.size))) h2);have cA:=zas (W:=w1) (fun w' _=>zbk d.shape HOK.out w');unfold zad at cA
 have wsA:IntKind.i64.wrap (d.shape 0+d.shape 1-1)=d.shape 0+d.shape 1-1:=by rw [IntKind.wrap_i64];omega
 have h4':decide (0<(d.on.1:Int))=g':=by rw [← h4];simp
 obtain ⟨dn,hdn⟩:∃ x,x=d.down:=⟨_,rfl⟩
 have HE:Hid (zcb d↔(t1=true∧t2=true∧b3'=false∧(dn=true→g'=false)∧b5'=false)):=by
  show zcb d↔_
  have e3:(decide (d.shape 5<(d.on.1:Int))=false)↔(d.on.1:Int)≤d.shape 5:=by simp
  have e4:(decide (0<d.on.1)=false)↔d.on.1=0:=by simp
  have e5:(((d.tapes.1:Int) != 2)=false)↔d.tapes.1=2:=by simp;omega
  rw [h1,h2,← h3,← h4,← h5,hdn,e3,e4,e5];unfold zcb OnP
  constructor
  ·rintro ⟨a,⟨b,c,e⟩,f⟩
   exact ⟨a,b,c,e,f⟩
  ·rintro ⟨a,b,c,e,f⟩
   exact ⟨a,⟨b,c,e⟩,f⟩
 have hst:(t1=true∧t2=true∧b3'=false∧dn=true∧g'=false∧b5'=true)∨(t1=true∧t2=true∧b3'=false∧dn=false∧b5'=true):=by
  clear HE c1 c2;have e1:=h1.2 hsel.1;have e2:=h2.2 hsel.2.1
  have e3:b3'=false:=by rw [← h3];simpa using hsel.2.2.1.1
  have e5:b5'=true:=by rw [← h5];have:=hsel.2.2.2;simp;omega
  cases dn with
  | false=>exact .inr ⟨e1,e2,e3,rfl,e5⟩
  | true=>exact .inl ⟨e1,e2,e3,rfl,by rw [← h4];have:=hsel.2.2.1.2 hdn.symm;simp;omega,e5⟩
 have HNF:Hid (¬ zcb d):=fun h=>by
  obtain ⟨a,⟨b,c,e⟩,f⟩:=h;exact hsel.2.2.2 f
 rw [← hdn] at x1_14 kx1_14 c1;clear h1 h2 hsel hok'
 go_upto_region 4 with fail
 clear hdn
 rcases hst with ⟨rfl,rfl,rfl,rfl,rfl,rfl⟩ | ⟨rfl,rfl,rfl,rfl,rfl⟩
 all_goals
  refine WQ.region (by kernel_rfl) (by kernel_rfl) ?_
  repeat (first | (apply WQ.free;(case hw=>rfl);intro K hK;go_simp;first | (apply hK;clear hK K) | (apply Exists.intro;apply And.intro;(case left=>intro p;(first | (go_at_call 29;exact c1 _ _) | (go_at_call 30;exact c2 _ _) | (go_at_call 31;exact cA _ _)));apply hK;clear hK K)) | (apply WQ.skip;(case hw=>rfl);intro K hK;go_simp;apply hK;clear hK K) | (apply WQ.want;(case hw=>rfl);intro K hK;go_simp;first | (apply hK;clear hK K) | (apply Exists.intro;apply And.intro;(case left=>intro p;(first | (go_at_call 29;exact c1 _ _) | (go_at_call 30;exact c2 _ _) | (go_at_call 31;exact cA _ _)));apply hK;clear hK K)))
  refine WQ.nil ?_;intro w2 hw2;have HB2:Hid (Below w.heap.size w w2):=(HT1.out.call (zaB hw2)).bel;clear hw2;go_wp2;go_ret;exact wldP rfl (Stair.pass HOK.out (Stair.fall HNF.out)) HB2.out
end Go.Proofs.YtfhgcadinjfooaaGreat
