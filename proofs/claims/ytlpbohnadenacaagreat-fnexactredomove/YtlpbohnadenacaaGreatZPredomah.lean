/- Walks of the program's recInBounds and RecFault. -/
import Derived.Defers
import Derived.Recover
import Derived.Laws.LoneSync
import Derived.Laws.Pointers
import Derived.RegionCalls
import Derived.Test.YtlpbohnadenacaaGreatZPredomag
set_option linter.unusedVariables false
set_option linter.unusedSimpArgs false
set_option maxHeartbeats 16000000
namespace Go.Proofs.YtlpbohnadenacaaGreat
open Go.RowKit F256
theorem zec (s:Nat→Int) (hs:zar s) (r:RecD) (cs:List Value) (hi:Nat) (w:World) (h:zae.rd w hi r cs) (hhi:hi≤w.heap.size) (hk:InP r.kind 1 4) :
 Calls Tryz.prog 74 #[zak s,.agg cs.toArray] w (zbI (zby s r) w):=by
 obtain ⟨kind,seq,name,length,group,row,rows,data,delta⟩:=r;obtain ⟨ao6,cap6,ao7,cap7,ao8,cap8,rfl,g6,g7,g8,k0,k1,k2,k3,k4,k5⟩:=za5 h;have HRD:=hid h;obtain ⟨v7,e7,⟨_,_,e7',hm7,_⟩,_⟩:=g7
 cases e7
 cases e7'
 obtain ⟨v8,e8,⟨_,_,e8',hm8,_⟩,_⟩:=g8
 cases e8
 cases e8'
 unfold maxLen at hm7 hm8
 simp only at hk hm7 hm8
 have HS:=hid hs
 have hk4:kind=1∨kind=2∨kind=3∨kind=4:=by unfold InP at hk;omega
 clear h g6 k0 k1 k2 k3 k4 k5 hk hs
 rcases hk4 with rfl | rfl | rfl | rfl
 ·have T0:=zaC w (rwS s).toArray #[.int .i64 1,.int .i64 seq,.string name,.int .i64 length,.int .i64 group,.int .i64 row,.slice ao6 rows.1 cap6,.slice ao7 data.1 cap7,.slice ao8 delta.1 cap8] 34 43
  obtain ⟨t1,h1⟩:=exB (zbQ s ⟨1,seq,name,length,group,row,rows,data,delta⟩);have C:=zb2 (zjC s HS.out ⟨1,seq,name,length,group,row,rows,data,delta⟩ _ hi _ (zae.rd_below HRD.out T0.bel hhi) (Nat.le_trans hhi T0.bel.size)) h1
  have HE:Hid (zby s ⟨1,seq,name,length,group,row,rows,data,delta⟩↔t1=true):=by
   show zby s ⟨1,seq,name,length,group,row,rows,data,delta⟩↔_
   rw [h1];unfold zby
   simp
  clear h1;unfold zak at C ⊢
  go_enter Tryz.func74,Tryz.ntmps74
  go_wp2_with fail
  refine C.mono ?_;rintro e w1 ⟨rfl,b1⟩;have HB:Hid (Below w.heap.size w w1):=(T0.call b1).bel;clear b1 C T0;go_wp2;go_ret
  cases t1 with
  | true=>exact zaL rfl (HE.out.2 (by simp)) HB.out
  | false=>exact zax rfl (fun h=>by have:=HE.out.1 h;simp at this) HB.out
 ·have T0:=zaC w (rwS s).toArray #[.int .i64 2,.int .i64 seq,.string name,.int .i64 length,.int .i64 group,.int .i64 row,.slice ao6 rows.1 cap6,.slice ao7 data.1 cap7,.slice ao8 delta.1 cap8] 34 43
  obtain ⟨t1,h1⟩:=exB (InP group 0 (s 0-1));obtain ⟨t2,h2⟩:=exB (InP row 0 (s 4-1));obtain ⟨t3,h3⟩:∃ b,((data.1:Int)==s 2*4)=b:=⟨_,rfl⟩;obtain ⟨t4,h4⟩:∃ b,((delta.1:Int)==s 2*4)=b:=⟨_,rfl⟩;have C1:=fun w'=>zcn HS.out h1 w';have C2:=fun w'=>zkx HS.out h2 w';have C3:=fun w'=>zfe HS.out (ao:=ao7) (cap:=cap7) (by omega) h3 w';have C4:=fun w'=>zfe HS.out (ao:=ao8) (cap:=cap8) (by omega) h4 w'
  have HE:Hid (zby s ⟨2,seq,name,length,group,row,rows,data,delta⟩↔(t1=true∧t2=true∧t3=true∧t4=true)):=by
   show zby s ⟨2,seq,name,length,group,row,rows,data,delta⟩↔_
   rw [h1,h2,← h3,← h4];unfold zby zk7
   simp
  clear h1 h2 h3 h4;unfold zak at C1 C2 C3 C4 ⊢
  go_enter Tryz.func74,Tryz.ntmps74
  go_wp2_with fail
  refine (C1 _).mono ?_;rintro e w1 ⟨rfl,b1⟩;have T1:Two w w1 (rwS s).toArray #[.int .i64 2,.int .i64 seq,.string name,.int .i64 length,.int .i64 group,.int .i64 row,.slice ao6 rows.1 cap6,.slice ao7 data.1 cap7,.slice ao8 delta.1 cap8] 34 43:=T0.call b1;have HB1:=hid T1.bel;clear b1;have x1_0:w1.cell? ⟨w.heap.size,0,none⟩=some (.int .i64 (s 0)):=T1.b1.cell 0;have y1_0:w1.cell? ⟨w.heap.size+1,0,none⟩=some (.int .i64 2):=T1.b2.cell 0;have x1_1:w1.cell? ⟨w.heap.size,1,none⟩=some (.int .i64 (s 1)):=T1.b1.cell 1;have y1_1:w1.cell? ⟨w.heap.size+1,1,none⟩=some (.int .i64 seq):=T1.b2.cell 1;have x1_2:w1.cell? ⟨w.heap.size,2,none⟩=some (.int .i64 (s 2)):=T1.b1.cell 2;have y1_2:w1.cell? ⟨w.heap.size+1,2,none⟩=some (.string name):=T1.b2.cell 2;have x1_3:w1.cell? ⟨w.heap.size,3,none⟩=some (.int .i64 (s 3)):=T1.b1.cell 3;have y1_3:w1.cell? ⟨w.heap.size+1,3,none⟩=some (.int .i64 length):=T1.b2.cell 3;have x1_4:w1.cell? ⟨w.heap.size,4,none⟩=some (.int .i64 (s 4)):=T1.b1.cell 4;have y1_4:w1.cell? ⟨w.heap.size+1,4,none⟩=some (.int .i64 group):=T1.b2.cell 4;have x1_5:w1.cell? ⟨w.heap.size,5,none⟩=some (.int .i64 (s 5)):=T1.b1.cell 5;have y1_5:w1.cell? ⟨w.heap.size+1,5,none⟩=some (.int .i64 row):=T1.b2.cell 5;have x1_6:w1.cell? ⟨w.heap.size,6,none⟩=some (.int .i64 (s 6)):=T1.b1.cell 6;have y1_6:w1.cell? ⟨w.heap.size+1,6,none⟩=some (.slice ao6 rows.1 cap6):=T1.b2.cell 6;have x1_7:w1.cell? ⟨w.heap.size,7,none⟩=some (.int .i64 (s 7)):=T1.b1.cell 7;have y1_7:w1.cell? ⟨w.heap.size+1,7,none⟩=some (.slice ao7 data.1 cap7):=T1.b2.cell 7;have x1_8:w1.cell? ⟨w.heap.size,8,none⟩=some (.int .i64 (s 8)):=T1.b1.cell 8;have y1_8:w1.cell? ⟨w.heap.size+1,8,none⟩=some (.slice ao8 delta.1 cap8):=T1.b2.cell 8
  cases t1 with
  | false=>
   clear T1;go_wp2;go_ret;exact zax rfl (fun h=>by have:=HE.out.1 h;simp at this) HB1.out
  | true=>
   go_wp2_with fail
   refine (C2 _).mono ?_;rintro e w2 ⟨rfl,b2⟩;have T2:Two w w2 (rwS s).toArray #[.int .i64 2,.int .i64 seq,.string name,.int .i64 length,.int .i64 group,.int .i64 row,.slice ao6 rows.1 cap6,.slice ao7 data.1 cap7,.slice ao8 delta.1 cap8] 34 43:=T1.call b2;have HB2:=hid T2.bel;clear b2;have x2_0:w2.cell? ⟨w.heap.size,0,none⟩=some (.int .i64 (s 0)):=T2.b1.cell 0;have y2_0:w2.cell? ⟨w.heap.size+1,0,none⟩=some (.int .i64 2):=T2.b2.cell 0;have x2_1:w2.cell? ⟨w.heap.size,1,none⟩=some (.int .i64 (s 1)):=T2.b1.cell 1;have y2_1:w2.cell? ⟨w.heap.size+1,1,none⟩=some (.int .i64 seq):=T2.b2.cell 1;have x2_2:w2.cell? ⟨w.heap.size,2,none⟩=some (.int .i64 (s 2)):=T2.b1.cell 2;have y2_2:w2.cell? ⟨w.heap.size+1,2,none⟩=some (.string name):=T2.b2.cell 2;have x2_3:w2.cell? ⟨w.heap.size,3,none⟩=some (.int .i64 (s 3)):=T2.b1.cell 3;have y2_3:w2.cell? ⟨w.heap.size+1,3,none⟩=some (.int .i64 length):=T2.b2.cell 3;have x2_4:w2.cell? ⟨w.heap.size,4,none⟩=some (.int .i64 (s 4)):=T2.b1.cell 4;have y2_4:w2.cell? ⟨w.heap.size+1,4,none⟩=some (.int .i64 group):=T2.b2.cell 4;have x2_5:w2.cell? ⟨w.heap.size,5,none⟩=some (.int .i64 (s 5)):=T2.b1.cell 5;have y2_5:w2.cell? ⟨w.heap.size+1,5,none⟩=some (.int .i64 row):=T2.b2.cell 5;have x2_6:w2.cell? ⟨w.heap.size,6,none⟩=some (.int .i64 (s 6)):=T2.b1.cell 6;have y2_6:w2.cell? ⟨w.heap.size+1,6,none⟩=some (.slice ao6 rows.1 cap6):=T2.b2.cell 6;have x2_7:w2.cell? ⟨w.heap.size,7,none⟩=some (.int .i64 (s 7)):=T2.b1.cell 7;have y2_7:w2.cell? ⟨w.heap.size+1,7,none⟩=some (.slice ao7 data.1 cap7):=T2.b2.cell 7;have x2_8:w2.cell? ⟨w.heap.size,8,none⟩=some (.int .i64 (s 8)):=T2.b1.cell 8;have y2_8:w2.cell? ⟨w.heap.size+1,8,none⟩=some (.slice ao8 delta.1 cap8):=T2.b2.cell 8
   cases t2 with
   | false=>
    clear T2;go_wp2;go_ret;exact zax rfl (fun h=>by have:=HE.out.1 h;simp at this) HB2.out
   | true=>
    go_wp2_with fail
    refine (C3 _).mono ?_;rintro e w3 ⟨rfl,b3⟩;have T3:Two w w3 (rwS s).toArray #[.int .i64 2,.int .i64 seq,.string name,.int .i64 length,.int .i64 group,.int .i64 row,.slice ao6 rows.1 cap6,.slice ao7 data.1 cap7,.slice ao8 delta.1 cap8] 34 43:=T2.call b3;have HB3:=hid T3.bel;clear b3;have x3_0:w3.cell? ⟨w.heap.size,0,none⟩=some (.int .i64 (s 0)):=T3.b1.cell 0;have y3_0:w3.cell? ⟨w.heap.size+1,0,none⟩=some (.int .i64 2):=T3.b2.cell 0;have x3_1:w3.cell? ⟨w.heap.size,1,none⟩=some (.int .i64 (s 1)):=T3.b1.cell 1;have y3_1:w3.cell? ⟨w.heap.size+1,1,none⟩=some (.int .i64 seq):=T3.b2.cell 1;have x3_2:w3.cell? ⟨w.heap.size,2,none⟩=some (.int .i64 (s 2)):=T3.b1.cell 2;have y3_2:w3.cell? ⟨w.heap.size+1,2,none⟩=some (.string name):=T3.b2.cell 2;have x3_3:w3.cell? ⟨w.heap.size,3,none⟩=some (.int .i64 (s 3)):=T3.b1.cell 3;have y3_3:w3.cell? ⟨w.heap.size+1,3,none⟩=some (.int .i64 length):=T3.b2.cell 3;have x3_4:w3.cell? ⟨w.heap.size,4,none⟩=some (.int .i64 (s 4)):=T3.b1.cell 4;have y3_4:w3.cell? ⟨w.heap.size+1,4,none⟩=some (.int .i64 group):=T3.b2.cell 4;have x3_5:w3.cell? ⟨w.heap.size,5,none⟩=some (.int .i64 (s 5)):=T3.b1.cell 5;have y3_5:w3.cell? ⟨w.heap.size+1,5,none⟩=some (.int .i64 row):=T3.b2.cell 5;have x3_6:w3.cell? ⟨w.heap.size,6,none⟩=some (.int .i64 (s 6)):=T3.b1.cell 6;have y3_6:w3.cell? ⟨w.heap.size+1,6,none⟩=some (.slice ao6 rows.1 cap6):=T3.b2.cell 6;have x3_7:w3.cell? ⟨w.heap.size,7,none⟩=some (.int .i64 (s 7)):=T3.b1.cell 7;have y3_7:w3.cell? ⟨w.heap.size+1,7,none⟩=some (.slice ao7 data.1 cap7):=T3.b2.cell 7;have x3_8:w3.cell? ⟨w.heap.size,8,none⟩=some (.int .i64 (s 8)):=T3.b1.cell 8;have y3_8:w3.cell? ⟨w.heap.size+1,8,none⟩=some (.slice ao8 delta.1 cap8):=T3.b2.cell 8
    cases t3 with
    | false=>
     clear T3;go_wp2;go_ret;exact zax rfl (fun h=>by have:=HE.out.1 h;simp at this) HB3.out
    | true=>
     go_wp2_with fail
     refine (C4 _).mono ?_;rintro e w4 ⟨rfl,b4⟩;have T4:Two w w4 (rwS s).toArray #[.int .i64 2,.int .i64 seq,.string name,.int .i64 length,.int .i64 group,.int .i64 row,.slice ao6 rows.1 cap6,.slice ao7 data.1 cap7,.slice ao8 delta.1 cap8] 34 43:=T3.call b4;have HB4:=hid T4.bel;clear b4
     cases t4 with
     | false=>
      clear T4;go_wp2;go_ret;exact zax rfl (fun h=>by have:=HE.out.1 h;simp at this) HB4.out
     | true=>
      clear T4;go_wp2;go_ret;exact zaL rfl (HE.out.2 (by simp)) HB4.out
 ·have T0:=zaC w (rwS s).toArray #[.int .i64 3,.int .i64 seq,.string name,.int .i64 length,.int .i64 group,.int .i64 row,.slice ao6 rows.1 cap6,.slice ao7 data.1 cap7,.slice ao8 delta.1 cap8] 34 43
  obtain ⟨t1,h1⟩:=exB (InP group 0 (s 0+s 1-1));have C:=fun w'=>zfd HS.out h1 w'
  have HE:Hid (zby s ⟨3,seq,name,length,group,row,rows,data,delta⟩↔t1=true):=by
   show zby s ⟨3,seq,name,length,group,row,rows,data,delta⟩↔_
   rw [h1];unfold zby zlD
   simp
  clear h1;unfold zak at C ⊢
  go_enter Tryz.func74,Tryz.ntmps74
  go_wp2_with fail
  refine (C _).mono ?_;rintro e w1 ⟨rfl,b1⟩;have HB:Hid (Below w.heap.size w w1):=(T0.call b1).bel;clear b1 C T0;go_wp2;go_ret
  cases t1 with
  | true=>exact zaL rfl (HE.out.2 (by simp)) HB.out
  | false=>exact zax rfl (fun h=>by have:=HE.out.1 h;simp at this) HB.out
 ·have T0:=zaC w (rwS s).toArray #[.int .i64 4,.int .i64 seq,.string name,.int .i64 length,.int .i64 group,.int .i64 row,.slice ao6 rows.1 cap6,.slice ao7 data.1 cap7,.slice ao8 delta.1 cap8] 34 43
  obtain ⟨t1,h1⟩:=exB (ziU s ⟨4,seq,name,length,group,row,rows,data,delta⟩);have C:=zb2 (zil s HS.out ⟨4,seq,name,length,group,row,rows,data,delta⟩ _ hi _ (zae.rd_below HRD.out T0.bel hhi) (Nat.le_trans hhi T0.bel.size)) h1
  have HE:Hid (zby s ⟨4,seq,name,length,group,row,rows,data,delta⟩↔t1=true):=by
   show zby s ⟨4,seq,name,length,group,row,rows,data,delta⟩↔_
   rw [h1];unfold zby
   simp
  clear h1;unfold zak at C ⊢
  go_enter Tryz.func74,Tryz.ntmps74
  go_wp2_with fail
  refine C.mono ?_;rintro e w1 ⟨rfl,b1⟩;have HB:Hid (Below w.heap.size w w1):=(T0.call b1).bel;clear b1 C T0;go_wp2;go_ret
  cases t1 with
  | true=>exact zaL rfl (HE.out.2 (by simp)) HB.out
  | false=>exact zax rfl (fun h=>by have:=HE.out.1 h;simp at this) HB.out
set_option maxRecDepth 20000 in
theorem zfh (s:Nat→Int) (r:RecD) (cs:List Value) (hi:Nat) (w:World) (h:zae.rd w hi r cs) (hhi:hi≤w.heap.size) (hnm:r.name.size≤1048576) :
 Calls Tryz.prog 32 #[zak s,.agg cs.toArray] w (zgg s r w):=by
 obtain ⟨kind,seq,name,length,group,row,rows,data,delta⟩:=r;obtain ⟨ao6,cap6,ao7,cap7,ao8,cap8,rfl,-⟩:=za5 h;have HRD:=hid h
 simp only at hnm
 clear h;have T0:=zaC w (rwS s).toArray #[.int .i64 kind,.int .i64 seq,.string name,.int .i64 length,.int .i64 group,.int .i64 row,.slice ao6 rows.1 cap6,.slice ao7 data.1 cap7,.slice ao8 delta.1 cap8] 34 43;have CSh:=fun w'=>zcW s w';unfold zak at CSh ⊢
 go_enter Tryz.func32,Tryz.ntmps32
 go_wp2_with fail
 refine (CSh _).mono ?_;rintro e w1 ⟨x,rfl,hx,b1⟩;have T1:Two w w1 (rwS s).toArray #[.int .i64 kind,.int .i64 seq,.string name,.int .i64 length,.int .i64 group,.int .i64 row,.slice ao6 rows.1 cap6,.slice ao7 data.1 cap7,.slice ao8 delta.1 cap8] 34 43:=T0.call b1;have HT1:=hid T1;clear b1 T0 CSh;have x1_0:w1.cell? ⟨w.heap.size,0,none⟩=some (.int .i64 (s 0)):=T1.b1.cell 0;have y1_0:w1.cell? ⟨w.heap.size+1,0,none⟩=some (.int .i64 kind):=T1.b2.cell 0;have x1_1:w1.cell? ⟨w.heap.size,1,none⟩=some (.int .i64 (s 1)):=T1.b1.cell 1;have y1_1:w1.cell? ⟨w.heap.size+1,1,none⟩=some (.int .i64 seq):=T1.b2.cell 1;have x1_2:w1.cell? ⟨w.heap.size,2,none⟩=some (.int .i64 (s 2)):=T1.b1.cell 2;have y1_2:w1.cell? ⟨w.heap.size+1,2,none⟩=some (.string name):=T1.b2.cell 2;have x1_3:w1.cell? ⟨w.heap.size,3,none⟩=some (.int .i64 (s 3)):=T1.b1.cell 3;have y1_3:w1.cell? ⟨w.heap.size+1,3,none⟩=some (.int .i64 length):=T1.b2.cell 3;have x1_4:w1.cell? ⟨w.heap.size,4,none⟩=some (.int .i64 (s 4)):=T1.b1.cell 4;have y1_4:w1.cell? ⟨w.heap.size+1,4,none⟩=some (.int .i64 group):=T1.b2.cell 4;have x1_5:w1.cell? ⟨w.heap.size,5,none⟩=some (.int .i64 (s 5)):=T1.b1.cell 5;have y1_5:w1.cell? ⟨w.heap.size+1,5,none⟩=some (.int .i64 row):=T1.b2.cell 5;have x1_6:w1.cell? ⟨w.heap.size,6,none⟩=some (.int .i64 (s 6)):=T1.b1.cell 6;have y1_6:w1.cell? ⟨w.heap.size+1,6,none⟩=some (.slice ao6 rows.1 cap6):=T1.b2.cell 6;have x1_7:w1.cell? ⟨w.heap.size,7,none⟩=some (.int .i64 (s 7)):=T1.b1.cell 7;have y1_7:w1.cell? ⟨w.heap.size+1,7,none⟩=some (.slice ao7 data.1 cap7):=T1.b2.cell 7;have x1_8:w1.cell? ⟨w.heap.size,8,none⟩=some (.int .i64 (s 8)):=T1.b1.cell 8;have y1_8:w1.cell? ⟨w.heap.size+1,8,none⟩=some (.slice ao8 delta.1 cap8):=T1.b2.cell 8;clear T1
 rcases hx with ⟨rfl,hno⟩ | ⟨rfl,hok⟩
 ·go_wp2
  go_ret;exact recP rfl (Stair.fall hno) HT1.out.bel
 have HOK:=hid hok;clear hok
 by_cases hk:InP kind 1 4
 ·go_wp2_with fail
  refine (za7 (t:=true) (by omega) (exBT hk) _).mono ?_;rintro e w' ⟨rfl,hw'⟩;obtain rfl:=hw'.symm
  by_cases hq:InP seq 1 1000000000
  ·go_wp2_with fail
   refine (za7 (t:=true) (by omega) (exBT hq) _).mono ?_;rintro e w' ⟨rfl,hw'⟩;obtain rfl:=hw'.symm;have HK:=hid hk;have HQ:=hid hq
   have hk4:kind=1∨kind=2∨kind=3∨kind=4:=by unfold InP at hk;omega
   clear hk hq
   rcases hk4 with rfl | rfl | rfl | rfl
   ·go_wp2_with fail
    refine (zhe name hnm _).mono ?_;rintro e w' ⟨x,rfl,hx,hw'⟩;obtain rfl:=hw'.symm
    rcases hx with ⟨rfl,hno⟩ | ⟨rfl,hyes⟩
    ·go_wp2
     go_ret;exact recP rfl (Stair.pass HOK.out (Stair.pass HK.out (Stair.pass HQ.out (Stair.fall (fun h=>hno (h rfl)))))) HT1.out.bel
    have HN:Hid (zd9 ⟨1,seq,name,length,group,row,rows,data,delta⟩):=fun _=>hyes;clear hyes;obtain ⟨t5,h5⟩:=exB (zby s ⟨1,seq,name,length,group,row,rows,data,delta⟩);have C5:=zb2 (zec s HOK.out ⟨1,seq,name,length,group,row,rows,data,delta⟩ _ hi w1 (zae.rd_below HRD.out HT1.out.bel hhi) (Nat.le_trans hhi HT1.out.bel.size) HK.out) h5;have H5:=hid h5;unfold zak at C5;clear h5
    go_wp2_with fail
    refine C5.mono ?_;rintro e w5 ⟨rfl,b5⟩;have T5:Two w w5 (rwS s).toArray #[.int .i64 1,.int .i64 seq,.string name,.int .i64 length,.int .i64 group,.int .i64 row,.slice ao6 rows.1 cap6,.slice ao7 data.1 cap7,.slice ao8 delta.1 cap8] 34 43:=HT1.out.call b5;have HB5:=hid T5.bel;clear b5 C5;have x5_0:w5.cell? ⟨w.heap.size,0,none⟩=some (.int .i64 (s 0)):=T5.b1.cell 0;have y5_0:w5.cell? ⟨w.heap.size+1,0,none⟩=some (.int .i64 1):=T5.b2.cell 0;have x5_1:w5.cell? ⟨w.heap.size,1,none⟩=some (.int .i64 (s 1)):=T5.b1.cell 1;have y5_1:w5.cell? ⟨w.heap.size+1,1,none⟩=some (.int .i64 seq):=T5.b2.cell 1;have x5_2:w5.cell? ⟨w.heap.size,2,none⟩=some (.int .i64 (s 2)):=T5.b1.cell 2;have y5_2:w5.cell? ⟨w.heap.size+1,2,none⟩=some (.string name):=T5.b2.cell 2;have x5_3:w5.cell? ⟨w.heap.size,3,none⟩=some (.int .i64 (s 3)):=T5.b1.cell 3;have y5_3:w5.cell? ⟨w.heap.size+1,3,none⟩=some (.int .i64 length):=T5.b2.cell 3;have x5_4:w5.cell? ⟨w.heap.size,4,none⟩=some (.int .i64 (s 4)):=T5.b1.cell 4;have y5_4:w5.cell? ⟨w.heap.size+1,4,none⟩=some (.int .i64 group):=T5.b2.cell 4;have x5_5:w5.cell? ⟨w.heap.size,5,none⟩=some (.int .i64 (s 5)):=T5.b1.cell 5;have y5_5:w5.cell? ⟨w.heap.size+1,5,none⟩=some (.int .i64 row):=T5.b2.cell 5;have x5_6:w5.cell? ⟨w.heap.size,6,none⟩=some (.int .i64 (s 6)):=T5.b1.cell 6;have y5_6:w5.cell? ⟨w.heap.size+1,6,none⟩=some (.slice ao6 rows.1 cap6):=T5.b2.cell 6;have x5_7:w5.cell? ⟨w.heap.size,7,none⟩=some (.int .i64 (s 7)):=T5.b1.cell 7;have y5_7:w5.cell? ⟨w.heap.size+1,7,none⟩=some (.slice ao7 data.1 cap7):=T5.b2.cell 7;have x5_8:w5.cell? ⟨w.heap.size,8,none⟩=some (.int .i64 (s 8)):=T5.b1.cell 8;have y5_8:w5.cell? ⟨w.heap.size+1,8,none⟩=some (.slice ao8 delta.1 cap8):=T5.b2.cell 8;clear T5
    cases t5 with
    | false=>
     go_wp2;go_ret;exact recP rfl (Stair.pass HOK.out (Stair.pass HK.out (Stair.pass HQ.out (Stair.pass HN.out (Stair.fall (fun h=>by have:=H5.out.2 h;simp at this)))))) HB5.out
    | true=>
     have HKP:Hid (zby s ⟨1,seq,name,length,group,row,rows,data,delta⟩):=H5.out.1 (by simp)
     go_wp2_with fail
     refine (zla seq name length group row rows data delta ao6 ao7 ao8 cap6 cap7 cap8 _).mono ?_;rintro e w6 ⟨rfl,b6⟩;have HB6:=hid (HB5.out.trans (b6.mono HB5.out.size));clear b6
     go_wp2_with fail
     refine (zcX _ _ _ _ _ _ _ _ _ _ _ _ _ _ _ _).mono ?_;rintro e w7 ⟨t9,rfl,ht9,b7⟩;have HB7:=hid (HB6.out.trans (b7.mono HB6.out.size));clear b7
     have HT9:Hid (t9=true↔zbv ⟨1,seq,name,length,group,row,rows,data,delta⟩):=by
      show t9=true↔zbv ⟨1,seq,name,length,group,row,rows,data,delta⟩
      rw [ht9];unfold zeB zcB zbv zdm
      simp [and_assoc]
      try (intros;rfl)
     clear ht9
     cases t9 with
     | false=>
      go_wp2;go_ret;exact recP rfl (Stair.pass HOK.out (Stair.pass HK.out (Stair.pass HQ.out (Stair.pass HN.out (Stair.pass HKP.out (Stair.fall (fun h=>by have:=HT9.out.2 h;simp at this))))))) HB7.out
     | true=>
      go_wp2;go_ret;exact recP rfl (Stair.pass HOK.out (Stair.pass HK.out (Stair.pass HQ.out (Stair.pass HN.out (Stair.pass HKP.out (Stair.pass (HT9.out.1 (by simp)) (Stair.last rfl))))))) HB7.out
   ·have HN:Hid (zd9 ⟨2,seq,name,length,group,row,rows,data,delta⟩):=fun h=>by simp at h
    obtain ⟨t5,h5⟩:=exB (zby s ⟨2,seq,name,length,group,row,rows,data,delta⟩);have C5:=zb2 (zec s HOK.out ⟨2,seq,name,length,group,row,rows,data,delta⟩ _ hi w1 (zae.rd_below HRD.out HT1.out.bel hhi) (Nat.le_trans hhi HT1.out.bel.size) HK.out) h5;have H5:=hid h5;unfold zak at C5;clear h5
    go_wp2_with fail
    refine C5.mono ?_;rintro e w5 ⟨rfl,b5⟩;have T5:Two w w5 (rwS s).toArray #[.int .i64 2,.int .i64 seq,.string name,.int .i64 length,.int .i64 group,.int .i64 row,.slice ao6 rows.1 cap6,.slice ao7 data.1 cap7,.slice ao8 delta.1 cap8] 34 43:=HT1.out.call b5;have HB5:=hid T5.bel;clear b5 C5;have x5_0:w5.cell? ⟨w.heap.size,0,none⟩=some (.int .i64 (s 0)):=T5.b1.cell 0;have y5_0:w5.cell? ⟨w.heap.size+1,0,none⟩=some (.int .i64 2):=T5.b2.cell 0;have x5_1:w5.cell? ⟨w.heap.size,1,none⟩=some (.int .i64 (s 1)):=T5.b1.cell 1;have y5_1:w5.cell? ⟨w.heap.size+1,1,none⟩=some (.int .i64 seq):=T5.b2.cell 1;have x5_2:w5.cell? ⟨w.heap.size,2,none⟩=some (.int .i64 (s 2)):=T5.b1.cell 2;have y5_2:w5.cell? ⟨w.heap.size+1,2,none⟩=some (.string name):=T5.b2.cell 2;have x5_3:w5.cell? ⟨w.heap.size,3,none⟩=some (.int .i64 (s 3)):=T5.b1.cell 3;have y5_3:w5.cell? ⟨w.heap.size+1,3,none⟩=some (.int .i64 length):=T5.b2.cell 3;have x5_4:w5.cell? ⟨w.heap.size,4,none⟩=some (.int .i64 (s 4)):=T5.b1.cell 4;have y5_4:w5.cell? ⟨w.heap.size+1,4,none⟩=some (.int .i64 group):=T5.b2.cell 4;have x5_5:w5.cell? ⟨w.heap.size,5,none⟩=some (.int .i64 (s 5)):=T5.b1.cell 5;have y5_5:w5.cell? ⟨w.heap.size+1,5,none⟩=some (.int .i64 row):=T5.b2.cell 5;have x5_6:w5.cell? ⟨w.heap.size,6,none⟩=some (.int .i64 (s 6)):=T5.b1.cell 6;have y5_6:w5.cell? ⟨w.heap.size+1,6,none⟩=some (.slice ao6 rows.1 cap6):=T5.b2.cell 6;have x5_7:w5.cell? ⟨w.heap.size,7,none⟩=some (.int .i64 (s 7)):=T5.b1.cell 7;have y5_7:w5.cell? ⟨w.heap.size+1,7,none⟩=some (.slice ao7 data.1 cap7):=T5.b2.cell 7;have x5_8:w5.cell? ⟨w.heap.size,8,none⟩=some (.int .i64 (s 8)):=T5.b1.cell 8;have y5_8:w5.cell? ⟨w.heap.size+1,8,none⟩=some (.slice ao8 delta.1 cap8):=T5.b2.cell 8;clear T5
    cases t5 with
    | false=>
     go_wp2;go_ret;exact recP rfl (Stair.pass HOK.out (Stair.pass HK.out (Stair.pass HQ.out (Stair.pass HN.out (Stair.fall (fun h=>by have:=H5.out.2 h;simp at this)))))) HB5.out
    | true=>
     have HKP:Hid (zby s ⟨2,seq,name,length,group,row,rows,data,delta⟩):=H5.out.1 (by simp)
     go_wp2_with fail
     refine (zlb seq name length group row rows data delta ao6 ao7 ao8 cap6 cap7 cap8 _).mono ?_;rintro e w6 ⟨rfl,b6⟩;have HB6:=hid (HB5.out.trans (b6.mono HB5.out.size));clear b6
     go_wp2_with fail
     refine (zcX _ _ _ _ _ _ _ _ _ _ _ _ _ _ _ _).mono ?_;rintro e w7 ⟨t9,rfl,ht9,b7⟩;have HB7:=hid (HB6.out.trans (b7.mono HB6.out.size));clear b7
     have HT9:Hid (t9=true↔zbv ⟨2,seq,name,length,group,row,rows,data,delta⟩):=by
      show t9=true↔zbv ⟨2,seq,name,length,group,row,rows,data,delta⟩
      rw [ht9];unfold zeB zcB zbv zdm
      simp [and_assoc]
      try (intros;rfl)
     clear ht9
     cases t9 with
     | false=>
      go_wp2;go_ret;exact recP rfl (Stair.pass HOK.out (Stair.pass HK.out (Stair.pass HQ.out (Stair.pass HN.out (Stair.pass HKP.out (Stair.fall (fun h=>by have:=HT9.out.2 h;simp at this))))))) HB7.out
     | true=>
      go_wp2;go_ret;exact recP rfl (Stair.pass HOK.out (Stair.pass HK.out (Stair.pass HQ.out (Stair.pass HN.out (Stair.pass HKP.out (Stair.pass (HT9.out.1 (by simp)) (Stair.last rfl))))))) HB7.out
   ·have HN:Hid (zd9 ⟨3,seq,name,length,group,row,rows,data,delta⟩):=fun h=>by simp at h
    obtain ⟨t5,h5⟩:=exB (zby s ⟨3,seq,name,length,group,row,rows,data,delta⟩);have C5:=zb2 (zec s HOK.out ⟨3,seq,name,length,group,row,rows,data,delta⟩ _ hi w1 (zae.rd_below HRD.out HT1.out.bel hhi) (Nat.le_trans hhi HT1.out.bel.size) HK.out) h5;have H5:=hid h5;unfold zak at C5;clear h5
    go_wp2_with fail
    refine C5.mono ?_;rintro e w5 ⟨rfl,b5⟩;have T5:Two w w5 (rwS s).toArray #[.int .i64 3,.int .i64 seq,.string name,.int .i64 length,.int .i64 group,.int .i64 row,.slice ao6 rows.1 cap6,.slice ao7 data.1 cap7,.slice ao8 delta.1 cap8] 34 43:=HT1.out.call b5;have HB5:=hid T5.bel;clear b5 C5;have x5_0:w5.cell? ⟨w.heap.size,0,none⟩=some (.int .i64 (s 0)):=T5.b1.cell 0;have y5_0:w5.cell? ⟨w.heap.size+1,0,none⟩=some (.int .i64 3):=T5.b2.cell 0;have x5_1:w5.cell? ⟨w.heap.size,1,none⟩=some (.int .i64 (s 1)):=T5.b1.cell 1;have y5_1:w5.cell? ⟨w.heap.size+1,1,none⟩=some (.int .i64 seq):=T5.b2.cell 1;have x5_2:w5.cell? ⟨w.heap.size,2,none⟩=some (.int .i64 (s 2)):=T5.b1.cell 2;have y5_2:w5.cell? ⟨w.heap.size+1,2,none⟩=some (.string name):=T5.b2.cell 2;have x5_3:w5.cell? ⟨w.heap.size,3,none⟩=some (.int .i64 (s 3)):=T5.b1.cell 3;have y5_3:w5.cell? ⟨w.heap.size+1,3,none⟩=some (.int .i64 length):=T5.b2.cell 3;have x5_4:w5.cell? ⟨w.heap.size,4,none⟩=some (.int .i64 (s 4)):=T5.b1.cell 4;have y5_4:w5.cell? ⟨w.heap.size+1,4,none⟩=some (.int .i64 group):=T5.b2.cell 4;have x5_5:w5.cell? ⟨w.heap.size,5,none⟩=some (.int .i64 (s 5)):=T5.b1.cell 5;have y5_5:w5.cell? ⟨w.heap.size+1,5,none⟩=some (.int .i64 row):=T5.b2.cell 5;have x5_6:w5.cell? ⟨w.heap.size,6,none⟩=some (.int .i64 (s 6)):=T5.b1.cell 6;have y5_6:w5.cell? ⟨w.heap.size+1,6,none⟩=some (.slice ao6 rows.1 cap6):=T5.b2.cell 6;have x5_7:w5.cell? ⟨w.heap.size,7,none⟩=some (.int .i64 (s 7)):=T5.b1.cell 7;have y5_7:w5.cell? ⟨w.heap.size+1,7,none⟩=some (.slice ao7 data.1 cap7):=T5.b2.cell 7;have x5_8:w5.cell? ⟨w.heap.size,8,none⟩=some (.int .i64 (s 8)):=T5.b1.cell 8;have y5_8:w5.cell? ⟨w.heap.size+1,8,none⟩=some (.slice ao8 delta.1 cap8):=T5.b2.cell 8;clear T5
    cases t5 with
    | false=>
     go_wp2;go_ret;exact recP rfl (Stair.pass HOK.out (Stair.pass HK.out (Stair.pass HQ.out (Stair.pass HN.out (Stair.fall (fun h=>by have:=H5.out.2 h;simp at this)))))) HB5.out
    | true=>
     have HKP:Hid (zby s ⟨3,seq,name,length,group,row,rows,data,delta⟩):=H5.out.1 (by simp)
     go_wp2_with fail
     refine (zlc seq name length group row rows data delta ao6 ao7 ao8 cap6 cap7 cap8 _).mono ?_;rintro e w6 ⟨rfl,b6⟩;have HB6:=hid (HB5.out.trans (b6.mono HB5.out.size));clear b6
     go_wp2_with fail
     refine (zcX _ _ _ _ _ _ _ _ _ _ _ _ _ _ _ _).mono ?_;rintro e w7 ⟨t9,rfl,ht9,b7⟩;have HB7:=hid (HB6.out.trans (b7.mono HB6.out.size));clear b7
     have HT9:Hid (t9=true↔zbv ⟨3,seq,name,length,group,row,rows,data,delta⟩):=by
      show t9=true↔zbv ⟨3,seq,name,length,group,row,rows,data,delta⟩
      rw [ht9];unfold zeB zcB zbv zdm
      simp [and_assoc]
      try (intros;rfl)
     clear ht9
     cases t9 with
     | false=>
      go_wp2;go_ret;exact recP rfl (Stair.pass HOK.out (Stair.pass HK.out (Stair.pass HQ.out (Stair.pass HN.out (Stair.pass HKP.out (Stair.fall (fun h=>by have:=HT9.out.2 h;simp at this))))))) HB7.out
     | true=>
      go_wp2;go_ret;exact recP rfl (Stair.pass HOK.out (Stair.pass HK.out (Stair.pass HQ.out (Stair.pass HN.out (Stair.pass HKP.out (Stair.pass (HT9.out.1 (by simp)) (Stair.last rfl))))))) HB7.out
   ·have HN:Hid (zd9 ⟨4,seq,name,length,group,row,rows,data,delta⟩):=fun h=>by simp at h
    obtain ⟨t5,h5⟩:=exB (zby s ⟨4,seq,name,length,group,row,rows,data,delta⟩);have C5:=zb2 (zec s HOK.out ⟨4,seq,name,length,group,row,rows,data,delta⟩ _ hi w1 (zae.rd_below HRD.out HT1.out.bel hhi) (Nat.le_trans hhi HT1.out.bel.size) HK.out) h5;have H5:=hid h5;unfold zak at C5;clear h5
    go_wp2_with fail
    refine C5.mono ?_;rintro e w5 ⟨rfl,b5⟩;have T5:Two w w5 (rwS s).toArray #[.int .i64 4,.int .i64 seq,.string name,.int .i64 length,.int .i64 group,.int .i64 row,.slice ao6 rows.1 cap6,.slice ao7 data.1 cap7,.slice ao8 delta.1 cap8] 34 43:=HT1.out.call b5;have HB5:=hid T5.bel;clear b5 C5;have x5_0:w5.cell? ⟨w.heap.size,0,none⟩=some (.int .i64 (s 0)):=T5.b1.cell 0;have y5_0:w5.cell? ⟨w.heap.size+1,0,none⟩=some (.int .i64 4):=T5.b2.cell 0;have x5_1:w5.cell? ⟨w.heap.size,1,none⟩=some (.int .i64 (s 1)):=T5.b1.cell 1;have y5_1:w5.cell? ⟨w.heap.size+1,1,none⟩=some (.int .i64 seq):=T5.b2.cell 1;have x5_2:w5.cell? ⟨w.heap.size,2,none⟩=some (.int .i64 (s 2)):=T5.b1.cell 2;have y5_2:w5.cell? ⟨w.heap.size+1,2,none⟩=some (.string name):=T5.b2.cell 2;have x5_3:w5.cell? ⟨w.heap.size,3,none⟩=some (.int .i64 (s 3)):=T5.b1.cell 3;have y5_3:w5.cell? ⟨w.heap.size+1,3,none⟩=some (.int .i64 length):=T5.b2.cell 3;have x5_4:w5.cell? ⟨w.heap.size,4,none⟩=some (.int .i64 (s 4)):=T5.b1.cell 4;have y5_4:w5.cell? ⟨w.heap.size+1,4,none⟩=some (.int .i64 group):=T5.b2.cell 4;have x5_5:w5.cell? ⟨w.heap.size,5,none⟩=some (.int .i64 (s 5)):=T5.b1.cell 5;have y5_5:w5.cell? ⟨w.heap.size+1,5,none⟩=some (.int .i64 row):=T5.b2.cell 5;have x5_6:w5.cell? ⟨w.heap.size,6,none⟩=some (.int .i64 (s 6)):=T5.b1.cell 6;have y5_6:w5.cell? ⟨w.heap.size+1,6,none⟩=some (.slice ao6 rows.1 cap6):=T5.b2.cell 6;have x5_7:w5.cell? ⟨w.heap.size,7,none⟩=some (.int .i64 (s 7)):=T5.b1.cell 7;have y5_7:w5.cell? ⟨w.heap.size+1,7,none⟩=some (.slice ao7 data.1 cap7):=T5.b2.cell 7;have x5_8:w5.cell? ⟨w.heap.size,8,none⟩=some (.int .i64 (s 8)):=T5.b1.cell 8;have y5_8:w5.cell? ⟨w.heap.size+1,8,none⟩=some (.slice ao8 delta.1 cap8):=T5.b2.cell 8;clear T5
    cases t5 with
    | false=>
     go_wp2;go_ret;exact recP rfl (Stair.pass HOK.out (Stair.pass HK.out (Stair.pass HQ.out (Stair.pass HN.out (Stair.fall (fun h=>by have:=H5.out.2 h;simp at this)))))) HB5.out
    | true=>
     have HKP:Hid (zby s ⟨4,seq,name,length,group,row,rows,data,delta⟩):=H5.out.1 (by simp)
     go_wp2_with fail
     refine (zld seq name length group row rows data delta ao6 ao7 ao8 cap6 cap7 cap8 _).mono ?_;rintro e w6 ⟨rfl,b6⟩;have HB6:=hid (HB5.out.trans (b6.mono HB5.out.size));clear b6
     go_wp2_with fail
     refine (zcX _ _ _ _ _ _ _ _ _ _ _ _ _ _ _ _).mono ?_;rintro e w7 ⟨t9,rfl,ht9,b7⟩;have HB7:=hid (HB6.out.trans (b7.mono HB6.out.size));clear b7
     have HT9:Hid (t9=true↔zbv ⟨4,seq,name,length,group,row,rows,data,delta⟩):=by
      show t9=true↔zbv ⟨4,seq,name,length,group,row,rows,data,delta⟩
      rw [ht9];unfold zeB zcB zbv zdm
      simp [and_assoc]
      try (intros;rfl)
     clear ht9
     cases t9 with
     | false=>
      go_wp2;go_ret;exact recP rfl (Stair.pass HOK.out (Stair.pass HK.out (Stair.pass HQ.out (Stair.pass HN.out (Stair.pass HKP.out (Stair.fall (fun h=>by have:=HT9.out.2 h;simp at this))))))) HB7.out
     | true=>
      go_wp2;go_ret;exact recP rfl (Stair.pass HOK.out (Stair.pass HK.out (Stair.pass HQ.out (Stair.pass HN.out (Stair.pass HKP.out (Stair.pass (HT9.out.1 (by simp)) (Stair.last rfl))))))) HB7.out
  ·go_wp2_with fail
   refine (za7 (t:=false) (by omega) (exBF hq) _).mono ?_;rintro e w' ⟨rfl,hw'⟩;obtain rfl:=hw'.symm;go_wp2;go_ret;exact recP rfl (Stair.pass HOK.out (Stair.pass hk (Stair.fall hq))) HT1.out.bel
 ·go_wp2_with fail
  refine (za7 (t:=false) (by omega) (exBF hk) _).mono ?_;rintro e w' ⟨rfl,hw'⟩;obtain rfl:=hw'.symm;go_wp2;go_ret;exact recP rfl (Stair.pass HOK.out (Stair.fall hk)) HT1.out.bel
theorem zjF (d:WorldD) (hs:zar d.shape) (cs:List Value) (hi:Nat) (w:World) (h:zab.rd w hi d cs) (hhi:hi≤w.heap.size) :
 Calls Tryz.prog 137 #[.agg cs.toArray] w (zbI (OnP d) w):=by
 obtain ⟨ao1,cap1,ao2,cap2,ao3,cap3,rfl,g1,g2,g3,-⟩:=zaK h;obtain ⟨v2,e2,⟨h2,hcp2⟩,_⟩:=g2
 cases e2
 have H2:=hid h2;have HCP:=hid hcp2;have hm2:=h2.mx;unfold maxLen at hm2;have hb:=okB hs;have HS:=hid hs;clear h h2 hcp2 g1 g3 hs;have T0:=zaI w #[.int .i64 (d.shape 0),.int .i64 (d.shape 1),.int .i64 (d.shape 2),.int .i64 (d.shape 3),.int .i64 (d.shape 4),.int .i64 (d.shape 5),.int .i64 (d.shape 6),.int .i64 (d.shape 7),.int .i64 (d.shape 8),.slice ao1 d.groups.1 cap1,.slice ao2 d.on.1 cap2,.slice ao3 d.tapes.1 cap3,.int .i64 d.writes,.int .i64 d.stop,.bool d.down] 38
 go_enter Tryz.func137,Tryz.ntmps137
 cases hd:d.down with
 | true=>
  obtain ⟨b0,h0⟩:∃ b,((d.on.1:Int)==0)=b:=⟨_,rfl⟩
  have HE:Hid (OnP d↔b0=true):=by
   show OnP d↔_
   rw [← h0];unfold OnP
   simp [hd]
   constructor
   ·exact fun h=>h.2.2
   ·intro h
    refine ⟨fun i hi=>by omega,by omega,h⟩
  have HB:Hid (Below w.heap.size w (w.alloc (.cells #[.int .i64 (d.shape 0),.int .i64 (d.shape 1),.int .i64 (d.shape 2),.int .i64 (d.shape 3),.int .i64 (d.shape 4),.int .i64 (d.shape 5),.int .i64 (d.shape 6),.int .i64 (d.shape 7),.int .i64 (d.shape 8),.slice ao1 d.groups.1 cap1,.slice ao2 d.on.1 cap2,.slice ao3 d.tapes.1 cap3,.int .i64 d.writes,.int .i64 d.stop,.bool true] 38))):=by
   have:=T0.bel;rw [hd] at this;exact this
  clear T0
  cases b0 with
  | true=>
   go_wp2;go_ret;exact zaL (by simp [h0]) (HE.out.2 (by simp)) HB.out
  | false=>
   go_wp2;go_ret;exact zax (by simp [h0]) (fun h=>by have:=HE.out.1 h;simp at this) HB.out
 | false=>
  have T1:=T0;rw [hd] at T1;clear T0
  go_upto_region 3 with fail
  obtain ⟨W,hW⟩:∃ W,W=w.alloc (.cells #[.int .i64 (d.shape 0),.int .i64 (d.shape 1),.int .i64 (d.shape 2),.int .i64 (d.shape 3),.int .i64 (d.shape 4),.int .i64 (d.shape 5),.int .i64 (d.shape 6),.int .i64 (d.shape 7),.int .i64 (d.shape 8),.slice ao1 d.groups.1 cap1,.slice ao2 d.on.1 cap2,.slice ao3 d.tapes.1 cap3,.int .i64 d.writes,.int .i64 d.stop,.bool false] 38):=⟨_,rfl⟩;rw [← hW] at T1 ⊢;have HT:=hid T1;have x1_0:W.cell? ⟨w.heap.size,0,none⟩=some (.int .i64 (d.shape 0)):=T1.b1.cell 0;have kx1_0:=cell_regrown x1_0;have x1_1:W.cell? ⟨w.heap.size,1,none⟩=some (.int .i64 (d.shape 1)):=T1.b1.cell 1;have kx1_1:=cell_regrown x1_1;have x1_2:W.cell? ⟨w.heap.size,2,none⟩=some (.int .i64 (d.shape 2)):=T1.b1.cell 2;have kx1_2:=cell_regrown x1_2;have x1_3:W.cell? ⟨w.heap.size,3,none⟩=some (.int .i64 (d.shape 3)):=T1.b1.cell 3;have kx1_3:=cell_regrown x1_3;have x1_4:W.cell? ⟨w.heap.size,4,none⟩=some (.int .i64 (d.shape 4)):=T1.b1.cell 4;have kx1_4:=cell_regrown x1_4;have x1_5:W.cell? ⟨w.heap.size,5,none⟩=some (.int .i64 (d.shape 5)):=T1.b1.cell 5;have kx1_5:=cell_regrown x1_5;have x1_6:W.cell? ⟨w.heap.size,6,none⟩=some (.int .i64 (d.shape 6)):=T1.b1.cell 6;have kx1_6:=cell_regrown x1_6;have x1_7:W.cell? ⟨w.heap.size,7,none⟩=some (.int .i64 (d.shape 7)):=T1.b1.cell 7;have kx1_7:=cell_regrown x1_7;have x1_8:W.cell? ⟨w.heap.size,8,none⟩=some (.int .i64 (d.shape 8)):=T1.b1.cell 8;have kx1_8:=cell_regrown x1_8;have x1_10:W.cell? ⟨w.heap.size,10,none⟩=some (.slice ao2 d.on.1 cap2):=T1.b1.cell 10;have kx1_10:=cell_regrown x1_10;obtain ⟨b0,h0⟩:∃ b,decide ((d.on.1:Int)≤d.shape 5)=b:=⟨_,rfl⟩;obtain ⟨t2,h2⟩:=exB (zcg d.on.1 d.on.2 (d.shape 0+d.shape 1-1));have cG:=zaM (W:=W) (fun w' _=>zbF d.shape HS.out w');have cD:=zaM (W:=W) (fun w' hw'=>zb2 (zc5 _ d.on.1 d.on.2 hi (d.shape 0+d.shape 1) (by omega) (by omega) w' ((H2.out.below T1.bel hhi).below hw' (Nat.le_trans hhi T1.bel.size)) HCP.out (Nat.le_trans hhi (Nat.le_trans T1.bel.size hw'.size))) h2);unfold zak at cG
  have HE:Hid (OnP d↔(b0=true∧t2=true)):=by
   show OnP d↔_
   rw [← h0,h2];unfold OnP
   simp [hd]
   exact ⟨fun h=>⟨h.2,h.1⟩,fun h=>⟨h.2,h.1⟩⟩
  have hst:b0=false∨(b0=true∧t2=false)∨(b0=true∧t2=true):=by
   clear HE h0 h2 cD
   cases b0<;>simp
  clear h2 hW T1
  rcases hst with rfl | ⟨rfl,rfl⟩ | ⟨rfl,rfl⟩
  all_goals
   refine WQ.region (by kernel_rfl) (by kernel_rfl) ?_
   repeat (first | (apply WQ.skip;(case hw=>rfl);intro K hK;go_simp;apply hK;clear hK K) | (apply WQ.want;(case hw=>rfl);intro K hK;go_simp;first | (apply hK;clear hK K) | (apply Exists.intro;apply And.intro;(case left=>intro p;(first | (go_at_call 142;exact cG _ _) | (go_at_call 146;exact cD _ _)));apply hK;clear hK K)))
   refine WQ.nil ?_;intro w2 hw2;have HB2:Hid (Below w.heap.size w w2):=(HT.out.call (zaX hw2)).bel;clear hw2;go_wp2;go_ret
   first
    | exact zax rfl (fun h=>by have:=HE.out.1 h;simp at this) HB2.out
    | exact zaL rfl (HE.out.2 (by simp)) HB2.out
set_option maxRecDepth 20000 in
theorem zgs (d:WorldD) (cs:List Value) (hi:Nat) (w:World) (h:zab.rd w hi d cs) (hhi:hi≤w.heap.size) (hnm:∀ t,t<d.tapes.1→∀ i,i<(d.tapes.2 t).recs.1→((d.tapes.2 t).recs.2 i).name.size≤1048576) :
 Calls Tryz.prog 140 #[.agg cs.toArray] w (zlG d.shape d.tapes w):=by
 obtain ⟨ao1,cap1,ao2,cap2,ao3,cap3,rfl,g1,g2,g3,-⟩:=zaK h;obtain ⟨_,_,e3,hm3,hc3⟩:=g3
 cases e3
 unfold maxLen at hm3;have HC3:=hid hc3;have HNM:=hid hnm;have HT0:Hid (One w (w.alloc (.cells (rwW d ao1 cap1 ao2 cap2 ao3 cap3).toArray 38)) (rwW d ao1 cap1 ao2 cap2 ao3 cap3).toArray 38):=zaI w (rwW d ao1 cap1 ao2 cap2 ao3 cap3).toArray 38;clear h g1 g2 hc3 hnm
 go_enter Tryz.func140,Tryz.ntmps140
 go_wp2
 go_loopw [11] (fun v wr=>∃ t:Nat,t≤d.tapes.1∧v=.int .i64 t∧(∀ u,u<t→∀ k,k<(d.tapes.2 u).recs.1→RecAns d.shape ((d.tapes.2 u).recs.2 k) 0)∧One w wr (rwW d ao1 cap1 ao2 cap2 ao3 cap3).toArray 38) (fun v _=>d.tapes.1-(intOf v).toNat)
 case atStart=>exact ⟨0,Nat.zero_le _,rfl,fun i hi=>by omega,HT0.out⟩
 case round=>
  clear HT0;obtain ⟨t,ht,rfl,hal,T1⟩:=hrel;obtain ⟨wo,rfl⟩:∃ x,x=wr:=⟨_,rfl⟩;have HAL:=hid hal;have HT1:=hid T1;clear hal
  by_cases hlt:t<d.tapes.1
  ·obtain ⟨b3,off3,he3,hb3,hel3⟩:=HC3.out (by omega)
   subst he3;obtain ⟨ct,hrt,hct⟩:=zaB (t:=0) hel3 T1.bel hhi hb3 hlt;obtain ⟨ap,cp,rfl,gt⟩:=zbq hrt;have c0:wo.cell? ⟨b3,off3+t*2,none⟩=some (.bool (d.tapes.2 t).wiped):=hct 0 (by decide);have c1:wo.cell? ⟨b3,off3+t*2+1,none⟩=some (.slice ap (d.tapes.2 t).recs.1 cp):=hct 1 (by decide);obtain ⟨_,_,et,hmt,hct'⟩:=gt
   cases et
   unfold maxLen at hmt;have HCT:=hid hct';have zo:w.heap.size<wo.heap.size:=T1.b1.lt;clear hel3 hct hrt hct' T1
   go_upto_region 4 with fail
   have bA:=bAl wo (.cells #[.bool (d.tapes.2 t).wiped,.slice ap (d.tapes.2 t).recs.1 cp] 103);have X2:=zay wo #[.bool (d.tapes.2 t).wiped,.slice ap (d.tapes.2 t).recs.1 cp] 103;obtain ⟨W2,hW2⟩:∃ x,x=wo.alloc (.cells #[.bool (d.tapes.2 t).wiped,.slice ap (d.tapes.2 t).recs.1 cp] 103):=⟨_,rfl⟩;rw [← hW2] at bA X2 ⊢;have y2_1:W2.cell? ⟨wo.heap.size,1,none⟩=some (.slice ap (d.tapes.2 t).recs.1 cp):=X2.cell 1;have HB2:=hid bA;clear c0 c1 X2 bA hW2;go_wp2
   go_loopw [18] (fun v wx=>∃ i:Nat,i≤(d.tapes.2 t).recs.1∧v=.int .i64 i∧(∀ k,k<i→RecAns d.shape ((d.tapes.2 t).recs.2 k) 0)∧Below wo.heap.size wo wx) (fun v _=>(d.tapes.2 t).recs.1-(intOf v).toNat)
   case atStart=>exact ⟨0,Nat.zero_le _,rfl,fun i hi=>by omega,HB2.out⟩
   case round=>
    clear HB2 y2_1;obtain ⟨i,hi',rfl,hal2,hb4⟩:=hrel;obtain ⟨wx,rfl⟩:∃ x,x=wr:=⟨_,rfl⟩;have HAL2:=hid hal2;have HB4:=hid hb4;clear hal2
    by_cases hli:i<(d.tapes.2 t).recs.1
    ·obtain ⟨b6,off6,he6,hb6,hel6⟩:=HCT.out (by omega)
     subst he6;obtain ⟨cr,hrr,hcr⟩:=zaB (t:=0) hel6 hb4 (by omega) hb6 hli;obtain ⟨ro6,rc6,ro7,rc7,ro8,rc8,rfl,-⟩:=za5 hrr;have r0:wx.cell? ⟨b6,off6+i*9,none⟩=some (.int .i64 ((d.tapes.2 t).recs.2 i).kind):=hcr 0 (by decide);have r1:wx.cell? ⟨b6,off6+i*9+1,none⟩=some (.int .i64 ((d.tapes.2 t).recs.2 i).seq):=hcr 1 (by decide);have r2:wx.cell? ⟨b6,off6+i*9+2,none⟩=some (.string ((d.tapes.2 t).recs.2 i).name):=hcr 2 (by decide);have r3:wx.cell? ⟨b6,off6+i*9+3,none⟩=some (.int .i64 ((d.tapes.2 t).recs.2 i).length):=hcr 3 (by decide);have r4:wx.cell? ⟨b6,off6+i*9+4,none⟩=some (.int .i64 ((d.tapes.2 t).recs.2 i).group):=hcr 4 (by decide);have r5:wx.cell? ⟨b6,off6+i*9+5,none⟩=some (.int .i64 ((d.tapes.2 t).recs.2 i).row):=hcr 5 (by decide);have r6:wx.cell? ⟨b6,off6+i*9+6,none⟩=some (.slice ro6 ((d.tapes.2 t).recs.2 i).rows.1 rc6):=hcr 6 (by decide);have r7:wx.cell? ⟨b6,off6+i*9+7,none⟩=some (.slice ro7 ((d.tapes.2 t).recs.2 i).data.1 rc7):=hcr 7 (by decide);have r8:wx.cell? ⟨b6,off6+i*9+8,none⟩=some (.slice ro8 ((d.tapes.2 t).recs.2 i).delta.1 rc8):=hcr 8 (by decide);have HRR:=hid hrr;have T4:One w wx (rwW d ao1 cap1 ao2 cap2 (some ⟨b3,off3,none⟩) cap3).toArray 38:=HT1.out.call hb4;have HT4:=hid T4;have zx:wo.heap.size≤wx.heap.size:=hb4.size;obtain ⟨X,hX⟩:∃ X,RecAns d.shape ((d.tapes.2 t).recs.2 i) X:=zdB (K:=isZ) ⟨0,rfl⟩ _;have HX:=hid hX;clear hel6 hcr hrr T4 hb4 hX
     go_upto_region 7 with fail
     have bA:=bAl wx (.cells #[.int .i64 ((d.tapes.2 t).recs.2 i).kind,.int .i64 ((d.tapes.2 t).recs.2 i).seq,.string ((d.tapes.2 t).recs.2 i).name,.int .i64 ((d.tapes.2 t).recs.2 i).length,.int .i64 ((d.tapes.2 t).recs.2 i).group,.int .i64 ((d.tapes.2 t).recs.2 i).row,.slice ro6 ((d.tapes.2 t).recs.2 i).rows.1 rc6,.slice ro7 ((d.tapes.2 t).recs.2 i).data.1 rc7,.slice ro8 ((d.tapes.2 t).recs.2 i).delta.1 rc8] 43);have X5:=zay wx #[.int .i64 ((d.tapes.2 t).recs.2 i).kind,.int .i64 ((d.tapes.2 t).recs.2 i).seq,.string ((d.tapes.2 t).recs.2 i).name,.int .i64 ((d.tapes.2 t).recs.2 i).length,.int .i64 ((d.tapes.2 t).recs.2 i).group,.int .i64 ((d.tapes.2 t).recs.2 i).row,.slice ro6 ((d.tapes.2 t).recs.2 i).rows.1 rc6,.slice ro7 ((d.tapes.2 t).recs.2 i).data.1 rc7,.slice ro8 ((d.tapes.2 t).recs.2 i).delta.1 rc8] 43;obtain ⟨W5,hW5⟩:∃ x,x=wx.alloc (.cells #[.int .i64 ((d.tapes.2 t).recs.2 i).kind,.int .i64 ((d.tapes.2 t).recs.2 i).seq,.string ((d.tapes.2 t).recs.2 i).name,.int .i64 ((d.tapes.2 t).recs.2 i).length,.int .i64 ((d.tapes.2 t).recs.2 i).group,.int .i64 ((d.tapes.2 t).recs.2 i).row,.slice ro6 ((d.tapes.2 t).recs.2 i).rows.1 rc6,.slice ro7 ((d.tapes.2 t).recs.2 i).data.1 rc7,.slice ro8 ((d.tapes.2 t).recs.2 i).delta.1 rc8] 43):=⟨_,rfl⟩;rw [← hW5] at bA X5 ⊢;have T5:One w W5 (rwW d ao1 cap1 ao2 cap2 (some ⟨b3,off3,none⟩) cap3).toArray 38:=HT4.out.call bA;have y5_0:W5.cell? ⟨wx.heap.size,0,none⟩=some (.int .i64 ((d.tapes.2 t).recs.2 i).kind):=X5.cell 0;have y5_1:W5.cell? ⟨wx.heap.size,1,none⟩=some (.int .i64 ((d.tapes.2 t).recs.2 i).seq):=X5.cell 1;have y5_2:W5.cell? ⟨wx.heap.size,2,none⟩=some (.string ((d.tapes.2 t).recs.2 i).name):=X5.cell 2;have y5_3:W5.cell? ⟨wx.heap.size,3,none⟩=some (.int .i64 ((d.tapes.2 t).recs.2 i).length):=X5.cell 3;have y5_4:W5.cell? ⟨wx.heap.size,4,none⟩=some (.int .i64 ((d.tapes.2 t).recs.2 i).group):=X5.cell 4;have y5_5:W5.cell? ⟨wx.heap.size,5,none⟩=some (.int .i64 ((d.tapes.2 t).recs.2 i).row):=X5.cell 5;have y5_6:W5.cell? ⟨wx.heap.size,6,none⟩=some (.slice ro6 ((d.tapes.2 t).recs.2 i).rows.1 rc6):=X5.cell 6;have y5_7:W5.cell? ⟨wx.heap.size,7,none⟩=some (.slice ro7 ((d.tapes.2 t).recs.2 i).data.1 rc7):=X5.cell 7
     have y5_8:W5.cell? ⟨wx.heap.size,8,none⟩=some (.slice ro8 ((d.tapes.2 t).recs.2 i).delta.1 rc8):=X5.cell 8;have x5_0:W5.cell? ⟨w.heap.size,0,none⟩=some (.int .i64 (d.shape 0)):=T5.b1.cell 0;have x5_1:W5.cell? ⟨w.heap.size,1,none⟩=some (.int .i64 (d.shape 1)):=T5.b1.cell 1;have x5_2:W5.cell? ⟨w.heap.size,2,none⟩=some (.int .i64 (d.shape 2)):=T5.b1.cell 2;have x5_3:W5.cell? ⟨w.heap.size,3,none⟩=some (.int .i64 (d.shape 3)):=T5.b1.cell 3;have x5_4:W5.cell? ⟨w.heap.size,4,none⟩=some (.int .i64 (d.shape 4)):=T5.b1.cell 4;have x5_5:W5.cell? ⟨w.heap.size,5,none⟩=some (.int .i64 (d.shape 5)):=T5.b1.cell 5;have x5_6:W5.cell? ⟨w.heap.size,6,none⟩=some (.int .i64 (d.shape 6)):=T5.b1.cell 6;have x5_7:W5.cell? ⟨w.heap.size,7,none⟩=some (.int .i64 (d.shape 7)):=T5.b1.cell 7;have x5_8:W5.cell? ⟨w.heap.size,8,none⟩=some (.int .i64 (d.shape 8)):=T5.b1.cell 8;have CR:=zko HX.out (zfh d.shape ((d.tapes.2 t).recs.2 i) _ hi W5 (zae.rd_below HRR.out bA (by omega)) (by have:=bA.size;omega) (HNM.out t hlt i hli));unfold zak at CR;have HB5:=hid bA;clear r0 r1 r2 r3 r4 r5 r6 r7 r8 bA X5 T5 hW5
     go_wp2_with fail
     refine CR.mono ?_;rintro e w6 ⟨rfl,b6'⟩;have HB6:Hid (Below wo.heap.size wo w6):=HB4.out.trans ((HB5.out.trans (b6'.mono HB5.out.size)).mono HB4.out.size);clear b6' CR y5_0 x5_0 y5_1 x5_1 y5_2 x5_2 y5_3 x5_3 y5_4 x5_4 y5_5 x5_5 y5_6 x5_6 y5_7 x5_7 y5_8 x5_8
     by_cases hx0:X=0
     ·subst hx0
      go_wp2
      go_roundw
      case rel=>exact ⟨i+1,by omega,by go_num,fun k hk=>by
       by_cases c:k=i
       ·subst c;exact HX.out
       ·exact HAL2.out k (by omega),HB6.out⟩
      case measure=>simp [intOf];omega
     ·have hne:(X != 0)=true:=by simp [hx0]
      go_wp2;go_ret;exact ⟨X,rfl,.inr ⟨hx0,t,i,hlt,hli,HX.out,HAL2.out,HAL.out⟩,(HT1.out.call HB6.out).bel⟩
    ·obtain rfl:i=(d.tapes.2 t).recs.1:=by omega
     clear hb4;go_wp2
     go_roundw
     case rel=>exact ⟨t+1,by omega,by go_num,fun u hu=>by
      by_cases c:u=t
      ·subst c;exact HAL2.out
      ·exact HAL.out u (by omega),HT1.out.call HB4.out⟩
     case measure=>simp [intOf];omega
  ·obtain rfl:t=d.tapes.1:=by omega
   go_wp2;go_ret;exact ⟨0,rfl,.inl ⟨rfl,HAL.out⟩,HT1.out.bel⟩
set_option maxRecDepth 20000 in
theorem zgt (d:WorldD) (cs:List Value) (hi:Nat) (w:World) (h:zab.rd w hi d cs) (hhi:hi≤w.heap.size) (hnm:∀ t,t<d.tapes.1→∀ i,i<(d.tapes.2 t).recs.1→((d.tapes.2 t).recs.2 i).name.size≤1048576) :
 Calls Tryz.prog 107 #[.agg cs.toArray] w (zdn d w):=by
 obtain ⟨ao1,cap1,ao2,cap2,ao3,cap3,rfl,g1,g2,g3,-⟩:=zaK h;have HRD:=hid h;have HG1:=hid g1;have HG3:=hid g3
 have hm3:d.tapes.1≤maxLen:=by obtain ⟨_,_,_,h,_⟩:=g3;exact h
 unfold maxLen at hm3;have HNM:=hid hnm;clear h g1 g2 g3 hnm;have T0:=zaI w (rwW d ao1 cap1 ao2 cap2 ao3 cap3).toArray 38;have CSh:=fun w'=>zcW d.shape w';unfold zak at CSh
 go_enter Tryz.func107,Tryz.ntmps107
 go_wp2_with fail
 refine (CSh _).mono ?_;rintro e w1 ⟨x,rfl,hx,b1⟩;have T1:One w w1 (rwW d ao1 cap1 ao2 cap2 ao3 cap3).toArray 38:=T0.call b1;have HT1:=hid T1;clear b1 T0 CSh;have x1_0:w1.cell? ⟨w.heap.size,0,none⟩=some (.int .i64 (d.shape 0)):=T1.b1.cell 0;have x1_1:w1.cell? ⟨w.heap.size,1,none⟩=some (.int .i64 (d.shape 1)):=T1.b1.cell 1;have x1_2:w1.cell? ⟨w.heap.size,2,none⟩=some (.int .i64 (d.shape 2)):=T1.b1.cell 2;have x1_3:w1.cell? ⟨w.heap.size,3,none⟩=some (.int .i64 (d.shape 3)):=T1.b1.cell 3;have x1_4:w1.cell? ⟨w.heap.size,4,none⟩=some (.int .i64 (d.shape 4)):=T1.b1.cell 4;have x1_5:w1.cell? ⟨w.heap.size,5,none⟩=some (.int .i64 (d.shape 5)):=T1.b1.cell 5;have x1_6:w1.cell? ⟨w.heap.size,6,none⟩=some (.int .i64 (d.shape 6)):=T1.b1.cell 6;have x1_7:w1.cell? ⟨w.heap.size,7,none⟩=some (.int .i64 (d.shape 7)):=T1.b1.cell 7;have x1_8:w1.cell? ⟨w.heap.size,8,none⟩=some (.int .i64 (d.shape 8)):=T1.b1.cell 8;have x1_9:w1.cell? ⟨w.heap.size,9,none⟩=some (.slice ao1 d.groups.1 cap1):=T1.b1.cell 9;have x1_10:w1.cell? ⟨w.heap.size,10,none⟩=some (.slice ao2 d.on.1 cap2):=T1.b1.cell 10;have x1_11:w1.cell? ⟨w.heap.size,11,none⟩=some (.slice ao3 d.tapes.1 cap3):=T1.b1.cell 11;have x1_12:w1.cell? ⟨w.heap.size,12,none⟩=some (.int .i64 d.writes):=T1.b1.cell 12;have x1_13:w1.cell? ⟨w.heap.size,13,none⟩=some (.int .i64 d.stop):=T1.b1.cell 13;have x1_14:w1.cell? ⟨w.heap.size,14,none⟩=some (.bool d.down):=T1.b1.cell 14;clear T1
 rcases hx with ⟨rfl,hno⟩ | ⟨rfl,hok⟩
 ·go_wp2
  go_ret;exact wldP rfl (Stair.fall hno) HT1.out.bel
 have HOK:=hid hok;clear hok;obtain ⟨t1,h1⟩:=exB (zc4 d);have C1:=zb2 (zgr d.shape HOK.out d.groups _ hi w1 (((zaa.slice 97).slice 94).rd_below HG1.out HT1.out.bel hhi) (Nat.le_trans hhi HT1.out.bel.size)) (show t1=true↔zky d.shape d.groups from h1);unfold zak at C1;have H1:=hid h1;clear h1
 go_wp2_with fail
 refine C1.mono ?_;rintro e w2 ⟨rfl,b2⟩;have T2:One w w2 (rwW d ao1 cap1 ao2 cap2 ao3 cap3).toArray 38:=HT1.out.call b2;have HT2:=hid T2;clear b2 x1_0 x1_1 x1_2 x1_3 x1_4 x1_5 x1_6 x1_7 x1_8 x1_9 x1_10 x1_11 x1_12 x1_13 x1_14;have x2_0:w2.cell? ⟨w.heap.size,0,none⟩=some (.int .i64 (d.shape 0)):=T2.b1.cell 0;have x2_1:w2.cell? ⟨w.heap.size,1,none⟩=some (.int .i64 (d.shape 1)):=T2.b1.cell 1;have x2_2:w2.cell? ⟨w.heap.size,2,none⟩=some (.int .i64 (d.shape 2)):=T2.b1.cell 2;have x2_3:w2.cell? ⟨w.heap.size,3,none⟩=some (.int .i64 (d.shape 3)):=T2.b1.cell 3;have x2_4:w2.cell? ⟨w.heap.size,4,none⟩=some (.int .i64 (d.shape 4)):=T2.b1.cell 4;have x2_5:w2.cell? ⟨w.heap.size,5,none⟩=some (.int .i64 (d.shape 5)):=T2.b1.cell 5;have x2_6:w2.cell? ⟨w.heap.size,6,none⟩=some (.int .i64 (d.shape 6)):=T2.b1.cell 6;have x2_7:w2.cell? ⟨w.heap.size,7,none⟩=some (.int .i64 (d.shape 7)):=T2.b1.cell 7;have x2_8:w2.cell? ⟨w.heap.size,8,none⟩=some (.int .i64 (d.shape 8)):=T2.b1.cell 8;have x2_9:w2.cell? ⟨w.heap.size,9,none⟩=some (.slice ao1 d.groups.1 cap1):=T2.b1.cell 9;have x2_10:w2.cell? ⟨w.heap.size,10,none⟩=some (.slice ao2 d.on.1 cap2):=T2.b1.cell 10;have x2_11:w2.cell? ⟨w.heap.size,11,none⟩=some (.slice ao3 d.tapes.1 cap3):=T2.b1.cell 11;have x2_12:w2.cell? ⟨w.heap.size,12,none⟩=some (.int .i64 d.writes):=T2.b1.cell 12;have x2_13:w2.cell? ⟨w.heap.size,13,none⟩=some (.int .i64 d.stop):=T2.b1.cell 13;have x2_14:w2.cell? ⟨w.heap.size,14,none⟩=some (.bool d.down):=T2.b1.cell 14;clear T2;clear C1
 cases t1 with
 | false=>
  go_wp2;go_ret;exact wldP rfl (Stair.pass HOK.out (Stair.fall (fun h=>by have:=H1.out.2 h.1;simp at this))) HT2.out.bel
 | true=>
 have HB:Hid (zc4 d):=H1.out.1 rfl;clear H1;obtain ⟨t2,h2⟩:=exB (OnP d);have C2:=zb2 (zjF d HOK.out _ hi w2 (zab.rd_below HRD.out HT2.out.bel hhi) (Nat.le_trans hhi HT2.out.bel.size)) h2;have H2:=hid h2;clear h2
 go_wp2_with fail
 refine C2.mono ?_;rintro e w3 ⟨rfl,b3⟩;have T3:One w w3 (rwW d ao1 cap1 ao2 cap2 ao3 cap3).toArray 38:=HT2.out.call b3;have HT3:=hid T3;clear b3 x2_0 x2_1 x2_2 x2_3 x2_4 x2_5 x2_6 x2_7 x2_8 x2_9 x2_10 x2_11 x2_12 x2_13 x2_14;have x3_0:w3.cell? ⟨w.heap.size,0,none⟩=some (.int .i64 (d.shape 0)):=T3.b1.cell 0;have x3_1:w3.cell? ⟨w.heap.size,1,none⟩=some (.int .i64 (d.shape 1)):=T3.b1.cell 1;have x3_2:w3.cell? ⟨w.heap.size,2,none⟩=some (.int .i64 (d.shape 2)):=T3.b1.cell 2;have x3_3:w3.cell? ⟨w.heap.size,3,none⟩=some (.int .i64 (d.shape 3)):=T3.b1.cell 3;have x3_4:w3.cell? ⟨w.heap.size,4,none⟩=some (.int .i64 (d.shape 4)):=T3.b1.cell 4;have x3_5:w3.cell? ⟨w.heap.size,5,none⟩=some (.int .i64 (d.shape 5)):=T3.b1.cell 5;have x3_6:w3.cell? ⟨w.heap.size,6,none⟩=some (.int .i64 (d.shape 6)):=T3.b1.cell 6;have x3_7:w3.cell? ⟨w.heap.size,7,none⟩=some (.int .i64 (d.shape 7)):=T3.b1.cell 7;have x3_8:w3.cell? ⟨w.heap.size,8,none⟩=some (.int .i64 (d.shape 8)):=T3.b1.cell 8;have x3_9:w3.cell? ⟨w.heap.size,9,none⟩=some (.slice ao1 d.groups.1 cap1):=T3.b1.cell 9;have x3_10:w3.cell? ⟨w.heap.size,10,none⟩=some (.slice ao2 d.on.1 cap2):=T3.b1.cell 10;have x3_11:w3.cell? ⟨w.heap.size,11,none⟩=some (.slice ao3 d.tapes.1 cap3):=T3.b1.cell 11;have x3_12:w3.cell? ⟨w.heap.size,12,none⟩=some (.int .i64 d.writes):=T3.b1.cell 12;have x3_13:w3.cell? ⟨w.heap.size,13,none⟩=some (.int .i64 d.stop):=T3.b1.cell 13;have x3_14:w3.cell? ⟨w.heap.size,14,none⟩=some (.bool d.down):=T3.b1.cell 14;clear T3;clear C2
 cases t2 with
 | false=>
  go_wp2;go_ret;exact wldP rfl (Stair.pass HOK.out (Stair.fall (fun h=>by have:=H2.out.2 h.2.1;simp at this))) HT3.out.bel
 | true=>
 have HO:Hid (OnP d):=H2.out.1 rfl;clear H2
 by_cases h5:d.tapes.1=2
 ·have n5:((d.tapes.1:Int) != 2)=false:=by simp;omega
  have HFM:Hid (zcQ d):=⟨HB.out,HO.out,h5⟩;clear h5;obtain ⟨t4,h4⟩:=exB (zbO d.tapes);have C4:=zb2 (zes d.tapes _ _ hi w3 ((zan.slice 103).rd_below HG3.out HT3.out.bel hhi) (Nat.le_trans hhi HT3.out.bel.size)) h4;have H4:=hid h4;clear h4
  go_wp2_with fail
  refine C4.mono ?_;rintro e w4 ⟨rfl,b4⟩;have T4:One w w4 (rwW d ao1 cap1 ao2 cap2 ao3 cap3).toArray 38:=HT3.out.call b4;have HT4:=hid T4;clear b4 x3_0 x3_1 x3_2 x3_3 x3_4 x3_5 x3_6 x3_7 x3_8 x3_9 x3_10 x3_11 x3_12 x3_13 x3_14;have x4_0:w4.cell? ⟨w.heap.size,0,none⟩=some (.int .i64 (d.shape 0)):=T4.b1.cell 0;have x4_1:w4.cell? ⟨w.heap.size,1,none⟩=some (.int .i64 (d.shape 1)):=T4.b1.cell 1;have x4_2:w4.cell? ⟨w.heap.size,2,none⟩=some (.int .i64 (d.shape 2)):=T4.b1.cell 2;have x4_3:w4.cell? ⟨w.heap.size,3,none⟩=some (.int .i64 (d.shape 3)):=T4.b1.cell 3;have x4_4:w4.cell? ⟨w.heap.size,4,none⟩=some (.int .i64 (d.shape 4)):=T4.b1.cell 4;have x4_5:w4.cell? ⟨w.heap.size,5,none⟩=some (.int .i64 (d.shape 5)):=T4.b1.cell 5;have x4_6:w4.cell? ⟨w.heap.size,6,none⟩=some (.int .i64 (d.shape 6)):=T4.b1.cell 6;have x4_7:w4.cell? ⟨w.heap.size,7,none⟩=some (.int .i64 (d.shape 7)):=T4.b1.cell 7;have x4_8:w4.cell? ⟨w.heap.size,8,none⟩=some (.int .i64 (d.shape 8)):=T4.b1.cell 8;have x4_9:w4.cell? ⟨w.heap.size,9,none⟩=some (.slice ao1 d.groups.1 cap1):=T4.b1.cell 9;have x4_10:w4.cell? ⟨w.heap.size,10,none⟩=some (.slice ao2 d.on.1 cap2):=T4.b1.cell 10;have x4_11:w4.cell? ⟨w.heap.size,11,none⟩=some (.slice ao3 d.tapes.1 cap3):=T4.b1.cell 11;have x4_12:w4.cell? ⟨w.heap.size,12,none⟩=some (.int .i64 d.writes):=T4.b1.cell 12;have x4_13:w4.cell? ⟨w.heap.size,13,none⟩=some (.int .i64 d.stop):=T4.b1.cell 13;have x4_14:w4.cell? ⟨w.heap.size,14,none⟩=some (.bool d.down):=T4.b1.cell 14;clear T4;clear C4
  cases t4 with
  | true=>
   go_wp2;go_ret
   exact wldP rfl (Stair.pass HOK.out (Stair.pass HFM.out (Stair.fall (fun h=>by
    obtain ⟨t,ht,hh⟩:=H4.out.1 (by simp);have:=h t ht
    omega)))) HT4.out.bel
  | false=>
  have HFW:Hid (FewP d):=fun t ht=>by
   by_cases c:200<(d.tapes.2 t).recs.1
   ·have:=H4.out.2 ⟨t,ht,c⟩
    simp at this
   ·omega
  clear H4;have C5:=zgs d _ hi w4 (zab.rd_below HRD.out HT4.out.bel hhi) (Nat.le_trans hhi HT4.out.bel.size) HNM.out
  go_wp2_with fail
  refine C5.mono ?_;rintro e w5 ⟨X,rfl,hX,b5⟩;have T5:One w w5 (rwW d ao1 cap1 ao2 cap2 ao3 cap3).toArray 38:=HT4.out.call b5;have HT5:=hid T5;clear b5 x4_0 x4_1 x4_2 x4_3 x4_4 x4_5 x4_6 x4_7 x4_8 x4_9 x4_10 x4_11 x4_12 x4_13 x4_14;have x5_0:w5.cell? ⟨w.heap.size,0,none⟩=some (.int .i64 (d.shape 0)):=T5.b1.cell 0;have x5_1:w5.cell? ⟨w.heap.size,1,none⟩=some (.int .i64 (d.shape 1)):=T5.b1.cell 1;have x5_2:w5.cell? ⟨w.heap.size,2,none⟩=some (.int .i64 (d.shape 2)):=T5.b1.cell 2;have x5_3:w5.cell? ⟨w.heap.size,3,none⟩=some (.int .i64 (d.shape 3)):=T5.b1.cell 3;have x5_4:w5.cell? ⟨w.heap.size,4,none⟩=some (.int .i64 (d.shape 4)):=T5.b1.cell 4;have x5_5:w5.cell? ⟨w.heap.size,5,none⟩=some (.int .i64 (d.shape 5)):=T5.b1.cell 5;have x5_6:w5.cell? ⟨w.heap.size,6,none⟩=some (.int .i64 (d.shape 6)):=T5.b1.cell 6;have x5_7:w5.cell? ⟨w.heap.size,7,none⟩=some (.int .i64 (d.shape 7)):=T5.b1.cell 7;have x5_8:w5.cell? ⟨w.heap.size,8,none⟩=some (.int .i64 (d.shape 8)):=T5.b1.cell 8;have x5_9:w5.cell? ⟨w.heap.size,9,none⟩=some (.slice ao1 d.groups.1 cap1):=T5.b1.cell 9;have x5_10:w5.cell? ⟨w.heap.size,10,none⟩=some (.slice ao2 d.on.1 cap2):=T5.b1.cell 10;have x5_11:w5.cell? ⟨w.heap.size,11,none⟩=some (.slice ao3 d.tapes.1 cap3):=T5.b1.cell 11;have x5_12:w5.cell? ⟨w.heap.size,12,none⟩=some (.int .i64 d.writes):=T5.b1.cell 12;have x5_13:w5.cell? ⟨w.heap.size,13,none⟩=some (.int .i64 d.stop):=T5.b1.cell 13;have x5_14:w5.cell? ⟨w.heap.size,14,none⟩=some (.bool d.down):=T5.b1.cell 14;clear T5;clear C5
  by_cases hx0:X=0
  ·subst hx0
   have HRZ:=hid hX;clear hX;obtain ⟨t6,h6⟩:=exB (za8 d.tapes);have C6:=zb2 (zc6 d.tapes _ _ hi w5 ((zan.slice 103).rd_below HG3.out HT5.out.bel hhi) (Nat.le_trans hhi HT5.out.bel.size)) h6;have H6:=hid h6;clear h6
   go_wp2_with fail
   refine C6.mono ?_;rintro e w6 ⟨rfl,b6⟩;have T6:One w w6 (rwW d ao1 cap1 ao2 cap2 ao3 cap3).toArray 38:=HT5.out.call b6;have HT6:=hid T6;clear b6 x5_0 x5_1 x5_2 x5_3 x5_4 x5_5 x5_6 x5_7 x5_8 x5_9 x5_10 x5_11 x5_12 x5_13 x5_14;have x6_0:w6.cell? ⟨w.heap.size,0,none⟩=some (.int .i64 (d.shape 0)):=T6.b1.cell 0;have x6_1:w6.cell? ⟨w.heap.size,1,none⟩=some (.int .i64 (d.shape 1)):=T6.b1.cell 1;have x6_2:w6.cell? ⟨w.heap.size,2,none⟩=some (.int .i64 (d.shape 2)):=T6.b1.cell 2;have x6_3:w6.cell? ⟨w.heap.size,3,none⟩=some (.int .i64 (d.shape 3)):=T6.b1.cell 3;have x6_4:w6.cell? ⟨w.heap.size,4,none⟩=some (.int .i64 (d.shape 4)):=T6.b1.cell 4;have x6_5:w6.cell? ⟨w.heap.size,5,none⟩=some (.int .i64 (d.shape 5)):=T6.b1.cell 5;have x6_6:w6.cell? ⟨w.heap.size,6,none⟩=some (.int .i64 (d.shape 6)):=T6.b1.cell 6;have x6_7:w6.cell? ⟨w.heap.size,7,none⟩=some (.int .i64 (d.shape 7)):=T6.b1.cell 7;have x6_8:w6.cell? ⟨w.heap.size,8,none⟩=some (.int .i64 (d.shape 8)):=T6.b1.cell 8;have x6_9:w6.cell? ⟨w.heap.size,9,none⟩=some (.slice ao1 d.groups.1 cap1):=T6.b1.cell 9;have x6_10:w6.cell? ⟨w.heap.size,10,none⟩=some (.slice ao2 d.on.1 cap2):=T6.b1.cell 10;have x6_11:w6.cell? ⟨w.heap.size,11,none⟩=some (.slice ao3 d.tapes.1 cap3):=T6.b1.cell 11;have x6_12:w6.cell? ⟨w.heap.size,12,none⟩=some (.int .i64 d.writes):=T6.b1.cell 12;have x6_13:w6.cell? ⟨w.heap.size,13,none⟩=some (.int .i64 d.stop):=T6.b1.cell 13;have x6_14:w6.cell? ⟨w.heap.size,14,none⟩=some (.bool d.down):=T6.b1.cell 14;clear T6;clear C6
   cases t6 with
   | true=>
    go_wp2;go_ret;exact wldP rfl (Stair.pass HOK.out (Stair.pass HFM.out (Stair.pass HFW.out (Stair.last (.inr ⟨HRZ.out,Stair.fall (fun h=>by obtain ⟨t,ht,h1,h2⟩:=H6.out.1 (by simp);have:=h t ht h1;omega)⟩))))) HT6.out.bel
   | false=>
   have HCL:Hid (ziV d):=fun t ht hw=>by
    by_cases c:0<(d.tapes.2 t).recs.1
    ·have:=H6.out.2 ⟨t,ht,hw,c⟩
     simp at this
    ·omega
   clear H6
   by_cases h7:InP d.writes 0 1000000000
   ·go_wp2_with fail
    refine (za7 (t:=true) (by omega) (exBT h7) _).mono ?_;rintro e w' ⟨rfl,hw'⟩;obtain rfl:=hw'.symm
    by_cases h8:InP d.stop (-1) 1000000000
    ·go_wp2_with fail
     refine (za7 (t:=true) (by omega) (exBT h8) _).mono ?_;rintro e w' ⟨rfl,hw'⟩;obtain rfl:=hw'.symm;go_wp2;go_ret;exact wldP rfl (Stair.pass HOK.out (Stair.pass HFM.out (Stair.pass HFW.out (Stair.last (.inr ⟨HRZ.out,Stair.pass HCL.out (Stair.pass ⟨h7,h8⟩ (Stair.last rfl))⟩))))) HT6.out.bel
    ·go_wp2_with fail
     refine (za7 (t:=false) (by omega) (exBF h8) _).mono ?_;rintro e w' ⟨rfl,hw'⟩;obtain rfl:=hw'.symm;go_wp2;go_ret;exact wldP rfl (Stair.pass HOK.out (Stair.pass HFM.out (Stair.pass HFW.out (Stair.last (.inr ⟨HRZ.out,Stair.pass HCL.out (Stair.fall (fun h=>h8 h.2))⟩))))) HT6.out.bel
   ·go_wp2_with fail
    refine (za7 (t:=false) (by omega) (exBF h7) _).mono ?_;rintro e w' ⟨rfl,hw'⟩;obtain rfl:=hw'.symm;go_wp2;go_ret;exact wldP rfl (Stair.pass HOK.out (Stair.pass HFM.out (Stair.pass HFW.out (Stair.last (.inr ⟨HRZ.out,Stair.pass HCL.out (Stair.fall (fun h=>h7 h.1))⟩))))) HT6.out.bel
  ·have hne:(X != 0)=true:=by simp [hx0]
   go_wp2;go_ret;exact wldP rfl (Stair.pass HOK.out (Stair.pass HFM.out (Stair.pass HFW.out (Stair.last (.inl ⟨hx0,hX⟩))))) HT5.out.bel
 ·have n5:((d.tapes.1:Int) != 2)=true:=by simp;omega
  go_wp2;go_ret;exact wldP rfl (Stair.pass HOK.out (Stair.fall (fun h=>h5 h.2.2))) HT3.out.bel
theorem zgu {w:World} {hi:Nat} {d:WorldD} {cs:List Value} (h:zab.rd w hi d cs):∃ v0 v1 v2 v3 v4 v5 v6 v7 v8 vp0 vl0 vq0 vp1 vl1 vq1 vp2 vl2 vq2 v9 v10 vb,cs=[.int .i64 v0,.int .i64 v1,.int .i64 v2,.int .i64 v3,.int .i64 v4,.int .i64 v5,.int .i64 v6,.int .i64 v7,.int .i64 v8,.slice vp0 vl0 vq0,.slice vp1 vl1 vq1,.slice vp2 vl2 vq2,.int .i64 v9,.int .i64 v10,.bool vb]:=by
 obtain ⟨p1,pc1,p2,pc2,p3,pc3,rfl,-⟩:=zaK h;exact ⟨_,_,_,_,_,_,_,_,_,_,_,_,_,_,_,_,_,_,_,_,_,rfl⟩
theorem zi0 {w:World} {lo hi:Nat} {d:WorldD} {cs:List Value} (h:OwnT zab w lo hi d cs):∃ v0 v1 v2 v3 v4 v5 v6 v7 v8 vp0 vl0 vq0 vp1 vl1 vq1 vp2 vl2 vq2 v9 v10 vb,cs=[.int .i64 v0,.int .i64 v1,.int .i64 v2,.int .i64 v3,.int .i64 v4,.int .i64 v5,.int .i64 v6,.int .i64 v7,.int .i64 v8,.slice vp0 vl0 vq0,.slice vp1 vl1 vq1,.slice vp2 vl2 vq2,.int .i64 v9,.int .i64 v10,.bool vb]:=zgu h.rd
def cutW (d:WorldD):WorldD:={ d with on:=(0,fun _=>0),down:=true }
theorem zeO {K:Int→Prop}:∀ (l:List (Prop×Int)) {x:Int},Stair l K x→K x∨∃ p,p∈l∧x=p.2
 | [],x,h=>.inl h
 | (p,c)::l,x,h=>by
  rcases h with ⟨_,h⟩ | ⟨_,h⟩
  ·exact .inr ⟨(p,c),List.mem_cons_self ..,h⟩
  ·rcases zeO l h with k | ⟨q,hq,k⟩
   ·exact .inl k
   ·exact .inr ⟨q,List.mem_cons_of_mem _ hq,k⟩
theorem zkA {s:Nat→Int} {r:RecD} {x:Int} (h:RecAns s r x):0≤x∧x≤9:=by
 rcases zeO _ h with k | ⟨p,hp,rfl⟩
 ·rw [show x=0 from k];decide
 ·simp at hp
  rcases hp with rfl | rfl | rfl | rfl | rfl | rfl<;>constructor<;>simp
theorem zkB {d:WorldD} {x:Int} (h:WldAns d x):(-9223372036854775808≤x∧x≤9223372036854775807):=by
 have key:0≤x∧x≤9:=by
  rcases zeO _ h with k | ⟨p,hp,rfl⟩
  ·rcases k with ⟨_,k⟩ | ⟨_,k⟩
   ·rcases k with ⟨rfl,_⟩ | ⟨_,t,i,_,_,hr,_⟩
    ·decide
    ·exact zkA hr
   ·rcases zeO _ k with k | ⟨p,hp,rfl⟩
    ·rw [show x=0 from k];decide
    ·simp at hp
     rcases hp with rfl | rfl<;>constructor<;>simp
  ·simp at hp
   rcases hp with rfl | rfl | rfl<;>constructor<;>simp
 omega
theorem zeD {d:WorldD} (h:zaW d≤1048576):∀ t,t<d.tapes.1→∀ i,i<(d.tapes.2 t).recs.1→((d.tapes.2 t).recs.2 i).name.size≤1048576:=fun t ht i hi=>by
 have h1:szSl za0 d.tapes≤1048576:=by unfold zaW at h;omega
 have h2:szSl zaY (d.tapes.2 t).recs≤1048576:=zbB h1 ht;have h3:zaY ((d.tapes.2 t).recs.2 i)≤1048576:=zbB h2 hi;unfold zaY at h3;omega
structure Turn {α:Type} (A:Lay α) (w:World) (K:List Nat) (w':World) (a:α) (cs:List Value) (K':List Nat):Prop where
 own:A.own w' a cs K'
 nd:K'.Nodup
 sub:∀ b,b∈K'→b∈K∨(w.heap.size≤b∧b<w'.heap.size)
 chg:ChgL K w w'
theorem zfP {n:Nat} {F:Nat→List Nat} (h1:∀ k,k<n→(F k).Nodup) (h2:∀ k j,k<n→j<n→k≠j→∀ b,b∈F k→b∉F j):(catN n F).Nodup:=by
 induction n with
 | zero=>simp [catN]
 | succ n ih=>
  rw [zbm];refine List.nodup_append.2 ⟨ih (fun k hk=>h1 k (by omega)) (fun k j hk hj=>h2 k j (by omega) (by omega)),h1 n (by omega),fun b hb c hc hh=>?_⟩;subst hh;obtain ⟨k,hk,hbk⟩:=zaz.1 hb;exact h2 k n (by omega) (by omega) (by omega) b hbk hc
theorem zcL {n:Nat} {F:Nat→List Nat} (h:(catN n F).Nodup) {k:Nat} (hk:k<n):(F k).Nodup:=by
 induction n with
 | zero=>omega
 | succ n ih=>
  rw [zbm] at h;obtain ⟨h1,h2,_⟩:=List.nodup_append.1 h
  by_cases c:k=n
  ·subst c;exact h2
  ·exact ih h1 (by omega)
section
variable {α:Type} {E:Lay α} {t:TypeId} {w w':World} {g cap n:Nat} {x:Nat→α} {ce:Nat→List Value} {Ls:Nat→List Nat}
theorem zi1 {i:Nat} (hi:i<n) {K':List Nat} {N M:Nat} (nd:(g::catN n Ls).Nodup) (hN:∀ b,b∈g::catN n Ls→b<N) (hn:K'.Nodup) (hs:∀ b,b∈K'→b∈Ls i∨(N≤b∧b<M)):(g::catN n (upd Ls i K')).Nodup:=by
 obtain ⟨n1,n2⟩:=List.nodup_cons.1 nd
 have ne:∀ k,k<n→k≠i→∀ b,b∈Ls k→b∉K':=fun k hk hne b hb hbK=>by
  rcases hs b hbK with h | h
  ·exact zbS n2 hi hk hne hb h
  ·have:=hN b (List.mem_cons_of_mem _ (zaz.2 ⟨k,hk,hb⟩));omega
 refine List.nodup_cons.2 ⟨fun hg=>?_,zfP (fun k hk=>?_) (fun k j hk hj hne b hb=>?_)⟩
 ·obtain ⟨k,hk,hb⟩:=zaz.1 hg
  by_cases c:k=i
  ·subst c
   rw [zaH] at hb
   rcases hs g hb with h | h
   ·exact n1 (zaz.2 ⟨k,hk,h⟩)
   ·have:=hN g (List.mem_cons_self ..);omega
  ·rw [zaN Ls K' c] at hb
   exact n1 (zaz.2 ⟨k,hk,hb⟩)
 ·by_cases c:k=i
  ·subst c;rw [zaH];exact hn
  ·rw [zaN Ls K' c];exact zcL n2 hk
 ·by_cases c:k=i
  ·subst c
   rw [zaH] at hb;rw [zaN Ls K' (fun h=>hne h.symm)];exact fun hbj=>ne j hj (fun h=>hne h.symm) b hbj hb
  ·rw [zaN Ls K' c] at hb
   by_cases c2:j=i
   ·subst c2
    rw [zaH];exact ne k hk c b hb
   ·rw [zaN Ls K' c2]
    exact zbS n2 hj hk hne hb
theorem zkC {i:Nat} (hi:i<n) {K':List Nat} {N M:Nat} (hs:∀ b,b∈K'→b∈Ls i∨(N≤b∧b<M)):∀ b,b∈g::catN n (upd Ls i K')→b∈g::catN n Ls∨(N≤b∧b<M):=fun b hb=>by
 rcases List.mem_cons.1 hb with rfl | hb
 ·exact .inl (List.mem_cons_self ..)
 ·obtain ⟨k,hk,hb⟩:=zaz.1 hb
  by_cases c:k=i
  ·subst c
   rw [zaH] at hb
   rcases hs b hb with h | h
   ·exact .inl (List.mem_cons_of_mem _ (zaz.2 ⟨k,hk,h⟩))
   ·exact .inr h
  ·rw [zaN Ls K' c] at hb
   exact .inl (List.mem_cons_of_mem _ (zaz.2 ⟨k,hk,hb⟩))
theorem SlO.turn_in (h:SlO E t w g cap n x ce Ls) (nd:(g::catN n Ls).Nodup) {i:Nat} (hi:i<n) {a':α} {K':List Nat} (ht:Turn E w (Ls i) w' a' (ce i) K') :
 Turn (E.slice t) w (g::catN n Ls) w' (n,upd x i a') [.slice (some ⟨g,0,none⟩) n cap] (g::catN n (upd Ls i K')):=by
 have hgi:g∉Ls i:=fun hb=>(List.nodup_cons.1 nd).1 (zaz.2 ⟨i,hi,hb⟩)
 have hO:SlO E t w' g cap n (upd x i a') ce (upd Ls i K'):=by
  refine ⟨⟨h.row.1,?_⟩,fun k hk=>?_⟩
  ·rcases h.row.2 with ⟨hn,_⟩ | ⟨g',cap',cur,he,hbg,hgg,rest⟩
   ·cases hn
   ·cases he
    exact .inr ⟨g,cap,cur,rfl,hbg,(ht.chg.block g h.lt hgi).trans hgg,rest⟩
  ·by_cases c:k=i
   ·subst c;rw [zaH,zaH];exact ht.own
   ·rw [zaN x a' c,zaN Ls K' c]
    exact E.own_chgL (h.each k hk) ht.chg (fun b hb=>zbS (List.nodup_cons.1 nd).2 hi hk c hb)
 exact ⟨hO.own,zi1 hi nd h.mem_lt ht.nd ht.sub,zkC hi ht.sub,ht.chg.mono (SlO.sub i hi)⟩
theorem SlO.turn_at {w1:World} (h:SlO E t w g cap n x ce Ls) (nd:(g::catN n Ls).Nodup) {i:Nat} (hi:i<n) {a':α} {cs':List Value} {K':List Nat} (ht:Turn E w (Ls i) w1 a' cs' K') (hw:w'=Go.Proofs.YtlpbohnadenacaaGreat.stN w1 g (i*E.sz) cs') :
 Turn (E.slice t) w (g::catN n Ls) w' (n,upd x i a') [.slice (some ⟨g,0,none⟩) n cap] (g::catN n (upd Ls i K')):=by
 subst hw;have hgi:g∉Ls i:=fun hb=>(List.nodup_cons.1 nd).1 (zaz.2 ⟨i,hi,hb⟩);have nd':=zi1 (g:=g) hi nd h.mem_lt ht.nd ht.sub;have hcs:=E.own_len ht.own
 have row1:w1.ownsRow 0 t E.sz (.slice (some ⟨g,0,none⟩) n cap) n (catN n ce):=by
  refine ⟨h.row.1,?_⟩
  rcases h.row.2 with ⟨hn,_⟩ | ⟨g',cap',cur,he,hbg,hgg,rest⟩
  ·cases hn
  ·cases he
   exact .inr ⟨g,cap,cur,rfl,hbg,(ht.chg.block g h.lt hgi).trans hgg,rest⟩
 have hgK:∀ b,b∈catN n (upd Ls i K')→b≠g:=fun b hb hh=>by
  subst hh;exact (List.nodup_cons.1 nd').1 hb
 have hO:SlO E t (Go.Proofs.YtlpbohnadenacaaGreat.stN w1 g (i*E.sz) cs') g cap n (upd x i a') (upd ce i cs') (upd Ls i K'):=by
  refine ⟨?_,fun k hk=>?_⟩
  ·have:=zf4 cs' w1 (i*E.sz) _ row1
   rw [zeV h.lens hi hcs] at this;exact this
  ·have own1:E.own w1 (upd x i a' k) (upd ce i cs' k) (upd Ls i K' k):=by
    by_cases c:k=i
    ·subst c;rw [zaH,zaH,zaH];exact ht.own
    ·rw [zaN x a' c,zaN ce cs' c,zaN Ls K' c]
     exact E.own_chgL (h.each k hk) ht.chg (fun b hb=>zbS (List.nodup_cons.1 nd).2 hi hk c hb)
   exact E.own_kept own1 (fun b hb=>zbo g b (hgK b (zaz.2 ⟨k,hk,hb⟩)) cs' w1 _)
 have c1:ChgL (g::catN n Ls) w w1:=ht.chg.mono (SlO.sub i hi);refine ⟨hO.own,nd',fun b hb=>?_,?_⟩
 ·rw [zbj];exact zkC hi ht.sub b hb
 ·exact c1.trans ⟨(za1 g cs' w1 _).1,(za1 g cs' w1 _).2.1,(za1 g cs' w1 _).2.2,Nat.le_of_eq (zbj g cs' w1 _).symm,fun b _ hb=>zbo g b (fun hh=>hb (by rw [hh];exact List.mem_cons_self ..)) cs' w1 _⟩
end
theorem Turn.fresh {α:Type} {A:Lay α} {w w1:World} {K:List Nat} {a:α} {cs:List Value} {lo:Nat} (h:OwnT A w1 lo w1.heap.size a cs) (hlo:w.heap.size≤lo) (hc:ChgL K w w1):∃ K',Turn A w K w1 a cs K':=by
 obtain ⟨L,h1,h2,h3⟩:=h;exact ⟨L,h1,h2,fun b hb=>.inr ⟨by have:=(h3 b hb).1;omega,(h3 b hb).2⟩,hc⟩
structure WOpen (w:World) (lo hi:Nat) (d:WorldD) (v1 v2 v3:Value) (K1 K2 K3:List Nat):Prop where
 g:((zaa.slice 97).slice 94).own w d.groups [v1] K1
 o:zal.own w d.on [v2] K2
 t:(zan.slice 103).own w d.tapes [v3] K3
 nd:(K1++(K2++K3)).Nodup
 inn:∀ b,b∈K1++(K2++K3)→lo≤b∧b<hi
 k0:∀ i,-9223372036854775808≤d.shape i∧d.shape i≤9223372036854775807
 k4:-9223372036854775808≤d.writes∧d.writes≤9223372036854775807
 k5:-9223372036854775808≤d.stop∧d.stop≤9223372036854775807
theorem zfQ {w:World} {lo hi:Nat} {d:WorldD} {cs:List Value} (h:OwnT zab w lo hi d cs):∃ p1 c1 p2 c2 p3 c3 K1 K2 K3,cs=[.int .i64 (d.shape 0),.int .i64 (d.shape 1),.int .i64 (d.shape 2),.int .i64 (d.shape 3),.int .i64 (d.shape 4),.int .i64 (d.shape 5),.int .i64 (d.shape 6),.int .i64 (d.shape 7),.int .i64 (d.shape 8),.slice p1 d.groups.1 c1,.slice p2 d.on.1 c2,.slice p3 d.tapes.1 c3,.int .i64 d.writes,.int .i64 d.stop,.bool d.down]∧WOpen w lo hi d (.slice p1 d.groups.1 c1) (.slice p2 d.on.1 c2) (.slice p3 d.tapes.1 c3) K1 K2 K3:=by
 obtain ⟨M,h1,h2,h3⟩:=h;obtain ⟨a1,b1,a2,b2,a3,b3,K1,K2,K3,e,hM,o1,o2,o3,k0,k4,k5⟩:=zbV h1;subst hM
 simp only [List.append_nil] at h2 h3
 exact ⟨a1,b1,a2,b2,a3,b3,K1,K2,K3,e,o1,o2,o3,h2,h3,k0,k4,k5⟩
theorem zhf {A B C B':List Nat} {N M:Nat} (nd:(A++(B++C)).Nodup) (hN:∀ b,b∈A++(B++C)→b<N) (hn:B'.Nodup) (hs:∀ b,b∈B'→b∈B∨(N≤b∧b<M)):(A++(B'++C)).Nodup:=by
 obtain ⟨a1,a2,a3⟩:=List.nodup_append.1 nd;obtain ⟨b1,b2,b3⟩:=List.nodup_append.1 a2;refine List.nodup_append.2 ⟨a1,List.nodup_append.2 ⟨hn,b2,fun b hb c hc hh=>?_⟩,fun b hb c hc hh=>?_⟩
 ·subst hh
  rcases hs b hb with h | h
  ·exact b3 b h b hc rfl
  ·have:=hN b (List.mem_append_right _ (List.mem_append_right _ hc));omega
 ·subst hh
  rcases List.mem_append.1 hc with hc | hc
  ·rcases hs b hc with h | h
   ·exact a3 b hb b (List.mem_append_left _ h) rfl
   ·have:=hN b (List.mem_append_left _ hb);omega
  ·exact a3 b hb b (List.mem_append_right _ hc) rfl
section
variable {w w':World} {lo hi:Nat} {d:WorldD} {v1 v2 v3:Value} {K1 K2 K3:List Nat}
theorem WOpen.ap12 (h:WOpen w lo hi d v1 v2 v3 K1 K2 K3) {b:Nat} (hb:b∈K1):b∉K2:=fun h2=>(List.nodup_append.1 h.nd).2.2 b hb b (List.mem_append_left _ h2) rfl
theorem WOpen.ap13 (h:WOpen w lo hi d v1 v2 v3 K1 K2 K3) {b:Nat} (hb:b∈K1):b∉K3:=fun h2=>(List.nodup_append.1 h.nd).2.2 b hb b (List.mem_append_right _ h2) rfl
theorem WOpen.ap23 (h:WOpen w lo hi d v1 v2 v3 K1 K2 K3) {b:Nat} (hb:b∈K2):b∉K3:=fun h2=>(List.nodup_append.1 (List.nodup_append.1 h.nd).2.1).2.2 b hb b h2 rfl
theorem WOpen.on (h:WOpen w lo hi d v1 v2 v3 K1 K2 K3) (hhi:hi≤w.heap.size) (hlo:lo≤w.heap.size) {o':Nat×(Nat→Int)} {v':Value} {K':List Nat} (ht:Turn zal w K2 w' o' [v'] K'):WOpen w' lo w'.heap.size { d with on:=o' } v1 v' v3 K1 K' K3:=by
 have hN:∀ b,b∈K1++(K2++K3)→b<w.heap.size:=fun b hb=>by have:=(h.inn b hb).2;omega
 refine ⟨Lay.own_chgL _ h.g ht.chg (fun b hb=>h.ap12 hb),ht.own,Lay.own_chgL _ h.t ht.chg (fun b hb hb2=>h.ap23 hb2 hb),zhf h.nd hN ht.nd ht.sub,fun b hb=>?_,h.k0,h.k4,h.k5⟩;have hz:=ht.chg.size
 rcases List.mem_append.1 hb with hb | hb
 ·have:=h.inn b (List.mem_append_left _ hb);omega
 ·rcases List.mem_append.1 hb with hb | hb
  ·rcases ht.sub b hb with hb | hb
   ·have:=h.inn b (List.mem_append_right _ (List.mem_append_left _ hb));omega
   ·omega
  ·have:=h.inn b (List.mem_append_right _ (List.mem_append_right _ hb));omega
theorem WOpen.groups (h:WOpen w lo hi d v1 v2 v3 K1 K2 K3) (hhi:hi≤w.heap.size) (hlo:lo≤w.heap.size) {o':Nat×(Nat→Nat×(Nat→DriveD))} {v':Value} {K':List Nat} (ht:Turn ((zaa.slice 97).slice 94) w K1 w' o' [v'] K'):WOpen w' lo w'.heap.size { d with groups:=o' } v' v2 v3 K' K2 K3:=by
 have hN:∀ b,b∈[]++(K1++(K2++K3))→b<w.heap.size:=fun b hb=>by have:=(h.inn b (by simpa using hb)).2;omega
 have hnd:([]++(K1++(K2++K3))).Nodup:=by simpa using h.nd
 have n2:=zhf hnd hN ht.nd ht.sub;refine ⟨ht.own,Lay.own_chgL _ h.o ht.chg (fun b hb hb1=>h.ap12 hb1 hb),Lay.own_chgL _ h.t ht.chg (fun b hb hb1=>h.ap13 hb1 hb),by simpa using n2,fun b hb=>?_,h.k0,h.k4,h.k5⟩;have hz:=ht.chg.size
 rcases List.mem_append.1 hb with hb | hb
 ·rcases ht.sub b hb with hb | hb
  ·have:=h.inn b (List.mem_append_left _ hb);omega
  ·omega
 ·have:=h.inn b (List.mem_append_right _ hb);omega
theorem WOpen.below (h:WOpen w lo hi d v1 v2 v3 K1 K2 K3) {B:Nat} (hb:Below B w w') (hB:hi≤B):WOpen w' lo hi d v1 v2 v3 K1 K2 K3:=
 ⟨Lay.own_kept _ h.g (fun b hb'=>hb.block b (by have:=h.inn b (List.mem_append_left _ hb');omega)),Lay.own_kept _ h.o (fun b hb'=>hb.block b (by have:=h.inn b (List.mem_append_right _ (List.mem_append_left _ hb'));omega)),Lay.own_kept _ h.t (fun b hb'=>hb.block b (by have:=h.inn b (List.mem_append_right _ (List.mem_append_right _ hb'));omega)),h.nd,h.inn,h.k0,h.k4,h.k5⟩
end
theorem zlI {w:World} {hi:Nat} {d:WorldD} {c0 c1 c2 c3 c4 c5 c6 c7 c8 c9 c10 c11 c12 c13:Value} {b:Bool} (h:zab.rd w hi d [c0,c1,c2,c3,c4,c5,c6,c7,c8,c9,c10,c11,c12,c13,.bool b]):b=d.down:=by
 obtain ⟨p1,pc1,p2,pc2,p3,pc3,e,-⟩:=zaK h
 simp only [List.cons.injEq,Value.bool.injEq,and_true] at e
 exact e.2.2.2.2.2.2.2.2.2.2.2.2.2.2
end Go.Proofs.YtlpbohnadenacaaGreat
namespace Go.Proofs.YtlpbohnadenacaaGreat
open Go.RowKit
theorem zeE (w:World):(callFunc 188 #[]).run Tryz.prog w=.ok (.value (.tuple #[])) w:=run_call_mark0 Tryz.func188 (by kernel_rfl) (by kernel_rfl) (by kernel_rfl) .disable (by kernel_rfl) w
theorem zfi (w:World):(callFunc 190 #[]).run Tryz.prog w=.ok (.value (.tuple #[])) w:=run_call_mark0 Tryz.func190 (by kernel_rfl) (by kernel_rfl) (by kernel_rfl) .enable (by kernel_rfl) w
theorem zhg (a:Addr) (w:World):(callFunc 191 #[.pointer (some a)]).run Tryz.prog w=.ok (.value (.tuple #[])) w:=run_call_marked Tryz.func191 (by kernel_rfl) (by kernel_rfl) (by kernel_rfl) .acquire (by kernel_rfl) a w
theorem zhh (a:Addr) (w:World):(callFunc 193 #[.pointer (some a)]).run Tryz.prog w=.ok (.value (.tuple #[])) w:=run_call_marked Tryz.func193 (by kernel_rfl) (by kernel_rfl) (by kernel_rfl) .releaseMerge (by kernel_rfl) a w
set_option maxRecDepth 100000 in
theorem zeP (a:Addr) (w:World) (hc:w.cell? a=some (.int .i32 0)) (hz:w.frozen? a=false) :
 Calls Tryz.prog 161 #[.pointer (some a)] w fun e w'=>e=.returned (.tuple #[])∧w'=w.setCell a (.int .i32 1):=by
 have hd:=zeE;have he:=zfi;have ha:=zhg;have hcas:=run_call_cas_hit (P:=Tryz.prog) Tryz.func189 (by kernel_rfl) (by kernel_rfl) (by kernel_rfl) .i32 (by kernel_rfl) (y:=1) hc hz;have hc':(w.setCell a (.int .i32 1)).cell? a=some (.int .i32 1):=World.cell?_setCell_same w a _ hc;have hcv:=run_convert_to_unsafe (P:=Tryz.prog) (src:=204) (dst:=208) Tryz.underlying204 Tryz.underlying208 (by kernel_rfl) hc'
 go_enter Tryz.func161,Tryz.ntmps161
 go_wp2
 first | go_end0 | (simp only [Exit.inBlock,Exit.then];refine bodyPost_ret (results_none rfl _ _ _) rfl ?_) | refine bodyPost_ret (results_none rfl _ _ _) rfl ?_
 go_wp2
 go_end0
 exact ⟨rfl,rfl⟩
set_option maxRecDepth 100000 in
theorem zcY (a:Addr) (u:FrameMode) (w:World) (hc:w.cell? a=some (.int .i32 1)) (hz:w.frozen? a=false) :
 CallsD Tryz.prog 162 #[.pointer (some a)] u w fun e u' w'=>u'=u∧(e=.returned (.tuple #[])∧w'=w.setCell a (.int .i32 0)):=by
 have hd:=zeE;have he:=zfi;have hr:=zhh;have hadd:=run_call_add (P:=Tryz.prog) Tryz.func194 (by kernel_rfl) (by kernel_rfl) (by kernel_rfl) .i32 (by kernel_rfl) (y:=-1) (s:=0) hc hz (by simp [go_sem];rfl);have hcv:=run_convert_to_unsafe (P:=Tryz.prog) (src:=204) (dst:=208) Tryz.underlying204 Tryz.underlying208 (by kernel_rfl) hc
 go_enter_d Tryz.func162,Tryz.ntmps162
 go_wp2
 go_end0
 go_wp2
 go_end0
 exact ⟨rfl,rfl⟩
set_option maxRecDepth 100000 in
theorem zjG (a:Addr) (x:Value) (u:FrameMode) (w:World) (hc:w.cell? a=some x) (hz:w.frozen? a=false) :
 CallsD Tryz.prog 197 #[.pointer (some a),.bool true] u w fun e u' w'=>u'=u∧(e=.returned (.tuple #[])∧w'=w.drew.setCell a (.int .u32 1)):=by
 have hc':w.drew.cell? a=some x:=by go_simp
 have hz':w.drew.frozen? a=false:=by go_simp
 have hst:=run_call_store (P:=Tryz.prog) Tryz.func206 (by kernel_rfl) (by kernel_rfl) (by kernel_rfl) (by kernel_rfl) (k:=.u32) (y:=1) hc' hz'
 go_enter_d Tryz.func197,Tryz.ntmps197
 go_wp2
 go_region_calls
 all_goals (go_end0;exact ⟨rfl,rfl⟩)
end Go.Proofs.YtlpbohnadenacaaGreat
namespace Go.Proofs.YtlpbohnadenacaaGreat
open Go.RowKit F256
structure EncO (w:World) (E:Nat) (d:WorldD) (cs:List Value) (K:List Nat):Prop where
 own:zab.own w d cs K
 nd:K.Nodup
 ne:E∉K
theorem zb1 {w:World} {d:WorldD} {cs:List Value} {K:List Nat} (h:zab.own w d cs K):∃ v0 v1 v2 v3 v4 v5 v6 v7 v8 vp0 vl0 vq0 vp1 vl1 vq1 vp2 vl2 vq2 v9 v10 vb,cs=[.int .i64 v0,.int .i64 v1,.int .i64 v2,.int .i64 v3,.int .i64 v4,.int .i64 v5,.int .i64 v6,.int .i64 v7,.int .i64 v8,.slice vp0 vl0 vq0,.slice vp1 vl1 vq1,.slice vp2 vl2 vq2,.int .i64 v9,.int .i64 v10,.bool vb]:=by
 obtain ⟨p1,pc1,p2,pc2,p3,pc3,K1,K2,K3,rfl,-⟩:=zbV h;exact ⟨_,_,_,_,_,_,_,_,_,_,_,_,_,_,_,_,_,_,_,_,_,rfl⟩
theorem EncO.T {w:World} {E:Nat} {d:WorldD} {cs:List Value} {K:List Nat} (h:EncO w E d cs K):OwnT zab w 0 w.heap.size d cs:=⟨K,h.own,h.nd,fun b hb=>⟨Nat.zero_le _,zab.own_lt h.own b hb⟩⟩
theorem zi2 {w:World} {d:WorldD} {c0 c1 c2 c3 c4 c5 c6 c7 c8 c9 c10 c11 c12 c13 c14:Value} {K:List Nat} (h:zab.own w d [c0,c1,c2,c3,c4,c5,c6,c7,c8,c9,c10,c11,c12,c13,c14] K) (nd:K.Nodup):∃ K',zab.own w (cutW d) [c0,c1,c2,c3,c4,c5,c6,c7,c8,c9,.slice none 0 0,c11,c12,c13,.bool true] K'∧K'.Nodup∧∀ b,b∈K'→b∈K:=by
 obtain ⟨a1,b1,a2,b2,a3,b3,K1,K2,K3,e,hM,o1,o2,o3,k0,k4,k5⟩:=zbV h
 simp only [List.cons.injEq,and_true] at e
 obtain ⟨rfl,rfl,rfl,rfl,rfl,rfl,rfl,rfl,rfl,rfl,rfl,rfl,rfl,rfl,rfl⟩:=e;subst hM;refine ⟨K1++([]++(K3++[])),zd5 (cutW d) o1 (zfL w _ (fun _=>show (-9223372036854775808≤(0:Int)∧(0:Int)≤9223372036854775807) by decide)) o3 k0 k4 k5,?_,fun b hb=>?_⟩
 ·obtain ⟨n1,n2,n3⟩:=List.nodup_append.1 nd
  obtain ⟨_,n4,_⟩:=List.nodup_append.1 n2;exact List.nodup_append.2 ⟨n1,n4,fun b hb c hc=>n3 b hb c (List.mem_append_right _ hc)⟩
 ·rcases List.mem_append.1 hb with h | h
  ·exact List.mem_append_left _ h
  ·exact List.mem_append_right _ (List.mem_append_right _ h)
set_option maxRecDepth 20000 in
theorem zed (v0 v1 v2 v3 v4 v5 v6 v7 v8 vp0 vl0 vq0 vp1 vl1 vq1 vp2 vl2 vq2 v9 v10 vb:_) (w:World) (h1:∀ x,x∈([.int .i64 v0,.int .i64 v1,.int .i64 v2,.int .i64 v3,.int .i64 v4,.int .i64 v5,.int .i64 v6,.int .i64 v7,.int .i64 v8,.slice vp0 vl0 vq0,.slice none 0 0,.slice vp2 vl2 vq2,.int .i64 v9,.int .i64 v10,.bool true]:List Value)→x.oneCell'=true) :
 Calls Tryz.prog 165 #[.agg #[.int .i64 v0,.int .i64 v1,.int .i64 v2,.int .i64 v3,.int .i64 v4,.int .i64 v5,.int .i64 v6,.int .i64 v7,.int .i64 v8,.slice vp0 vl0 vq0,.slice vp1 vl1 vq1,.slice vp2 vl2 vq2,.int .i64 v9,.int .i64 v10,.bool vb]] w fun e w'=>e=.returned (.agg #[.int .i64 v0,.int .i64 v1,.int .i64 v2,.int .i64 v3,.int .i64 v4,.int .i64 v5,.int .i64 v6,.int .i64 v7,.int .i64 v8,.slice vp0 vl0 vq0,.slice none 0 0,.slice vp2 vl2 vq2,.int .i64 v9,.int .i64 v10,.bool true])∧Below w.heap.size w w':=by
 have T0:=zaC w (rwV v0 v1 v2 v3 v4 v5 v6 v7 v8 vp0 vl0 vq0 vp1 vl1 vq1 vp2 vl2 vq2 v9 v10 vb).toArray (rwV 0 0 0 0 0 0 0 0 0 none 0 0 none 0 0 none 0 0 0 0 false).toArray 38 38
 go_enter Tryz.func165,Tryz.ntmps165
 go_upto_region 1 with fail
 obtain ⟨W,hW⟩:∃ x,x=(w.alloc (.cells (rwV v0 v1 v2 v3 v4 v5 v6 v7 v8 vp0 vl0 vq0 vp1 vl1 vq1 vp2 vl2 vq2 v9 v10 vb).toArray 38)).alloc (.cells (rwV 0 0 0 0 0 0 0 0 0 none 0 0 none 0 0 none 0 0 0 0 false).toArray 38):=⟨_,rfl⟩;rw [← hW] at T0 ⊢;clear hW;have y0:W.cell? ⟨w.heap.size,14,none⟩=some (.bool vb):=T0.b1.cell 14;have yf0:W.frozen? ⟨w.heap.size,14,none⟩=false:=T0.b1.frozen 14;have X0:Box (W.setCell ⟨w.heap.size,14,none⟩ (.bool true)) w.heap.size (rwV v0 v1 v2 v3 v4 v5 v6 v7 v8 vp0 vl0 vq0 vp1 vl1 vq1 vp2 vl2 vq2 v9 v10 true).toArray 38:=T0.b1.setc 14 _;have y1:(W.setCell ⟨w.heap.size,14,none⟩ (.bool true)).cell? ⟨w.heap.size,10,none⟩=some (.slice vp1 vl1 vq1):=X0.cell 10;have yf1:(W.setCell ⟨w.heap.size,14,none⟩ (.bool true)).frozen? ⟨w.heap.size,10,none⟩=false:=X0.frozen 10;have X1:Box ((W.setCell ⟨w.heap.size,14,none⟩ (.bool true)).setCell ⟨w.heap.size,10,none⟩ (.slice none 0 0)) w.heap.size (rwV v0 v1 v2 v3 v4 v5 v6 v7 v8 vp0 vl0 vq0 none 0 0 vp2 vl2 vq2 v9 v10 true).toArray 38:=X0.setc 10 _;have CC:ChgL [w.heap.size] W ((W.setCell ⟨w.heap.size,14,none⟩ (.bool true)).setCell ⟨w.heap.size,10,none⟩ (.slice none 0 0)):=((ChgL.refl _ _).st _ 14 (.bool true) (by simp)).st _ 10 (.slice none 0 0) (by simp);have R1:=T0.b2.chgl CC (by simp);have B1:=T0.bel.trans (CC.bel (fun b hb=>by simp at hb;omega) T0.bel.size);have HH1:=hid h1;clear h1
 go_wp2_with (first | (refine zaj 38 (.tmp 1) rfl rfl (w.heap.size) rfl (X1) Tryz.underlying38 zbd rfl ?_) | (refine zaF 38 _ _ rfl rfl (w.heap.size+1) rfl (cs:=(rwV v0 v1 v2 v3 v4 v5 v6 v7 v8 vp0 vl0 vq0 none 0 0 vp2 vl2 vq2 v9 v10 true)) rfl R1 zbd rfl rfl HH1.out ?_;intro w9 X9 C9 z9))
 refine zbh Tryz.results165 rfl X9 Tryz.underlying38 zbd rfl rfl ?_;exact ⟨rfl,B1.trans (C9.bel (fun b hb=>by simp at hb;omega) B1.size)⟩
set_option maxRecDepth 20000 in
theorem zle (E pe:Nat) (l o m:Int) (v0 v1 v2 v3 v4 v5 v6 v7 v8 vp0 vl0 vq0 vp1 vl1 vq1 vp2 vl2 vq2 v9 v10 vb:_) (w:World) (hp:w.cell? ⟨pe,0,none⟩=some (.pointer (some ⟨E,0,none⟩))) (hpe:pe<w.heap.size) (hX:Box w E #[.int .i32 l,.int .u32 0,.int .u32 o,.int .i32 m,.int .u32 0,.int .i64 v0,.int .i64 v1,.int .i64 v2,.int .i64 v3,.int .i64 v4,.int .i64 v5,.int .i64 v6,.int .i64 v7,.int .i64 v8,.slice vp0 vl0 vq0,.slice vp1 vl1 vq1,.slice vp2 vl2 vq2,.int .i64 v9,.int .i64 v10,.bool vb] 133) (h1:∀ x,x∈([.int .i64 v0,.int .i64 v1,.int .i64 v2,.int .i64 v3,.int .i64 v4,.int .i64 v5,.int .i64 v6,.int .i64 v7,.int .i64 v8,.slice vp0 vl0 vq0,.slice none 0 0,.slice vp2 vl2 vq2,.int .i64 v9,.int .i64 v10,.bool true]:List Value)→x.oneCell'=true) :
 Calls Tryz.prog 164 #[.pointer (some ⟨pe,0,none⟩)] w fun e w'=>e=.returned (.tuple #[])∧Box w' E #[.int .i32 l,.int .u32 0,.int .u32 o,.int .i32 m,.int .u32 0,.int .i64 v0,.int .i64 v1,.int .i64 v2,.int .i64 v3,.int .i64 v4,.int .i64 v5,.int .i64 v6,.int .i64 v7,.int .i64 v8,.slice vp0 vl0 vq0,.slice none 0 0,.slice vp2 vl2 vq2,.int .i64 v9,.int .i64 v10,.bool true] 133∧ChgL [E] w w':=by
 have hE:E<w.heap.size:=hX.lt;have HX:=hid hX;have x_5:w.cell? ⟨E,5,none⟩=some (.int .i64 v0):=hX.cell 5;have x_6:w.cell? ⟨E,6,none⟩=some (.int .i64 v1):=hX.cell 6;have x_7:w.cell? ⟨E,7,none⟩=some (.int .i64 v2):=hX.cell 7;have x_8:w.cell? ⟨E,8,none⟩=some (.int .i64 v3):=hX.cell 8;have x_9:w.cell? ⟨E,9,none⟩=some (.int .i64 v4):=hX.cell 9;have x_10:w.cell? ⟨E,10,none⟩=some (.int .i64 v5):=hX.cell 10;have x_11:w.cell? ⟨E,11,none⟩=some (.int .i64 v6):=hX.cell 11;have x_12:w.cell? ⟨E,12,none⟩=some (.int .i64 v7):=hX.cell 12;have x_13:w.cell? ⟨E,13,none⟩=some (.int .i64 v8):=hX.cell 13;have x_14:w.cell? ⟨E,14,none⟩=some (.slice vp0 vl0 vq0):=hX.cell 14;have x_15:w.cell? ⟨E,15,none⟩=some (.slice vp1 vl1 vq1):=hX.cell 15;have x_16:w.cell? ⟨E,16,none⟩=some (.slice vp2 vl2 vq2):=hX.cell 16;have x_17:w.cell? ⟨E,17,none⟩=some (.int .i64 v9):=hX.cell 17;have x_18:w.cell? ⟨E,18,none⟩=some (.int .i64 v10):=hX.cell 18;have x_19:w.cell? ⟨E,19,none⟩=some (.bool vb):=hX.cell 19;have KS:∀ w',Below w.heap.size w w'→(w'.cell? ⟨pe,0,none⟩=some (.pointer (some ⟨E,0,none⟩))∧w'.cell? ⟨E,5,none⟩=some (.int .i64 v0)∧w'.cell? ⟨E,6,none⟩=some (.int .i64 v1)∧w'.cell? ⟨E,7,none⟩=some (.int .i64 v2)∧w'.cell? ⟨E,8,none⟩=some (.int .i64 v3)∧w'.cell? ⟨E,9,none⟩=some (.int .i64 v4)∧w'.cell? ⟨E,10,none⟩=some (.int .i64 v5)∧w'.cell? ⟨E,11,none⟩=some (.int .i64 v6)∧w'.cell? ⟨E,12,none⟩=some (.int .i64 v7)∧w'.cell? ⟨E,13,none⟩=some (.int .i64 v8)∧w'.cell? ⟨E,14,none⟩=some (.slice vp0 vl0 vq0)∧w'.cell? ⟨E,15,none⟩=some (.slice vp1 vl1 vq1)∧w'.cell? ⟨E,16,none⟩=some (.slice vp2 vl2 vq2)∧w'.cell? ⟨E,17,none⟩=some (.int .i64 v9)∧w'.cell? ⟨E,18,none⟩=some (.int .i64 v10)∧w'.cell? ⟨E,19,none⟩=some (.bool vb)):=fun w' hb=>⟨(hb.cell (p:=⟨pe,0,none⟩) hpe).trans hp,(hb.cell (p:=⟨E,5,none⟩) hE).trans x_5,(hb.cell (p:=⟨E,6,none⟩) hE).trans x_6,(hb.cell (p:=⟨E,7,none⟩) hE).trans x_7,(hb.cell (p:=⟨E,8,none⟩) hE).trans x_8,(hb.cell (p:=⟨E,9,none⟩) hE).trans x_9,(hb.cell (p:=⟨E,10,none⟩) hE).trans x_10,(hb.cell (p:=⟨E,11,none⟩) hE).trans x_11,(hb.cell (p:=⟨E,12,none⟩) hE).trans x_12,(hb.cell (p:=⟨E,13,none⟩) hE).trans x_13,(hb.cell (p:=⟨E,14,none⟩) hE).trans x_14,(hb.cell (p:=⟨E,15,none⟩) hE).trans x_15,(hb.cell (p:=⟨E,16,none⟩) hE).trans x_16,(hb.cell (p:=⟨E,17,none⟩) hE).trans x_17,(hb.cell (p:=⟨E,18,none⟩) hE).trans x_18,(hb.cell (p:=⟨E,19,none⟩) hE).trans x_19⟩;have CC:=zed v0 v1 v2 v3 v4 v5 v6 v7 v8 vp0 vl0 vq0 vp1 vl1 vq1 vp2 vl2 vq2 v9 v10 vb w.drew h1
 clear hX h1
 go_enter Tryz.func164,Tryz.ntmps164
 go_upto_region 0 with fail
 refine zbs 8 (fun w'=>w'.cell? ⟨pe,0,none⟩=some (.pointer (some ⟨E,0,none⟩))∧w'.cell? ⟨E,5,none⟩=some (.int .i64 v0)∧w'.cell? ⟨E,6,none⟩=some (.int .i64 v1)∧w'.cell? ⟨E,7,none⟩=some (.int .i64 v2)∧w'.cell? ⟨E,8,none⟩=some (.int .i64 v3)∧w'.cell? ⟨E,9,none⟩=some (.int .i64 v4)∧w'.cell? ⟨E,10,none⟩=some (.int .i64 v5)∧w'.cell? ⟨E,11,none⟩=some (.int .i64 v6)∧w'.cell? ⟨E,12,none⟩=some (.int .i64 v7)∧w'.cell? ⟨E,13,none⟩=some (.int .i64 v8)∧w'.cell? ⟨E,14,none⟩=some (.slice vp0 vl0 vq0)∧w'.cell? ⟨E,15,none⟩=some (.slice vp1 vl1 vq1)∧w'.cell? ⟨E,16,none⟩=some (.slice vp2 vl2 vq2)∧w'.cell? ⟨E,17,none⟩=some (.int .i64 v9)∧w'.cell? ⟨E,18,none⟩=some (.int .i64 v10)∧w'.cell? ⟨E,19,none⟩=some (.bool vb)) (by kernel_rfl) (KS _ ⟨rfl,rfl,rfl,Nat.le_refl _,fun _ _=>rfl⟩) (fun hHeld=>?_);refine zl2 0 rfl ?_
 try simp only [Act.put,SL]
 refine zl2 1 rfl ?_
 try simp only [Act.put,SL]
 refine zl2 2 rfl ?_
 try simp only [Act.put,SL]
 refine zl2 3 rfl ?_
 try simp only [Act.put,SL]
 refine zl2 4 rfl ?_
 try simp only [Act.put,SL]
 refine zat (i:=5) (o:=_) rfl (by kernel_rfl) (fun KC hKC=>?_)
 refine zaE rfl 165 _ _ rfl #[.agg (rwV v0 v1 v2 v3 v4 v5 v6 v7 v8 vp0 vl0 vq0 vp1 vl1 vq1 vp2 vl2 vq2 v9 v10 vb).toArray] ?_ Tryz.func165 (by kernel_rfl) (by kernel_rfl) CC ?_;(simp [Act.eval,Act.put]);rintro ee w5 ⟨rfl,b5'⟩;have b5w:Below w.heap.size w w5:=⟨b5'.os,b5'.tape,b5'.output,b5'.size,b5'.block⟩;have X5:=HX.out.below b5w hE;have z_5:w5.cell? ⟨E,5,none⟩=some (.int .i64 v0):=X5.cell 5;have zf_5:w5.frozen? ⟨E,5,none⟩=false:=X5.frozen 5;have z_6:w5.cell? ⟨E,6,none⟩=some (.int .i64 v1):=X5.cell 6;have zf_6:w5.frozen? ⟨E,6,none⟩=false:=X5.frozen 6;have z_7:w5.cell? ⟨E,7,none⟩=some (.int .i64 v2):=X5.cell 7;have zf_7:w5.frozen? ⟨E,7,none⟩=false:=X5.frozen 7;have z_8:w5.cell? ⟨E,8,none⟩=some (.int .i64 v3):=X5.cell 8;have zf_8:w5.frozen? ⟨E,8,none⟩=false:=X5.frozen 8;have z_9:w5.cell? ⟨E,9,none⟩=some (.int .i64 v4):=X5.cell 9;have zf_9:w5.frozen? ⟨E,9,none⟩=false:=X5.frozen 9;have z_10:w5.cell? ⟨E,10,none⟩=some (.int .i64 v5):=X5.cell 10;have zf_10:w5.frozen? ⟨E,10,none⟩=false:=X5.frozen 10;have z_11:w5.cell? ⟨E,11,none⟩=some (.int .i64 v6):=X5.cell 11;have zf_11:w5.frozen? ⟨E,11,none⟩=false:=X5.frozen 11;have z_12:w5.cell? ⟨E,12,none⟩=some (.int .i64 v7):=X5.cell 12;have zf_12:w5.frozen? ⟨E,12,none⟩=false:=X5.frozen 12;have z_13:w5.cell? ⟨E,13,none⟩=some (.int .i64 v8):=X5.cell 13;have zf_13:w5.frozen? ⟨E,13,none⟩=false:=X5.frozen 13;have z_14:w5.cell? ⟨E,14,none⟩=some (.slice vp0 vl0 vq0):=X5.cell 14;have zf_14:w5.frozen? ⟨E,14,none⟩=false:=X5.frozen 14;have z_15:w5.cell? ⟨E,15,none⟩=some (.slice vp1 vl1 vq1):=X5.cell 15;have zf_15:w5.frozen? ⟨E,15,none⟩=false:=X5.frozen 15;have z_16:w5.cell? ⟨E,16,none⟩=some (.slice vp2 vl2 vq2):=X5.cell 16;have zf_16:w5.frozen? ⟨E,16,none⟩=false:=X5.frozen 16;have z_17:w5.cell? ⟨E,17,none⟩=some (.int .i64 v9):=X5.cell 17;have zf_17:w5.frozen? ⟨E,17,none⟩=false:=X5.frozen 17;have z_18:w5.cell? ⟨E,18,none⟩=some (.int .i64 v10):=X5.cell 18;have zf_18:w5.frozen? ⟨E,18,none⟩=false:=X5.frozen 18;have z_19:w5.cell? ⟨E,19,none⟩=some (.bool vb):=X5.cell 19;have zf_19:w5.frozen? ⟨E,19,none⟩=false:=X5.frozen 19;refine ⟨_,rfl,?_⟩
 refine hKC.out _ _ (KS _ b5w) (fun hHeld=>?_);clear hKC KC
 try simp only [Act.put,SL]
 refine zl2 6 rfl ?_
 try simp only [Act.put,SL]
 refine zl2 7 rfl ?_
 try simp only [Act.put,SL]
 refine zbJ (o:=_) rfl (by kernel_rfl) (fun KC hKC=>?_);go_simp;refine hKC.out _ _ ?_;clear hKC KC
 try simp only [Act.put,SL]
 refine zbK (by kernel_rfl) ?_ _;have X6:Box (stN w5 E 5 (rwV v0 v1 v2 v3 v4 v5 v6 v7 v8 vp0 vl0 vq0 none 0 0 vp2 vl2 vq2 v9 v10 true)) E #[.int .i32 l,.int .u32 0,.int .u32 o,.int .i32 m,.int .u32 0,.int .i64 v0,.int .i64 v1,.int .i64 v2,.int .i64 v3,.int .i64 v4,.int .i64 v5,.int .i64 v6,.int .i64 v7,.int .i64 v8,.slice vp0 vl0 vq0,.slice none 0 0,.slice vp2 vl2 vq2,.int .i64 v9,.int .i64 v10,.bool true] 133:=X5.stL (rwV v0 v1 v2 v3 v4 v5 v6 v7 v8 vp0 vl0 vq0 none 0 0 vp2 vl2 vq2 v9 v10 true) 5;have C6:ChgL [E] w (stN w5 E 5 (rwV v0 v1 v2 v3 v4 v5 v6 v7 v8 vp0 vl0 vq0 none 0 0 vp2 vl2 vq2 v9 v10 true)):=(ChgL.of_below b5w).trans ⟨(za1 E _ w5 5).1,(za1 E _ w5 5).2.1,(za1 E _ w5 5).2.2,Nat.le_of_eq (zbj E _ w5 5).symm,fun b _ hb=>zbo E b (fun hh=>hb (by simp [hh])) _ w5 5⟩;go_wp2
 go_end0
 exact ⟨rfl,X6,C6⟩
theorem Box.drew {w:World} {b:Nat} {cs:Array Value} {t:TypeId} (h:Box w b cs t):Box w.drew b cs t:=h
theorem ChgL.drew {K:List Nat} {w w':World} (h:ChgL K w w'):ChgL K w w'.drew:=⟨h.os,h.tape,h.output,h.size,h.block⟩
set_option maxRecDepth 100000 in
theorem zkD (E pe:Nat) (l:Int) (v0 v1 v2 v3 v4 v5 v6 v7 v8 vp0 vl0 vq0 vp1 vl1 vq1 vp2 vl2 vq2 v9 v10 vb:_) (w:World) (hp:w.cell? ⟨pe,0,none⟩=some (.pointer (some ⟨E,0,none⟩))) (hpe:pe<w.heap.size) (hne:pe≠E) (hX:Box w E #[.int .i32 l,.int .u32 0,.int .u32 0,.int .i32 0,.int .u32 0,.int .i64 v0,.int .i64 v1,.int .i64 v2,.int .i64 v3,.int .i64 v4,.int .i64 v5,.int .i64 v6,.int .i64 v7,.int .i64 v8,.slice vp0 vl0 vq0,.slice vp1 vl1 vq1,.slice vp2 vl2 vq2,.int .i64 v9,.int .i64 v10,.bool vb] 133) (h1:∀ x,x∈([.int .i64 v0,.int .i64 v1,.int .i64 v2,.int .i64 v3,.int .i64 v4,.int .i64 v5,.int .i64 v6,.int .i64 v7,.int .i64 v8,.slice vp0 vl0 vq0,.slice none 0 0,.slice vp2 vl2 vq2,.int .i64 v9,.int .i64 v10,.bool true]:List Value)→x.oneCell'=true) :
 Calls Tryz.prog 183 #[.pointer (some ⟨E,2,none⟩),.func (.func 164) #[] #[.pointer (some ⟨pe,0,none⟩)]] w fun e w'=>e=.returned (.tuple #[])∧Box w' E #[.int .i32 l,.int .u32 0,.int .u32 1,.int .i32 0,.int .u32 0,.int .i64 v0,.int .i64 v1,.int .i64 v2,.int .i64 v3,.int .i64 v4,.int .i64 v5,.int .i64 v6,.int .i64 v7,.int .i64 v8,.slice vp0 vl0 vq0,.slice none 0 0,.slice vp2 vl2 vq2,.int .i64 v9,.int .i64 v10,.bool true] 133∧ChgL [E] w w':=by
 have X1:Box (w.setCell ⟨E,3,none⟩ (.int .i32 1)) E #[.int .i32 l,.int .u32 0,.int .u32 0,.int .i32 1,.int .u32 0,.int .i64 v0,.int .i64 v1,.int .i64 v2,.int .i64 v3,.int .i64 v4,.int .i64 v5,.int .i64 v6,.int .i64 v7,.int .i64 v8,.slice vp0 vl0 vq0,.slice vp1 vl1 vq1,.slice vp2 vl2 vq2,.int .i64 v9,.int .i64 v10,.bool vb] 133:=hX.setc 3 _;have c3:w.cell? ⟨E,3,none⟩=some (.int .i32 0):=hX.cell 3;have f3:w.frozen? ⟨E,3,none⟩=false:=hX.frozen 3;have c2:(w.setCell ⟨E,3,none⟩ (.int .i32 1)).cell? ⟨E,2,none⟩=some (.int .u32 0):=X1.cell 2;have C1:ChgL [E] w (w.setCell ⟨E,3,none⟩ (.int .i32 1)):=(ChgL.refl _ _).st _ 3 _ (by simp);have hl:=run_call_load (P:=Tryz.prog) Tryz.func196 (by kernel_rfl) (by kernel_rfl) (by kernel_rfl) .u32 (by kernel_rfl) c2;have hnot:∀ (x:Bool) (w:World),(Op.unary .not (.bool x)).run Tryz.prog w=.ok (.bool (!x)) w:=fun _ _=>rfl;have hp1:(w.setCell ⟨E,3,none⟩ (.int .i32 1)).cell? ⟨pe,0,none⟩=some (.pointer (some ⟨E,0,none⟩)):=(World.cell?_of_block (C1.block pe hpe (by simpa using hne))).trans hp;have CF:=zle E pe l 0 1 v0 v1 v2 v3 v4 v5 v6 v7 v8 vp0 vl0 vq0 vp1 vl1 vq1 vp2 vl2 vq2 v9 v10 vb _ hp1 (by simpa using hpe) X1 h1;have HC1:=hid C1;have HCF:=CF;clear C1 X1 hX h1 hp hp1 CF
 go_enter_defers Tryz.func183,Tryz.ntmps183
 go_wp2_with (first | (go_at_call 161;refine (zeP ⟨E,3,none⟩ _ c3 f3).mono ?_;rintro e w' ⟨rfl,rfl⟩) | (go_at_call 164;refine HCF.mono ?_;rintro e w5 ⟨rfl,X5,C5⟩) | (go_at_call 182;go_in))
 refine leaves_cons (f:=197) (args:=#[.pointer (some ⟨E,2,none⟩),.bool true]) (by simp) (by simp [go_sem]) ?_;refine (zjG ⟨E,2,none⟩ (.int .u32 0) .returning _ (X5.cell 2) (X5.frozen 2)).mono ?_;rintro e u' w'' ⟨rfl,rfl,rfl⟩;have X6:Box (w5.drew.setCell ⟨E,2,none⟩ (.int .u32 1)) E #[.int .i32 l,.int .u32 0,.int .u32 1,.int .i32 1,.int .u32 0,.int .i64 v0,.int .i64 v1,.int .i64 v2,.int .i64 v3,.int .i64 v4,.int .i64 v5,.int .i64 v6,.int .i64 v7,.int .i64 v8,.slice vp0 vl0 vq0,.slice none 0 0,.slice vp2 vl2 vq2,.int .i64 v9,.int .i64 v10,.bool true] 133:=X5.drew.setc 2 _;refine leaves_cons (f:=162) (args:=#[.pointer (some ⟨E,3,none⟩)]) (by simp [settle]) (by simp [go_sem]) ?_;refine (zcY ⟨E,3,none⟩ _ _ (X6.cell 3) (X6.frozen 3)).mono ?_;rintro e u' w'' ⟨rfl,rfl,rfl⟩;have X7:Box ((w5.drew.setCell ⟨E,2,none⟩ (.int .u32 1)).setCell ⟨E,3,none⟩ (.int .i32 0)) E #[.int .i32 l,.int .u32 0,.int .u32 1,.int .i32 0,.int .u32 0,.int .i64 v0,.int .i64 v1,.int .i64 v2,.int .i64 v3,.int .i64 v4,.int .i64 v5,.int .i64 v6,.int .i64 v7,.int .i64 v8,.slice vp0 vl0 vq0,.slice none 0 0,.slice vp2 vl2 vq2,.int .i64 v9,.int .i64 v10,.bool true] 133:=X6.setc 3 _;have C7:ChgL [E] w ((w5.drew.setCell ⟨E,2,none⟩ (.int .u32 1)).setCell ⟨E,3,none⟩ (.int .i32 0)):=(((HC1.out.trans C5).drew.st _ 2 _ (by simp)).st _ 3 _ (by simp))
 simp only [Leaves,settle]
 exact ⟨_,results_none rfl _ _ _,rfl,X7,C7⟩
set_option maxRecDepth 100000 in
theorem zkE (E pe:Nat) (l:Int) (v0 v1 v2 v3 v4 v5 v6 v7 v8 vp0 vl0 vq0 vp1 vl1 vq1 vp2 vl2 vq2 v9 v10 vb:_) (w:World) (hp:w.cell? ⟨pe,0,none⟩=some (.pointer (some ⟨E,0,none⟩))) (hpe:pe<w.heap.size) (hne:pe≠E) (hX:Box w E #[.int .i32 l,.int .u32 0,.int .u32 0,.int .i32 0,.int .u32 0,.int .i64 v0,.int .i64 v1,.int .i64 v2,.int .i64 v3,.int .i64 v4,.int .i64 v5,.int .i64 v6,.int .i64 v7,.int .i64 v8,.slice vp0 vl0 vq0,.slice vp1 vl1 vq1,.slice vp2 vl2 vq2,.int .i64 v9,.int .i64 v10,.bool vb] 133) (h1:∀ x,x∈([.int .i64 v0,.int .i64 v1,.int .i64 v2,.int .i64 v3,.int .i64 v4,.int .i64 v5,.int .i64 v6,.int .i64 v7,.int .i64 v8,.slice vp0 vl0 vq0,.slice none 0 0,.slice vp2 vl2 vq2,.int .i64 v9,.int .i64 v10,.bool true]:List Value)→x.oneCell'=true) :
 Calls Tryz.prog 163 #[.pointer (some ⟨E,2,none⟩),.func (.func 164) #[] #[.pointer (some ⟨pe,0,none⟩)]] w fun e w'=>e=.returned (.tuple #[])∧Box w' E #[.int .i32 l,.int .u32 0,.int .u32 1,.int .i32 0,.int .u32 0,.int .i64 v0,.int .i64 v1,.int .i64 v2,.int .i64 v3,.int .i64 v4,.int .i64 v5,.int .i64 v6,.int .i64 v7,.int .i64 v8,.slice vp0 vl0 vq0,.slice none 0 0,.slice vp2 vl2 vq2,.int .i64 v9,.int .i64 v10,.bool true] 133∧ChgL [E] w w':=by
 have CS:=zkD E pe l v0 v1 v2 v3 v4 v5 v6 v7 v8 vp0 vl0 vq0 vp1 vl1 vq1 vp2 vl2 vq2 v9 v10 vb w hp hpe hne hX h1;have c2:w.cell? ⟨E,2,none⟩=some (.int .u32 0):=hX.cell 2;have hl:=run_call_load (P:=Tryz.prog) Tryz.func196 (by kernel_rfl) (by kernel_rfl) (by kernel_rfl) .u32 (by kernel_rfl) c2;have hnot:∀ (x:Bool) (w:World),(Op.unary .not (.bool x)).run Tryz.prog w=.ok (.bool (!x)) w:=fun _ _=>rfl;clear hX h1 hp
 go_enter Tryz.func163,Tryz.ntmps163
 go_wp2_with (first | (go_at_call 183;refine CS.mono ?_;rintro e w5 ⟨rfl,X5,C5⟩) | (go_at_call 182;go_in))
 go_end0
 exact ⟨rfl,X5,C5⟩
set_option maxRecDepth 100000 in
theorem zgv (E:Nat) (v0 v1 v2 v3 v4 v5 v6 v7 v8 vp0 vl0 vq0 vp1 vl1 vq1 vp2 vl2 vq2 v9 v10 vb:_) (fv:Value) (w:World) (hX:Box w E #[.int .i32 0,.int .u32 0,.int .u32 0,.int .i32 0,.int .u32 0,.int .i64 v0,.int .i64 v1,.int .i64 v2,.int .i64 v3,.int .i64 v4,.int .i64 v5,.int .i64 v6,.int .i64 v7,.int .i64 v8,.slice vp0 vl0 vq0,.slice vp1 vl1 vq1,.slice vp2 vl2 vq2,.int .i64 v9,.int .i64 v10,.bool vb] 133) (h1:∀ x,x∈([.int .i64 v0,.int .i64 v1,.int .i64 v2,.int .i64 v3,.int .i64 v4,.int .i64 v5,.int .i64 v6,.int .i64 v7,.int .i64 v8,.slice vp0 vl0 vq0,.slice none 0 0,.slice vp2 vl2 vq2,.int .i64 v9,.int .i64 v10,.bool true]:List Value)→x.oneCell'=true) (hs:v10≠-1) (hw:v10≤v9) :
 Calls Tryz.prog 123 #[.pointer (some ⟨E,0,none⟩),fv] w fun e w'=>e=.panicked [{ v:=.iface 187 (.agg #[]),recovered:=false }]∧Box w' E #[.int .i32 0,.int .u32 0,.int .u32 1,.int .i32 0,.int .u32 0,.int .i64 v0,.int .i64 v1,.int .i64 v2,.int .i64 v3,.int .i64 v4,.int .i64 v5,.int .i64 v6,.int .i64 v7,.int .i64 v8,.slice vp0 vl0 vq0,.slice none 0 0,.slice vp2 vl2 vq2,.int .i64 v9,.int .i64 v10,.bool true] 133∧ChgL [E] w w':=by
 have d1:(v10 != -1)=true:=by simpa using hs
 have d2:decide (v10≤v9)=true:=by simpa using hw
 have H1:=hid h1;clear hs hw h1;have hE:E<w.heap.size:=hX.lt;have hmf:∀ (fn:Fn) (first cap:Array Value) (w:World),(Instr.makeFunc fn first cap).run Tryz.prog w=.ok (.func fn first cap) w:=fun _ _ _ _=>rfl;have bA:=bAl w (.cells #[.pointer (some ⟨E,0,none⟩)] 117);have P1:=zay w #[.pointer (some ⟨E,0,none⟩)] 117;have X1:=hX.below bA hE
 go_enter_defers Tryz.func123,Tryz.ntmps123
 go_upto_region 1 with fail
 obtain ⟨W1,hW1⟩:∃ x,x=w.alloc (.cells #[.pointer (some ⟨E,0,none⟩)] 117):=⟨_,rfl⟩;rw [← hW1] at bA P1 X1 ⊢
 have zW:W1.heap.size=w.heap.size+1:=by rw [hW1];simp
 clear hW1;have hp1:W1.cell? ⟨w.heap.size,0,none⟩=some (.pointer (some ⟨E,0,none⟩)):=P1.cell 0;have c0:W1.cell? ⟨E,0,none⟩=some (.int .i32 0):=X1.cell 0;have f0:W1.frozen? ⟨E,0,none⟩=false:=X1.frozen 0;have X2:Box (W1.setCell ⟨E,0,none⟩ (.int .i32 1)) E #[.int .i32 1,.int .u32 0,.int .u32 0,.int .i32 0,.int .u32 0,.int .i64 v0,.int .i64 v1,.int .i64 v2,.int .i64 v3,.int .i64 v4,.int .i64 v5,.int .i64 v6,.int .i64 v7,.int .i64 v8,.slice vp0 vl0 vq0,.slice vp1 vl1 vq1,.slice vp2 vl2 vq2,.int .i64 v9,.int .i64 v10,.bool vb] 133:=X1.setc 0 _;have P2:Box (W1.setCell ⟨E,0,none⟩ (.int .i32 1)) w.heap.size #[.pointer (some ⟨E,0,none⟩)] 117:=P1.seto 0 _ (by omega);have C2':ChgL [E] w (W1.setCell ⟨E,0,none⟩ (.int .i32 1)):=(ChgL.of_below bA).st _ 0 _ (by simp)
 go_upto_region 2 with (go_at_call 161;refine (zeP ⟨E,0,none⟩ _ c0 f0).mono ?_;rintro e w' ⟨rfl,rfl⟩)
 obtain ⟨W2,hW2⟩:∃ x,x=W1.setCell ⟨E,0,none⟩ (.int .i32 1):=⟨_,rfl⟩;rw [← hW2] at X2 P2 C2' ⊢
 have z2:W2.heap.size=w.heap.size+1:=by rw [hW2];simpa using zW
 clear hW2 hp1 c0 f0 X1 P1 bA hX;have hp2:W2.cell? ⟨w.heap.size,0,none⟩=some (.pointer (some ⟨E,0,none⟩)):=P2.cell 0;have x17:W2.cell? ⟨E,17,none⟩=some (.int .i64 v9):=X2.cell 17;have x18:W2.cell? ⟨E,18,none⟩=some (.int .i64 v10):=X2.cell 18
 go_upto_region 3 with fail
 go_quiet (fail)
 go_upto_region 4 with fail
 obtain ⟨W3,hW3⟩:∃ x,x=W2.drewN nq:=⟨_,rfl⟩;rw [← hW3]
 have X3:Box W3 E #[.int .i32 1,.int .u32 0,.int .u32 0,.int .i32 0,.int .u32 0,.int .i64 v0,.int .i64 v1,.int .i64 v2,.int .i64 v3,.int .i64 v4,.int .i64 v5,.int .i64 v6,.int .i64 v7,.int .i64 v8,.slice vp0 vl0 vq0,.slice vp1 vl1 vq1,.slice vp2 vl2 vq2,.int .i64 v9,.int .i64 v10,.bool vb] 133:=by rw [hW3];exact X2
 have P3:Box W3 w.heap.size #[.pointer (some ⟨E,0,none⟩)] 117:=by rw [hW3];exact P2
 have C3':ChgL [E] w W3:=by rw [hW3];exact ⟨C2'.os,C2'.tape,C2'.output,C2'.size,C2'.block⟩
 have z3:W3.heap.size=w.heap.size+1:=by rw [hW3];exact z2
 have hp3:W3.cell? ⟨w.heap.size,0,none⟩=some (.pointer (some ⟨E,0,none⟩)):=P3.cell 0;clear hW3 X2 P2 C2' z2 hp2 x17 x18
 go_wp2_with (go_at_call 163;refine (zkE E w.heap.size 1 v0 v1 v2 v3 v4 v5 v6 v7 v8 vp0 vl0 vq0 vp1 vl1 vq1 vp2 vl2 vq2 v9 v10 vb _ hp3 (by omega) (by omega) X3 H1.out).mono ?_;rintro e w5 ⟨rfl,X5,C5⟩)
 refine leaves_cons (f:=162) (args:=#[.pointer (some ⟨E,0,none⟩)]) (by simp) (by simp [go_sem]) ?_;refine (zcY ⟨E,0,none⟩ _ _ (X5.cell 0) (X5.frozen 0)).mono ?_;rintro e u' w'' ⟨rfl,rfl,rfl⟩;have X6:Box (w5.setCell ⟨E,0,none⟩ (.int .i32 0)) E #[.int .i32 0,.int .u32 0,.int .u32 1,.int .i32 0,.int .u32 0,.int .i64 v0,.int .i64 v1,.int .i64 v2,.int .i64 v3,.int .i64 v4,.int .i64 v5,.int .i64 v6,.int .i64 v7,.int .i64 v8,.slice vp0 vl0 vq0,.slice none 0 0,.slice vp2 vl2 vq2,.int .i64 v9,.int .i64 v10,.bool true] 133:=X5.setc 0 _;have C6:ChgL [E] w (w5.setCell ⟨E,0,none⟩ (.int .i32 0)):=(C3'.trans C5).st _ 0 _ (by simp)
 simp only [Leaves,settle]
 exact ⟨trivial,X6,C6⟩
theorem zdV {w:World} {d:WorldD} {c0 c1 c2 c3 c4 c5 c6 c7 c8 c9 c10 c11 c12 c13 c14:Value} {K:List Nat} (n:Int) (hn:-9223372036854775808≤n∧n≤9223372036854775807) (h:zab.own w d [c0,c1,c2,c3,c4,c5,c6,c7,c8,c9,c10,c11,c12,c13,c14] K):zab.own w { d with writes:=n } [c0,c1,c2,c3,c4,c5,c6,c7,c8,c9,c10,c11,.int .i64 n,c13,c14] K:=by
 obtain ⟨a1,b1,a2,b2,a3,b3,K1,K2,K3,e,hM,o1,o2,o3,k0,k4,k5⟩:=zbV h
 simp only [List.cons.injEq,and_true] at e
 obtain ⟨rfl,rfl,rfl,rfl,rfl,rfl,rfl,rfl,rfl,rfl,rfl,rfl,rfl,rfl,rfl⟩:=e;subst hM;exact zd5 { d with writes:=n } o1 o2 o3 k0 hn k5
theorem zee {w:World} {d:WorldD} {c0 c1 c2 c3 c4 c5 c6 c7 c8 c9 c10 c11 c13 c14:Value} {n:Int} {K:List Nat} (h:zab.own w d [c0,c1,c2,c3,c4,c5,c6,c7,c8,c9,c10,c11,.int .i64 n,c13,c14] K):n=d.writes:=by
 obtain ⟨a1,b1,a2,b2,a3,b3,K1,K2,K3,e,_⟩:=zbV h
 simp only [List.cons.injEq,Value.int.injEq,true_and,and_true] at e
 exact e.2.2.2.2.2.2.2.2.2.2.2.2.1
theorem zkF {w:World} {d:WorldD} {c0 c1 c2 c3 c4 c5 c6 c7 c8 c9 c10 c11 c12 c14:Value} {n:Int} {K:List Nat} (h:zab.own w d [c0,c1,c2,c3,c4,c5,c6,c7,c8,c9,c10,c11,c12,.int .i64 n,c14] K):n=d.stop:=by
 obtain ⟨a1,b1,a2,b2,a3,b3,K1,K2,K3,e,_⟩:=zbV h
 simp only [List.cons.injEq,Value.int.injEq,true_and,and_true] at e
 exact e.2.2.2.2.2.2.2.2.2.2.2.2.2.1
theorem EncO.chg {w w':World} {E:Nat} {d:WorldD} {cs:List Value} {K:List Nat} (h:EncO w E d cs K) (hc:ChgL [E] w w'):EncO w' E d cs K:=⟨Lay.own_chgL _ h.own hc (fun b hb hbE=>by simp only [List.mem_singleton] at hbE;subst hbE;exact h.ne hb),h.nd,h.ne⟩
end Go.Proofs.YtlpbohnadenacaaGreat
