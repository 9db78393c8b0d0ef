/- Walk of the specification's RecFault. -/
import Derived.Deep.Cut
import Derived.Laws.Tables
import Derived.Laws.Rows
import Derived.OrdersHeld
import Derived.Deep.RegionHeld
import Derived.Test.YtonemlgejkapbaaGreatZPappenae
set_option linter.unusedVariables false
set_option linter.unusedSimpArgs false
set_option maxHeartbeats 16000000
namespace Go.Proofs.YtonemlgejkapbaaGreat
open Go.RowKit F256
def zeO (s:Nat→Int) (r:RecD) (w:World) (e:Ending) (w':World):Prop:=∃ x,e=.returned (.int .i64 x)∧RecAns s r x∧Below w.heap.size w w'
theorem recP {s:Nat→Int} {r:RecD} {w:World} {e:Ending} {w':World} {x:Int} (he:e=.returned (.int .i64 x)) (h:RecAns s r x) (hb:Below w.heap.size w w'):zeO s r w e w':=⟨x,he,h,hb⟩
theorem exBT {P:Prop} (h:P):true=true↔P:=⟨fun _=>h,fun _=>rfl⟩
theorem exBF {P:Prop} (h:¬ P):false=true↔P:=⟨fun h=>(by cases h),fun hh=>absurd hh h⟩
set_option maxRecDepth 20000 in
theorem zdQ (s:Nat→Int) (r:RecD) (cs:List Value) (hi:Nat) (w:World) (h:zac.rd w hi r cs) (hhi:hi≤w.heap.size) (hnm:r.name.size≤1048576) :
 Calls Tryz.prog 58 #[zak s,.agg cs.toArray] w (zeO s r w):=by
 obtain ⟨kind,seq,name,length,group,row,rows,data,delta⟩:=r;obtain ⟨ao6,cap6,ao7,cap7,ao8,cap8,rfl,g6,g7,g8,k0,k1,k2,k3,k4,k5⟩:=zbd h;have HRD:=hid h;obtain ⟨v6,e6,⟨h6,hcp6⟩,_⟩:=g6
 cases e6
 have H6:=hid h6;have hm6:rows.1≤maxLen:=h6.mx;obtain ⟨v7,e7,⟨_,_,e7',hm7,_⟩,_⟩:=g7
 cases e7
 cases e7'
 obtain ⟨v8,e8,⟨_,_,e8',hm8,_⟩,_⟩:=g8
 cases e8
 cases e8'
 unfold maxLen at hm6 hm7 hm8
 simp only at k0 k1 k2 k3 k4 k5 hm6 hm7 hm8 hnm
 clear h h6 hcp6;have T0:=zay w (rwS s).toArray #[.int .i64 kind,.int .i64 seq,.string name,.int .i64 length,.int .i64 group,.int .i64 row,.slice ao6 rows.1 cap6,.slice ao7 data.1 cap7,.slice ao8 delta.1 cap8] 34 56;have CSh:=fun w'=>zbm s w';unfold zak at CSh ⊢
 go_enter Tryz.func58,Tryz.ntmps58
 go_wp2_with fail
 refine (CSh _).mono ?_;rintro e w1 ⟨x,rfl,hx,b1⟩;have T1:Two w w1 (rwS s).toArray #[.int .i64 kind,.int .i64 seq,.string name,.int .i64 length,.int .i64 group,.int .i64 row,.slice ao6 rows.1 cap6,.slice ao7 data.1 cap7,.slice ao8 delta.1 cap8] 34 56:=T0.call b1;have HT1:=hid T1;have z1:w.heap.size+1<w1.heap.size:=T1.b2.lt;clear b1 T0 CSh;have x1_0:w1.cell? ⟨w.heap.size,0,none⟩=some (.int .i64 (s 0)):=T1.b1.cell 0;have x1_1:w1.cell? ⟨w.heap.size,1,none⟩=some (.int .i64 (s 1)):=T1.b1.cell 1;have x1_2:w1.cell? ⟨w.heap.size,2,none⟩=some (.int .i64 (s 2)):=T1.b1.cell 2;have x1_3:w1.cell? ⟨w.heap.size,3,none⟩=some (.int .i64 (s 3)):=T1.b1.cell 3;have x1_4:w1.cell? ⟨w.heap.size,4,none⟩=some (.int .i64 (s 4)):=T1.b1.cell 4;have x1_5:w1.cell? ⟨w.heap.size,5,none⟩=some (.int .i64 (s 5)):=T1.b1.cell 5;have x1_6:w1.cell? ⟨w.heap.size,6,none⟩=some (.int .i64 (s 6)):=T1.b1.cell 6;have x1_7:w1.cell? ⟨w.heap.size,7,none⟩=some (.int .i64 (s 7)):=T1.b1.cell 7;have x1_8:w1.cell? ⟨w.heap.size,8,none⟩=some (.int .i64 (s 8)):=T1.b1.cell 8;have y1_0:w1.cell? ⟨w.heap.size+1,0,none⟩=some (.int .i64 kind):=T1.b2.cell 0;have y1_1:w1.cell? ⟨w.heap.size+1,1,none⟩=some (.int .i64 seq):=T1.b2.cell 1;have y1_2:w1.cell? ⟨w.heap.size+1,2,none⟩=some (.string name):=T1.b2.cell 2;have y1_3:w1.cell? ⟨w.heap.size+1,3,none⟩=some (.int .i64 length):=T1.b2.cell 3;have y1_4:w1.cell? ⟨w.heap.size+1,4,none⟩=some (.int .i64 group):=T1.b2.cell 4;have y1_5:w1.cell? ⟨w.heap.size+1,5,none⟩=some (.int .i64 row):=T1.b2.cell 5;have y1_6:w1.cell? ⟨w.heap.size+1,6,none⟩=some (.slice ao6 rows.1 cap6):=T1.b2.cell 6;have y1_7:w1.cell? ⟨w.heap.size+1,7,none⟩=some (.slice ao7 data.1 cap7):=T1.b2.cell 7;have y1_8:w1.cell? ⟨w.heap.size+1,8,none⟩=some (.slice ao8 delta.1 cap8):=T1.b2.cell 8;clear T1
 rcases hx with ⟨rfl,hno⟩ | ⟨rfl,hok⟩
 ·go_wp2
  go_ret;exact recP rfl (Stair.fall hno) HT1.out.bel
 have HOK:=hid hok
 have hsb:1≤s 0∧s 0≤4∧0≤s 1∧s 1≤2∧1≤s 2∧s 2≤3∧1≤s 4∧s 4≤6:=by
  obtain ⟨h1,h2,h3,_⟩:=hok;unfold Shp3 at h1;unfold Shp at h2;omega
 clear hok
 by_cases hk:InP kind 1 4
 ·go_wp2_with fail
  refine (zb6 (t:=true) (exBT hk) _).mono ?_;rintro e w' ⟨rfl,hw'⟩;obtain rfl:=hw'.symm
  by_cases hq:InP seq 1 1000000000
  ·go_wp2_with fail
   refine (zb6 (t:=true) (exBT hq) _).mono ?_;rintro e w' ⟨rfl,hw'⟩;obtain rfl:=hw'.symm;have HK:=hid hk;have HQ:=hid hq
   go_upto_region 9 with fail
   have bA:=bAl w1 (.cells #[.int .i64 kind,.int .i64 seq,.string name,.int .i64 length,.int .i64 group,.int .i64 row,.slice ao6 rows.1 cap6,.slice ao7 data.1 cap7,.slice ao8 delta.1 cap8] 56);have T2:Two w (w1.alloc (.cells #[.int .i64 kind,.int .i64 seq,.string name,.int .i64 length,.int .i64 group,.int .i64 row,.slice ao6 rows.1 cap6,.slice ao7 data.1 cap7,.slice ao8 delta.1 cap8] 56)) (rwS s).toArray #[.int .i64 kind,.int .i64 seq,.string name,.int .i64 length,.int .i64 group,.int .i64 row,.slice ao6 rows.1 cap6,.slice ao7 data.1 cap7,.slice ao8 delta.1 cap8] 34 56:=HT1.out.call bA;have X2:=zaz w1 #[.int .i64 kind,.int .i64 seq,.string name,.int .i64 length,.int .i64 group,.int .i64 row,.slice ao6 rows.1 cap6,.slice ao7 data.1 cap7,.slice ao8 delta.1 cap8] 56;obtain ⟨W2,hW2⟩:∃ W2,W2=w1.alloc (.cells #[.int .i64 kind,.int .i64 seq,.string name,.int .i64 length,.int .i64 group,.int .i64 row,.slice ao6 rows.1 cap6,.slice ao7 data.1 cap7,.slice ao8 delta.1 cap8] 56):=⟨_,rfl⟩;rw [← hW2] at T2 X2 ⊢;have HT2:=hid T2;have HX2:=hid X2;clear bA hW2 x1_0 y1_0 x1_1 y1_1 x1_2 y1_2 x1_3 y1_3 x1_4 y1_4 x1_5 y1_5 x1_6 y1_6 x1_7 y1_7 x1_8 y1_8;have x2_0:W2.cell? ⟨w.heap.size,0,none⟩=some (.int .i64 (s 0)):=T2.b1.cell 0;have kx2_0:=cell_regrown x2_0;have x2_1:W2.cell? ⟨w.heap.size,1,none⟩=some (.int .i64 (s 1)):=T2.b1.cell 1;have kx2_1:=cell_regrown x2_1;have x2_2:W2.cell? ⟨w.heap.size,2,none⟩=some (.int .i64 (s 2)):=T2.b1.cell 2;have kx2_2:=cell_regrown x2_2;have x2_3:W2.cell? ⟨w.heap.size,3,none⟩=some (.int .i64 (s 3)):=T2.b1.cell 3;have kx2_3:=cell_regrown x2_3;have x2_4:W2.cell? ⟨w.heap.size,4,none⟩=some (.int .i64 (s 4)):=T2.b1.cell 4;have kx2_4:=cell_regrown x2_4;have x2_5:W2.cell? ⟨w.heap.size,5,none⟩=some (.int .i64 (s 5)):=T2.b1.cell 5;have kx2_5:=cell_regrown x2_5;have x2_6:W2.cell? ⟨w.heap.size,6,none⟩=some (.int .i64 (s 6)):=T2.b1.cell 6;have kx2_6:=cell_regrown x2_6;have x2_7:W2.cell? ⟨w.heap.size,7,none⟩=some (.int .i64 (s 7)):=T2.b1.cell 7
   have kx2_7:=cell_regrown x2_7;have x2_8:W2.cell? ⟨w.heap.size,8,none⟩=some (.int .i64 (s 8)):=T2.b1.cell 8;have kx2_8:=cell_regrown x2_8;have y2_0:W2.cell? ⟨w.heap.size+1,0,none⟩=some (.int .i64 kind):=T2.b2.cell 0;have ky2_0:=cell_regrown y2_0;have y2_1:W2.cell? ⟨w.heap.size+1,1,none⟩=some (.int .i64 seq):=T2.b2.cell 1;have ky2_1:=cell_regrown y2_1;have y2_2:W2.cell? ⟨w.heap.size+1,2,none⟩=some (.string name):=T2.b2.cell 2;have ky2_2:=cell_regrown y2_2;have y2_3:W2.cell? ⟨w.heap.size+1,3,none⟩=some (.int .i64 length):=T2.b2.cell 3;have ky2_3:=cell_regrown y2_3;have y2_4:W2.cell? ⟨w.heap.size+1,4,none⟩=some (.int .i64 group):=T2.b2.cell 4;have ky2_4:=cell_regrown y2_4;have y2_5:W2.cell? ⟨w.heap.size+1,5,none⟩=some (.int .i64 row):=T2.b2.cell 5;have ky2_5:=cell_regrown y2_5;have y2_6:W2.cell? ⟨w.heap.size+1,6,none⟩=some (.slice ao6 rows.1 cap6):=T2.b2.cell 6;have ky2_6:=cell_regrown y2_6;have y2_7:W2.cell? ⟨w.heap.size+1,7,none⟩=some (.slice ao7 data.1 cap7):=T2.b2.cell 7;have ky2_7:=cell_regrown y2_7;have y2_8:W2.cell? ⟨w.heap.size+1,8,none⟩=some (.slice ao8 delta.1 cap8):=T2.b2.cell 8;have ky2_8:=cell_regrown y2_8;have z2_0:W2.cell? ⟨w1.heap.size,0,none⟩=some (.int .i64 kind):=X2.cell 0;have f2_0:W2.frozen? ⟨w1.heap.size,0,none⟩=false:=X2.frozen 0;have z2_1:W2.cell? ⟨w1.heap.size,1,none⟩=some (.int .i64 seq):=X2.cell 1;have f2_1:W2.frozen? ⟨w1.heap.size,1,none⟩=false:=X2.frozen 1;have z2_2:W2.cell? ⟨w1.heap.size,2,none⟩=some (.string name):=X2.cell 2;have f2_2:W2.frozen? ⟨w1.heap.size,2,none⟩=false:=X2.frozen 2;have z2_3:W2.cell? ⟨w1.heap.size,3,none⟩=some (.int .i64 length):=X2.cell 3;have f2_3:W2.frozen? ⟨w1.heap.size,3,none⟩=false:=X2.frozen 3;have z2_4:W2.cell? ⟨w1.heap.size,4,none⟩=some (.int .i64 group):=X2.cell 4;have f2_4:W2.frozen? ⟨w1.heap.size,4,none⟩=false:=X2.frozen 4;have z2_5:W2.cell? ⟨w1.heap.size,5,none⟩=some (.int .i64 row):=X2.cell 5;have f2_5:W2.frozen? ⟨w1.heap.size,5,none⟩=false:=X2.frozen 5;have z2_6:W2.cell? ⟨w1.heap.size,6,none⟩=some (.slice ao6 rows.1 cap6):=X2.cell 6;have f2_6:W2.frozen? ⟨w1.heap.size,6,none⟩=false:=X2.frozen 6;have z2_7:W2.cell? ⟨w1.heap.size,7,none⟩=some (.slice ao7 data.1 cap7):=X2.cell 7;have f2_7:W2.frozen? ⟨w1.heap.size,7,none⟩=false:=X2.frozen 7;have z2_8:W2.cell? ⟨w1.heap.size,8,none⟩=some (.slice ao8 delta.1 cap8):=X2.cell 8;have f2_8:W2.frozen? ⟨w1.heap.size,8,none⟩=false:=X2.frozen 8;clear T2 X2
   have hk4:kind=1∨kind=2∨kind=3∨kind=4:=by unfold InP at hk;omega
   have ws0:IntKind.i64.wrap (s 0-1)=s 0-1:=by rw [IntKind.wrap_i64];omega
   have ws4:IntKind.i64.wrap (s 4-1)=s 4-1:=by rw [IntKind.wrap_i64];omega
   have wsA:IntKind.i64.wrap (s 0+s 1-1)=s 0+s 1-1:=by rw [IntKind.wrap_i64];omega
   clear hk hq
   rcases hk4 with rfl | rfl | rfl | rfl
   ·go_wp2_with fail
    refine (zfC name hnm _).mono ?_;rintro e w' ⟨x,rfl,hx,hw'⟩;obtain rfl:=hw'.symm
    rcases hx with ⟨rfl,hno⟩ | ⟨rfl,hyes⟩
    ·go_wp2
     go_ret;exact recP rfl (Stair.pass HOK.out (Stair.pass HK.out (Stair.pass HQ.out (Stair.fall (fun h=>hno (h rfl)))))) HT2.out.bel
    ·have HN:Hid (zc8 ⟨1,seq,name,length,group,row,rows,data,delta⟩):=fun _=>hyes
     clear hyes;obtain ⟨t3,h3⟩:=exB (zby s ⟨1,seq,name,length,group,row,rows,data,delta⟩);have CI:=zbF (zhw s HOK.out ⟨1,seq,name,length,group,row,rows,data,delta⟩ _ hi W2 (zac.rd_below HRD.out HT2.out.bel hhi) (Nat.le_trans hhi HT2.out.bel.size)) h3;unfold zak at CI
     go_wp2_with fail
     refine CI.mono ?_;rintro e w3 ⟨rfl,b3⟩;have X3:Box w3 w1.heap.size #[.int .i64 1,.int .i64 seq,.string name,.int .i64 length,.int .i64 group,.int .i64 row,.slice ao6 rows.1 cap6,.slice ao7 data.1 cap7,.slice ao8 delta.1 cap8] 56:=HX2.out.call b3;have HB3:Hid (Below w.heap.size w w3):=(HT2.out.call b3).bel;have z3_0:w3.cell? ⟨w1.heap.size,0,none⟩=some (.int .i64 1):=X3.cell 0;have f3_0:w3.frozen? ⟨w1.heap.size,0,none⟩=false:=X3.frozen 0;have z3_1:w3.cell? ⟨w1.heap.size,1,none⟩=some (.int .i64 seq):=X3.cell 1;have f3_1:w3.frozen? ⟨w1.heap.size,1,none⟩=false:=X3.frozen 1;have z3_2:w3.cell? ⟨w1.heap.size,2,none⟩=some (.string name):=X3.cell 2;have f3_2:w3.frozen? ⟨w1.heap.size,2,none⟩=false:=X3.frozen 2;have z3_3:w3.cell? ⟨w1.heap.size,3,none⟩=some (.int .i64 length):=X3.cell 3;have f3_3:w3.frozen? ⟨w1.heap.size,3,none⟩=false:=X3.frozen 3;have z3_4:w3.cell? ⟨w1.heap.size,4,none⟩=some (.int .i64 group):=X3.cell 4;have f3_4:w3.frozen? ⟨w1.heap.size,4,none⟩=false:=X3.frozen 4;have z3_5:w3.cell? ⟨w1.heap.size,5,none⟩=some (.int .i64 row):=X3.cell 5;have f3_5:w3.frozen? ⟨w1.heap.size,5,none⟩=false:=X3.frozen 5;have z3_6:w3.cell? ⟨w1.heap.size,6,none⟩=some (.slice ao6 rows.1 cap6):=X3.cell 6;have f3_6:w3.frozen? ⟨w1.heap.size,6,none⟩=false:=X3.frozen 6;have z3_7:w3.cell? ⟨w1.heap.size,7,none⟩=some (.slice ao7 data.1 cap7):=X3.cell 7;have f3_7:w3.frozen? ⟨w1.heap.size,7,none⟩=false:=X3.frozen 7;have z3_8:w3.cell? ⟨w1.heap.size,8,none⟩=some (.slice ao8 delta.1 cap8):=X3.cell 8;have f3_8:w3.frozen? ⟨w1.heap.size,8,none⟩=false:=X3.frozen 8;clear X3 b3;clear x2_0 kx2_0 y2_0 ky2_0 z2_0 f2_0 x2_1 kx2_1 y2_1 ky2_1 z2_1 f2_1 x2_2 kx2_2 y2_2 ky2_2 z2_2 f2_2 x2_3 kx2_3 y2_3 ky2_3 z2_3 f2_3 x2_4 kx2_4 y2_4 ky2_4 z2_4 f2_4 x2_5 kx2_5 y2_5 ky2_5 z2_5 f2_5 x2_6 kx2_6 y2_6 ky2_6 z2_6 f2_6 x2_7 kx2_7 y2_7 ky2_7 z2_7 f2_7 x2_8 kx2_8 y2_8 ky2_8 z2_8 f2_8 CI;have H3:=hid h3;clear h3
     cases t3 with
     | false=>
      go_wp2;go_ret
      exact recP rfl (Stair.pass HOK.out (Stair.pass HK.out (Stair.pass HQ.out (Stair.pass HN.out (Stair.fall (fun h=>by
       have:zby s ⟨1,seq,name,length,group,row,rows,data,delta⟩:=by
        unfold zbj at h
        simpa using h
       have:=H3.out.2 this
       simp at this)))))) HB3.out
     | true=>
      have HKP:Hid (zbj s ⟨1,seq,name,length,group,row,rows,data,delta⟩):=.inl ⟨rfl,H3.out.1 (by simp)⟩
      go_wp2_with fail
      refine (zch _ _ _ _ _ _ _ _ _ _ _ _ _ _ _ _).mono ?_;rintro e w9 ⟨t9,rfl,ht9,b9⟩
      have HB9:Hid (Below w.heap.size w w9):=by
       show Below w.heap.size w w9
       refine Below.trans ?_ (b9.mono ?_)
       ·repeat (refine zc4 ?_ (by omega))
        exact HB3.out
       ·simp
        exact HB3.out.size
      clear b9
      have HT9:Hid (t9=true↔zbe ⟨1,seq,name,length,group,row,rows,data,delta⟩):=by
       show t9=true↔zbe ⟨1,seq,name,length,group,row,rows,data,delta⟩
       rw [ht9];unfold zb7 zbe zcD
       simp [and_assoc]
       try (intros;rfl)
      clear ht9
      cases t9 with
      | false=>
       go_wp2;go_ret;exact recP rfl (Stair.pass HOK.out (Stair.pass HK.out (Stair.pass HQ.out (Stair.pass HN.out (Stair.pass HKP.out (Stair.fall (fun h=>by have:=HT9.out.2 h;simp at this))))))) HB9.out
      | true=>
       go_wp2;go_ret;exact recP rfl (Stair.pass HOK.out (Stair.pass HK.out (Stair.pass HQ.out (Stair.pass HN.out (Stair.pass HKP.out (Stair.pass (HT9.out.1 (by simp)) (Stair.last rfl))))))) HB9.out
   ·have HN:Hid (zc8 ⟨2,seq,name,length,group,row,rows,data,delta⟩):=fun h=>by simp at h
    obtain ⟨t1,h1⟩:=exB (InP group 0 (s 0-1));obtain ⟨t2,h2⟩:=exB (InP row 0 (s 4-1));obtain ⟨b3',h3⟩:∃ b,((data.1:Int) != s 2*4)=b:=⟨_,rfl⟩;obtain ⟨b4',h4⟩:∃ b,((delta.1:Int) != s 2*4)=b:=⟨_,rfl⟩;have cG:=zev (W:=W2) (fun w'=>zb6 h1 w');have cR:=zev (W:=W2) (fun w'=>zb6 h2 w');have cW:=zaE (W:=W2) (fun w' _=>zcN s (by omega) (by omega) w');unfold zak at cW
    have HE:Hid (zbj s ⟨2,seq,name,length,group,row,rows,data,delta⟩↔(t1=true∧t2=true∧b3'=false∧b4'=false)):=by
     show zbj s ⟨2,seq,name,length,group,row,rows,data,delta⟩↔_
     rw [h1,h2,← h3,← h4];unfold zbj ziP
     simp
    have hst:(t1=false)∨(t1=true∧t2=false)∨(t1=true∧t2=true∧b3'=true)∨(t1=true∧t2=true∧b3'=false∧b4'=true)∨(t1=true∧t2=true∧b3'=false∧b4'=false):=by
     clear HE h1 h2 h3 h4 cG cR
     cases t1<;>simp
     cases t2<;>simp
     cases b3'<;>simp
    clear h1 h2;go_wp2
    rcases hst with rfl | ⟨rfl,rfl⟩ | ⟨rfl,rfl,rfl⟩ | ⟨rfl,rfl,rfl,rfl⟩ | ⟨rfl,rfl,rfl,rfl⟩
    all_goals
     refine WQ.region (by kernel_rfl) (by kernel_rfl) ?_
     repeat (first | (apply WQ.skip;(case hw=>rfl);intro K hK;go_simp;apply hK;clear hK K) | (apply WQ.want;(case hw=>rfl);intro K hK;go_simp;first | (apply hK;clear hK K) | (apply Exists.intro;apply And.intro;(case left=>intro p;(first | (go_at_call_of 30 (Value.int .i64 group);exact cG _ _) | (go_at_call_of 30 (Value.int .i64 row);exact cR _ _) | (go_at_call 92;exact cW _ _)));apply hK;clear hK K)))
     refine WQ.nil ?_;intro w3 hw3;have b3:=zaO hw3;have X3:Box w3 w1.heap.size #[.int .i64 2,.int .i64 seq,.string name,.int .i64 length,.int .i64 group,.int .i64 row,.slice ao6 rows.1 cap6,.slice ao7 data.1 cap7,.slice ao8 delta.1 cap8] 56:=HX2.out.call b3;have HB3:Hid (Below w.heap.size w w3):=(HT2.out.call b3).bel;have z3_0:w3.cell? ⟨w1.heap.size,0,none⟩=some (.int .i64 2):=X3.cell 0;have f3_0:w3.frozen? ⟨w1.heap.size,0,none⟩=false:=X3.frozen 0;have z3_1:w3.cell? ⟨w1.heap.size,1,none⟩=some (.int .i64 seq):=X3.cell 1;have f3_1:w3.frozen? ⟨w1.heap.size,1,none⟩=false:=X3.frozen 1;have z3_2:w3.cell? ⟨w1.heap.size,2,none⟩=some (.string name):=X3.cell 2;have f3_2:w3.frozen? ⟨w1.heap.size,2,none⟩=false:=X3.frozen 2;have z3_3:w3.cell? ⟨w1.heap.size,3,none⟩=some (.int .i64 length):=X3.cell 3;have f3_3:w3.frozen? ⟨w1.heap.size,3,none⟩=false:=X3.frozen 3;have z3_4:w3.cell? ⟨w1.heap.size,4,none⟩=some (.int .i64 group):=X3.cell 4;have f3_4:w3.frozen? ⟨w1.heap.size,4,none⟩=false:=X3.frozen 4;have z3_5:w3.cell? ⟨w1.heap.size,5,none⟩=some (.int .i64 row):=X3.cell 5;have f3_5:w3.frozen? ⟨w1.heap.size,5,none⟩=false:=X3.frozen 5;have z3_6:w3.cell? ⟨w1.heap.size,6,none⟩=some (.slice ao6 rows.1 cap6):=X3.cell 6;have f3_6:w3.frozen? ⟨w1.heap.size,6,none⟩=false:=X3.frozen 6;have z3_7:w3.cell? ⟨w1.heap.size,7,none⟩=some (.slice ao7 data.1 cap7):=X3.cell 7;have f3_7:w3.frozen? ⟨w1.heap.size,7,none⟩=false:=X3.frozen 7;have z3_8:w3.cell? ⟨w1.heap.size,8,none⟩=some (.slice ao8 delta.1 cap8):=X3.cell 8;have f3_8:w3.frozen? ⟨w1.heap.size,8,none⟩=false:=X3.frozen 8;clear X3 b3;clear hw3 x2_0 kx2_0 y2_0 ky2_0 z2_0 f2_0 x2_1 kx2_1 y2_1 ky2_1 z2_1 f2_1 x2_2 kx2_2 y2_2 ky2_2 z2_2 f2_2 x2_3 kx2_3 y2_3 ky2_3 z2_3 f2_3 x2_4 kx2_4 y2_4 ky2_4 z2_4 f2_4 x2_5 kx2_5 y2_5 ky2_5 z2_5 f2_5 x2_6 kx2_6 y2_6 ky2_6 z2_6 f2_6 x2_7 kx2_7 y2_7 ky2_7 z2_7 f2_7 x2_8 kx2_8 y2_8 ky2_8 z2_8 f2_8
    ·go_wp2
     go_ret;exact recP rfl (Stair.pass HOK.out (Stair.pass HK.out (Stair.pass HQ.out (Stair.pass HN.out (Stair.fall (fun h=>by have:=HE.out.1 h;simp at this)))))) HB3.out
    ·go_wp2
     go_ret;exact recP rfl (Stair.pass HOK.out (Stair.pass HK.out (Stair.pass HQ.out (Stair.pass HN.out (Stair.fall (fun h=>by have:=HE.out.1 h;simp at this)))))) HB3.out
    ·go_wp2
     go_ret;exact recP rfl (Stair.pass HOK.out (Stair.pass HK.out (Stair.pass HQ.out (Stair.pass HN.out (Stair.fall (fun h=>by have:=HE.out.1 h;simp at this)))))) HB3.out
    ·go_wp2
     go_ret;exact recP rfl (Stair.pass HOK.out (Stair.pass HK.out (Stair.pass HQ.out (Stair.pass HN.out (Stair.fall (fun h=>by have:=HE.out.1 h;simp at this)))))) HB3.out
    ·have HKP:Hid (zbj s ⟨2,seq,name,length,group,row,rows,data,delta⟩):=HE.out.2 (by simp)
     go_wp2_with fail
     refine (zch _ _ _ _ _ _ _ _ _ _ _ _ _ _ _ _).mono ?_;rintro e w9 ⟨t9,rfl,ht9,b9⟩
     have HB9:Hid (Below w.heap.size w w9):=by
      show Below w.heap.size w w9
      refine Below.trans ?_ (b9.mono ?_)
      ·repeat (refine zc4 ?_ (by omega))
       exact HB3.out
      ·simp
       exact HB3.out.size
     clear b9
     have HT9:Hid (t9=true↔zbe ⟨2,seq,name,length,group,row,rows,data,delta⟩):=by
      show t9=true↔zbe ⟨2,seq,name,length,group,row,rows,data,delta⟩
      rw [ht9];unfold zb7 zbe zcD
      simp [and_assoc]
      try (intros;rfl)
     clear ht9
     cases t9 with
     | false=>
      go_wp2;go_ret;exact recP rfl (Stair.pass HOK.out (Stair.pass HK.out (Stair.pass HQ.out (Stair.pass HN.out (Stair.pass HKP.out (Stair.fall (fun h=>by have:=HT9.out.2 h;simp at this))))))) HB9.out
     | true=>
      go_wp2;go_ret;exact recP rfl (Stair.pass HOK.out (Stair.pass HK.out (Stair.pass HQ.out (Stair.pass HN.out (Stair.pass HKP.out (Stair.pass (HT9.out.1 (by simp)) (Stair.last rfl))))))) HB9.out
   ·have HN:Hid (zc8 ⟨3,seq,name,length,group,row,rows,data,delta⟩):=fun h=>by simp at h
    obtain ⟨t1,h1⟩:=exB (InP group 0 (s 0+s 1-1));have cG:=zev (W:=W2) (fun w'=>zb6 h1 w');have cA:=zaE (W:=W2) (fun w' _=>zbS s HOK.out w');unfold zak at cA
    have HE:Hid (zbj s ⟨3,seq,name,length,group,row,rows,data,delta⟩↔(t1=true)):=by
     show zbj s ⟨3,seq,name,length,group,row,rows,data,delta⟩↔_
     rw [h1];unfold zbj ziQ
     simp
    have hst:(t1=false)∨(t1=true):=by
     clear HE h1 cG
     cases t1<;>simp
    clear h1;go_wp2
    rcases hst with rfl | rfl
    all_goals
     refine WQ.region (by kernel_rfl) (by kernel_rfl) ?_
     repeat (first | (apply WQ.skip;(case hw=>rfl);intro K hK;go_simp;apply hK;clear hK K) | (apply WQ.want;(case hw=>rfl);intro K hK;go_simp;first | (apply hK;clear hK K) | (apply Exists.intro;apply And.intro;(case left=>intro p;(first | (go_at_call 30;exact cG _ _) | (go_at_call 67;exact cA _ _)));apply hK;clear hK K)))
     refine WQ.nil ?_;intro w3 hw3;have b3:=zaO hw3;have X3:Box w3 w1.heap.size #[.int .i64 3,.int .i64 seq,.string name,.int .i64 length,.int .i64 group,.int .i64 row,.slice ao6 rows.1 cap6,.slice ao7 data.1 cap7,.slice ao8 delta.1 cap8] 56:=HX2.out.call b3;have HB3:Hid (Below w.heap.size w w3):=(HT2.out.call b3).bel;have z3_0:w3.cell? ⟨w1.heap.size,0,none⟩=some (.int .i64 3):=X3.cell 0;have f3_0:w3.frozen? ⟨w1.heap.size,0,none⟩=false:=X3.frozen 0;have z3_1:w3.cell? ⟨w1.heap.size,1,none⟩=some (.int .i64 seq):=X3.cell 1;have f3_1:w3.frozen? ⟨w1.heap.size,1,none⟩=false:=X3.frozen 1;have z3_2:w3.cell? ⟨w1.heap.size,2,none⟩=some (.string name):=X3.cell 2;have f3_2:w3.frozen? ⟨w1.heap.size,2,none⟩=false:=X3.frozen 2;have z3_3:w3.cell? ⟨w1.heap.size,3,none⟩=some (.int .i64 length):=X3.cell 3;have f3_3:w3.frozen? ⟨w1.heap.size,3,none⟩=false:=X3.frozen 3;have z3_4:w3.cell? ⟨w1.heap.size,4,none⟩=some (.int .i64 group):=X3.cell 4;have f3_4:w3.frozen? ⟨w1.heap.size,4,none⟩=false:=X3.frozen 4;have z3_5:w3.cell? ⟨w1.heap.size,5,none⟩=some (.int .i64 row):=X3.cell 5;have f3_5:w3.frozen? ⟨w1.heap.size,5,none⟩=false:=X3.frozen 5;have z3_6:w3.cell? ⟨w1.heap.size,6,none⟩=some (.slice ao6 rows.1 cap6):=X3.cell 6;have f3_6:w3.frozen? ⟨w1.heap.size,6,none⟩=false:=X3.frozen 6;have z3_7:w3.cell? ⟨w1.heap.size,7,none⟩=some (.slice ao7 data.1 cap7):=X3.cell 7;have f3_7:w3.frozen? ⟨w1.heap.size,7,none⟩=false:=X3.frozen 7;have z3_8:w3.cell? ⟨w1.heap.size,8,none⟩=some (.slice ao8 delta.1 cap8):=X3.cell 8;have f3_8:w3.frozen? ⟨w1.heap.size,8,none⟩=false:=X3.frozen 8;clear X3 b3;clear hw3 x2_0 kx2_0 y2_0 ky2_0 z2_0 f2_0 x2_1 kx2_1 y2_1 ky2_1 z2_1 f2_1 x2_2 kx2_2 y2_2 ky2_2 z2_2 f2_2 x2_3 kx2_3 y2_3 ky2_3 z2_3 f2_3 x2_4 kx2_4 y2_4 ky2_4 z2_4 f2_4 x2_5 kx2_5 y2_5 ky2_5 z2_5 f2_5 x2_6 kx2_6 y2_6 ky2_6 z2_6 f2_6 x2_7 kx2_7 y2_7 ky2_7 z2_7 f2_7 x2_8 kx2_8 y2_8 ky2_8 z2_8 f2_8
    ·go_wp2
     go_ret;exact recP rfl (Stair.pass HOK.out (Stair.pass HK.out (Stair.pass HQ.out (Stair.pass HN.out (Stair.fall (fun h=>by have:=HE.out.1 h;simp at this)))))) HB3.out
    ·have HKP:Hid (zbj s ⟨3,seq,name,length,group,row,rows,data,delta⟩):=HE.out.2 (by simp)
     go_wp2_with fail
     refine (zch _ _ _ _ _ _ _ _ _ _ _ _ _ _ _ _).mono ?_;rintro e w9 ⟨t9,rfl,ht9,b9⟩
     have HB9:Hid (Below w.heap.size w w9):=by
      show Below w.heap.size w w9
      refine Below.trans ?_ (b9.mono ?_)
      ·repeat (refine zc4 ?_ (by omega))
       exact HB3.out
      ·simp
       exact HB3.out.size
     clear b9
     have HT9:Hid (t9=true↔zbe ⟨3,seq,name,length,group,row,rows,data,delta⟩):=by
      show t9=true↔zbe ⟨3,seq,name,length,group,row,rows,data,delta⟩
      rw [ht9];unfold zb7 zbe zcD
      simp [and_assoc]
      try (intros;rfl)
     clear ht9
     cases t9 with
     | false=>
      go_wp2;go_ret;exact recP rfl (Stair.pass HOK.out (Stair.pass HK.out (Stair.pass HQ.out (Stair.pass HN.out (Stair.pass HKP.out (Stair.fall (fun h=>by have:=HT9.out.2 h;simp at this))))))) HB9.out
     | true=>
      go_wp2;go_ret;exact recP rfl (Stair.pass HOK.out (Stair.pass HK.out (Stair.pass HQ.out (Stair.pass HN.out (Stair.pass HKP.out (Stair.pass (HT9.out.1 (by simp)) (Stair.last rfl))))))) HB9.out
   ·have HN:Hid (zc8 ⟨4,seq,name,length,group,row,rows,data,delta⟩):=fun h=>by simp at h
    obtain ⟨t1,h1⟩:=exB (InP group 0 (s 0+s 1-1));obtain ⟨t2,h2⟩:=exB (InP row 0 (s 4-1));obtain ⟨t3,h3⟩:=exB (zcC rows.1 rows.2 (s 0+s 1-1));obtain ⟨b4',h4⟩:∃ b,((data.1:Int) != s 2*4)=b:=⟨_,rfl⟩;obtain ⟨t5,h5⟩:=exB (zeL s ⟨4,seq,name,length,group,row,rows,data,delta⟩);have cG:=zev (W:=W2) (fun w'=>zb6 h1 w');have cR:=zev (W:=W2) (fun w'=>zb6 h2 w');have cA:=zaE (W:=W2) (fun w' _=>zbS s HOK.out w');have cW:=zaE (W:=W2) (fun w' _=>zcN s (by omega) (by omega) w');have cS:=zaE (W:=W2) (fun w' hw'=>zbF (zhh _ rows.1 rows.2 hi (s 0+s 1-1) w' ((H6.out.below HT2.out.bel hhi).below hw' (Nat.le_trans hhi HT2.out.bel.size))) h3);have cX:t1=true→t3=true→∀ d os,Calls Tryz.prog 94 #[zak s,.agg #[.int .i64 4,.int .i64 seq,.string name,.int .i64 length,.int .i64 group,.int .i64 row,.slice ao6 rows.1 cap6,.slice ao7 data.1 cap7,.slice ao8 delta.1 cap8]] (Go.Sort.grow (redrawn W2 d) os) fun e w''=>e=.returned (.bool t5)∧∃ p:Regrown,w''=Go.Sort.grow (redrawn W2 p.d) p.os:=fun e1 e3=>zaE (W:=W2) (fun w' hw'=>zbF (zeN s HOK.out ⟨4,seq,name,length,group,row,rows,data,delta⟩ _ hi w' (zac.rd_below (zac.rd_below HRD.out HT2.out.bel hhi) hw' (Nat.le_trans hhi HT2.out.bel.size)) (Nat.le_trans hhi (Nat.le_trans HT2.out.bel.size hw'.size)) (h1.1 e1) (h3.1 e3)) h5);unfold zak at cW cA cX
    have HE:Hid (zbj s ⟨4,seq,name,length,group,row,rows,data,delta⟩↔(t1=true∧t2=true∧t3=true∧b4'=false∧t5=true)):=by
     show zbj s ⟨4,seq,name,length,group,row,rows,data,delta⟩↔_
     rw [h1,h2,h3,← h4,h5];unfold zbj zg0
     simp
    have hst:(t1=false)∨(t1=true∧t2=false)∨(t1=true∧t2=true∧t3=false)∨(t1=true∧t2=true∧t3=true∧b4'=true)∨(t1=true∧t2=true∧t3=true∧b4'=false∧t5=false)∨(t1=true∧t2=true∧t3=true∧b4'=false∧t5=true):=by
     clear HE h1 h2 h3 h4 h5 cG cR cS cX
     cases t1<;>simp
     cases t2<;>simp
     cases t3<;>simp
     cases b4'<;>simp
    clear h1 h2 h3 h5;go_wp2
    rcases hst with rfl | ⟨rfl,rfl⟩ | ⟨rfl,rfl,rfl⟩ | ⟨rfl,rfl,rfl,rfl⟩ | ⟨rfl,rfl,rfl,rfl,rfl⟩ | ⟨rfl,rfl,rfl,rfl,rfl⟩
    all_goals
     refine WQ.region (by kernel_rfl) (by kernel_rfl) ?_
     repeat (first | (apply WQ.skip;(case hw=>rfl);intro K hK;go_simp;apply hK;clear hK K) | (apply WQ.want;(case hw=>rfl);intro K hK;go_simp;first | (apply hK;clear hK K) | (apply Exists.intro;apply And.intro;(case left=>intro p;(first | (go_at_call_of 30 (Value.int .i64 group);exact cG _ _) | (go_at_call_of 30 (Value.int .i64 row);exact cR _ _) | (go_at_call 92;exact cW _ _) | (go_at_call 67;exact cA _ _) | (go_at_call 93;exact cS _ _) | (go_at_call 94;exact cX rfl rfl _ _)));apply hK;clear hK K)))
     refine WQ.nil ?_;intro w3 hw3;have b3:=zaO hw3;have X3:Box w3 w1.heap.size #[.int .i64 4,.int .i64 seq,.string name,.int .i64 length,.int .i64 group,.int .i64 row,.slice ao6 rows.1 cap6,.slice ao7 data.1 cap7,.slice ao8 delta.1 cap8] 56:=HX2.out.call b3;have HB3:Hid (Below w.heap.size w w3):=(HT2.out.call b3).bel;have z3_0:w3.cell? ⟨w1.heap.size,0,none⟩=some (.int .i64 4):=X3.cell 0;have f3_0:w3.frozen? ⟨w1.heap.size,0,none⟩=false:=X3.frozen 0;have z3_1:w3.cell? ⟨w1.heap.size,1,none⟩=some (.int .i64 seq):=X3.cell 1;have f3_1:w3.frozen? ⟨w1.heap.size,1,none⟩=false:=X3.frozen 1;have z3_2:w3.cell? ⟨w1.heap.size,2,none⟩=some (.string name):=X3.cell 2;have f3_2:w3.frozen? ⟨w1.heap.size,2,none⟩=false:=X3.frozen 2;have z3_3:w3.cell? ⟨w1.heap.size,3,none⟩=some (.int .i64 length):=X3.cell 3;have f3_3:w3.frozen? ⟨w1.heap.size,3,none⟩=false:=X3.frozen 3;have z3_4:w3.cell? ⟨w1.heap.size,4,none⟩=some (.int .i64 group):=X3.cell 4;have f3_4:w3.frozen? ⟨w1.heap.size,4,none⟩=false:=X3.frozen 4;have z3_5:w3.cell? ⟨w1.heap.size,5,none⟩=some (.int .i64 row):=X3.cell 5;have f3_5:w3.frozen? ⟨w1.heap.size,5,none⟩=false:=X3.frozen 5;have z3_6:w3.cell? ⟨w1.heap.size,6,none⟩=some (.slice ao6 rows.1 cap6):=X3.cell 6;have f3_6:w3.frozen? ⟨w1.heap.size,6,none⟩=false:=X3.frozen 6;have z3_7:w3.cell? ⟨w1.heap.size,7,none⟩=some (.slice ao7 data.1 cap7):=X3.cell 7;have f3_7:w3.frozen? ⟨w1.heap.size,7,none⟩=false:=X3.frozen 7;have z3_8:w3.cell? ⟨w1.heap.size,8,none⟩=some (.slice ao8 delta.1 cap8):=X3.cell 8;have f3_8:w3.frozen? ⟨w1.heap.size,8,none⟩=false:=X3.frozen 8;clear X3 b3;clear hw3 x2_0 kx2_0 y2_0 ky2_0 z2_0 f2_0 x2_1 kx2_1 y2_1 ky2_1 z2_1 f2_1 x2_2 kx2_2 y2_2 ky2_2 z2_2 f2_2 x2_3 kx2_3 y2_3 ky2_3 z2_3 f2_3 x2_4 kx2_4 y2_4 ky2_4 z2_4 f2_4 x2_5 kx2_5 y2_5 ky2_5 z2_5 f2_5 x2_6 kx2_6 y2_6 ky2_6 z2_6 f2_6 x2_7 kx2_7 y2_7 ky2_7 z2_7 f2_7 x2_8 kx2_8 y2_8 ky2_8 z2_8 f2_8
    ·go_wp2
     go_ret;exact recP rfl (Stair.pass HOK.out (Stair.pass HK.out (Stair.pass HQ.out (Stair.pass HN.out (Stair.fall (fun h=>by have:=HE.out.1 h;simp at this)))))) HB3.out
    ·go_wp2
     go_ret;exact recP rfl (Stair.pass HOK.out (Stair.pass HK.out (Stair.pass HQ.out (Stair.pass HN.out (Stair.fall (fun h=>by have:=HE.out.1 h;simp at this)))))) HB3.out
    ·go_wp2
     go_ret;exact recP rfl (Stair.pass HOK.out (Stair.pass HK.out (Stair.pass HQ.out (Stair.pass HN.out (Stair.fall (fun h=>by have:=HE.out.1 h;simp at this)))))) HB3.out
    ·go_wp2
     go_ret;exact recP rfl (Stair.pass HOK.out (Stair.pass HK.out (Stair.pass HQ.out (Stair.pass HN.out (Stair.fall (fun h=>by have:=HE.out.1 h;simp at this)))))) HB3.out
    ·go_wp2
     go_ret;exact recP rfl (Stair.pass HOK.out (Stair.pass HK.out (Stair.pass HQ.out (Stair.pass HN.out (Stair.fall (fun h=>by have:=HE.out.1 h;simp at this)))))) HB3.out
    ·have HKP:Hid (zbj s ⟨4,seq,name,length,group,row,rows,data,delta⟩):=HE.out.2 (by simp)
     go_wp2_with fail
     refine (zch _ _ _ _ _ _ _ _ _ _ _ _ _ _ _ _).mono ?_;rintro e w9 ⟨t9,rfl,ht9,b9⟩
     have HB9:Hid (Below w.heap.size w w9):=by
      show Below w.heap.size w w9
      refine Below.trans ?_ (b9.mono ?_)
      ·repeat (refine zc4 ?_ (by omega))
       exact HB3.out
      ·simp
       exact HB3.out.size
     clear b9
     have HT9:Hid (t9=true↔zbe ⟨4,seq,name,length,group,row,rows,data,delta⟩):=by
      show t9=true↔zbe ⟨4,seq,name,length,group,row,rows,data,delta⟩
      rw [ht9];unfold zb7 zbe zcD
      simp [and_assoc]
      try (intros;rfl)
     clear ht9
     cases t9 with
     | false=>
      go_wp2;go_ret;exact recP rfl (Stair.pass HOK.out (Stair.pass HK.out (Stair.pass HQ.out (Stair.pass HN.out (Stair.pass HKP.out (Stair.fall (fun h=>by have:=HT9.out.2 h;simp at this))))))) HB9.out
     | true=>
      go_wp2;go_ret;exact recP rfl (Stair.pass HOK.out (Stair.pass HK.out (Stair.pass HQ.out (Stair.pass HN.out (Stair.pass HKP.out (Stair.pass (HT9.out.1 (by simp)) (Stair.last rfl))))))) HB9.out
  ·go_wp2_with fail
   refine (zb6 (t:=false) (exBF hq) _).mono ?_;rintro e w' ⟨rfl,hw'⟩;obtain rfl:=hw'.symm;go_wp2;go_ret;exact recP rfl (Stair.pass HOK.out (Stair.pass hk (Stair.fall hq))) HT1.out.bel
 ·go_wp2_with fail
  refine (zb6 (t:=false) (exBF hk) _).mono ?_;rintro e w' ⟨rfl,hw'⟩;obtain rfl:=hw'.symm;go_wp2;go_ret;exact recP rfl (Stair.pass HOK.out (Stair.fall hk)) HT1.out.bel
theorem zcO {K:Int→Prop} (hK:∃ x,K x):∀ l:List (Prop×Int),∃ x,Stair l K x
 | []=>hK
 | (p,c)::l=>by
  by_cases h:p
  ·obtain ⟨x,hx⟩:=zcO hK l
   exact ⟨x,.inr ⟨h,hx⟩⟩
  ·exact ⟨c,.inl ⟨h,rfl⟩⟩
theorem zh1 {s:Nat→Int} {d:RecD} {X:Int} {w:World} {f:Nat} {args:Array Value} (hX:RecAns s d X) (h:Calls Tryz.prog f args w (zeO s d w)):Calls Tryz.prog f args w fun e w'=>e=.returned (.int .i64 X)∧Below w.heap.size w w':=
 h.mono fun e w' ⟨x,h1,h2,h3⟩=>⟨by rw [h1,h2.one hX],h3⟩
def zcE (d:WorldD) (w:World) (e:Ending) (w':World):Prop:=∃ x,e=.returned (.int .i64 x)∧WldAns d x∧Below w.heap.size w w'
theorem wldP {d:WorldD} {w:World} {e:Ending} {w':World} {x:Int} (he:e=.returned (.int .i64 x)) (h:WldAns d x) (hb:Below w.heap.size w w'):zcE d w e w':=⟨x,he,h,hb⟩
def ziT (s:Nat→Int) (p:Nat×(Nat→TapeD)) (w:World) (e:Ending) (w':World):Prop:=∃ x,e=.returned (.int .i64 x)∧RecsAns s p.1 p.2 x∧Below w.heap.size w w'
theorem WQ.free {P:Program} {ops:Array Oper} {C:World→Prop} {Q:Act→Prop} {a:Act} {o:Oper} {rest:List Oper} (hw:o.guard=none)
 (h:∀ K:Act→Prop,(∀ a,WQ P ops C Q rest a→K a)→o.quiet P a C K):WQ P ops C Q (o::rest) a:=WQ.want (by simp [Region.wanted,hw]) h
theorem zeP (s:Nat→Int) (y:Nat→RecD):∀ k,(∀ i,i<k→RecAns s (y i) 0)∨∃ i c,i<k∧c≠0∧RecAns s (y i) c∧∀ j,j<i→RecAns s (y j) 0
 | 0=>.inl (fun i hi=>by omega)
 | k+1=>by
  rcases zeP s y k with h | ⟨i,c,h1,h2,h3,h4⟩
  ·obtain ⟨X,hX⟩:∃ X,RecAns s (y k) X:=zcO (K:=isZ) ⟨0,rfl⟩ _
   by_cases hx:X=0
   ·subst hx
    exact .inl (fun i hi=>by
     by_cases c:i=k
     ·subst c;exact hX
     ·exact h i (by omega))
   ·exact .inr ⟨k,X,by omega,hx,hX,h⟩
  ·exact .inr ⟨i,c,by omega,h2,h3,h4⟩
theorem zh2 (s:Nat→Int) (x:Nat→TapeD):∀ n,∃ c,RecsAns s n x c
 | 0=>⟨0,.inl ⟨rfl,fun t ht=>by omega⟩⟩
 | n+1=>by
  obtain ⟨c,hc⟩:=zh2 s x n
  rcases hc with ⟨rfl,h⟩ | ⟨hc,t,i,ht,hi,hr,hb,hu⟩
  ·rcases zeP s (x n).recs.2 (x n).recs.1 with k | ⟨i,c,h1,h2,h3,h4⟩
   ·exact ⟨0,.inl ⟨rfl,fun t ht=>by
     by_cases c:t=n
     ·subst c;exact k
     ·exact h t (by omega)⟩⟩
   ·exact ⟨c,.inr ⟨h2,n,i,by omega,h1,h3,h4,h⟩⟩
  ·exact ⟨c,.inr ⟨hc,t,i,by omega,hi,hr,hb,hu⟩⟩
theorem zit (d:WorldD):∃ X,WldAns d X:=by
 unfold WldAns;refine zcO ?_ _;obtain ⟨c,hc⟩:=zh2 d.shape d.tapes.2 d.tapes.1
 by_cases h:c=0
 ·subst h
  obtain ⟨x,hx⟩:=zcO (K:=isZ) ⟨0,rfl⟩ [(zg1 d,1),(zeu d,3)];exact ⟨x,.inr ⟨hc,hx⟩⟩
 ·exact ⟨c,.inl ⟨h,hc⟩⟩
structure ElInfo {α:Type} (E:Lay α) (T e:TypeId) (by_:Nat) (zs:List Value):Prop where
 hs:0<E.sz
 hzs:zs.length=E.sz
 hu:Tryz.prog.underlying T=some (.slice e)
 hi:(Tryz.prog.info? e).map (fun i=>(i.zero.map (·.cells),i.size,i.bytes))=some (some zs.toArray,E.sz,by_)
 few:by_≤1000
def Gat {α:Type} (E:Lay α) (t:TypeId) (w:World) (lo:Nat) (v:Value) (n:Nat) (x:Nat→α):Prop:=∃ ce Ls,SlG E t w lo v n x ce Ls
section
variable {α:Type} {E:Lay α} {t:TypeId} {w w':World} {lo n:Nat} {v:Value} {x:Nat→α}
theorem Gat.nil (x:Nat→α) (w:World) (lo:Nat):Gat E t w lo (.slice none 0 0) 0 x:=⟨_,_,SlG.nil x w lo⟩
theorem Gat.form (h:Gat E t w lo v n x):∃ ao cap,v=.slice ao n cap:=by
 obtain ⟨ce,Ls,h⟩:=h
 rcases h.row.2 with ⟨hv,hn⟩ | ⟨g,cap,cur,rfl,_⟩
 ·exact ⟨none,0,by rw [hv,hn]⟩
 ·exact ⟨_,_,rfl⟩
theorem Gat.below (h:Gat E t w lo v n x) (hb:Below w.heap.size w w'):Gat E t w' lo v n x:=by
 obtain ⟨ce,Ls,h⟩:=h;exact ⟨ce,Ls,h.below hb⟩
theorem Gat.own (h:Gat E t w lo v n x):OwnT (E.slice t) w lo w.heap.size (n,x) [v]:=by
 obtain ⟨ce,Ls,h⟩:=h;exact h.own
theorem Gat.congr {y:Nat→α} (h:Gat E t w lo v n x) (hy:∀ i,i<n→x i=y i):Gat E t w lo v n y:=by
 obtain ⟨ce,Ls,h⟩:=h;exact ⟨ce,Ls,h.row,fun i hi=>by rw [← hy i hi];exact h.each i hi,h.nd,h.low⟩
theorem SlG.mem_low {ce:Nat→List Value} {Ls:Nat→List Nat} (h:SlG E t w lo v n x ce Ls):∀ b,b∈v.ownBlock.toList++catN n Ls→lo≤b:=fun b hb=>by
 rcases List.mem_append.1 hb with h1 | h1
 ·exact (h.row.lt b (by simpa using h1)).1
 ·exact h.low b h1
theorem Gat.set (h:Gat E t w lo v n x) (b j:Nat) (u:Value) (hb:b<lo):Gat E t (w.setCell ⟨b,j,none⟩ u) lo v n x:=by
 obtain ⟨ce,Ls,h⟩:=h;exact ⟨ce,Ls,h.kept (fun k hk=>heap_setCell_other w ⟨b,j,none⟩ k u (by have:=h.mem_low k hk;show k≠b;omega))⟩
theorem zg2 (x:Nat→α) (w:World):Gat E t (w.alloc (.cells #[] t)) w.heap.size (.slice (some ⟨w.heap.size,0,none⟩) 0 0) 0 x:=by
 have h:=World.ownsRow_lit (base:=w.heap.size) (e:=t) (size:=E.sz) w #[] 0 (Nat.le_refl _) (Nat.zero_le _) (by simp);exact ⟨fun _=>[],fun _=>[],by simpa [zbZ] using h,fun i hi=>by omega,by simp [Value.ownBlock,zbZ],fun b hb=>by rw [zbZ] at hb;cases hb⟩
end
theorem zb4 (w:World) (cs:List Value) (t:TypeId) (j:Nat):(w.alloc (.cells cs.toArray t)).cell? ⟨w.heap.size,j,none⟩=cs[j]?:=by
 simp
theorem zdR {α:Type} {E:Lay α} {T e:TypeId} {by_:Nat} {zs:List Value} (I:ElInfo E T e by_ zs) (ty:TypeId) {w1 w2 W:World} {lo n:Nat} {v:Value} {x:Nat→α} (hG:Gat E e w1 lo v n x)
 (hb:Below w1.heap.size w1 w2) {d:α} {cs:List Value} (ha:OwnT E w2 w1.heap.size w2.heap.size d cs) (hW:Below w2.heap.size w2 W) (b c:Nat) (hcell:∀ j,j<E.sz→W.cell? ⟨b,j,none⟩=cs[j]?) (hlo:lo≤w1.heap.size) (hn:n≤10000000) :
 ∃ v' w',(Builtin.append_ #[T,T] ty #[v,.slice (some ⟨b,0,none⟩) 1 c]).run Tryz.prog W=.ok v' w'∧Gat E e w' lo v' (n+1) (upd x n d)∧Below lo w1 w':=by
 obtain ⟨hs,hzs,hu,hi,few⟩:=I
 obtain ⟨i0,hi0⟩:∃ i0,Tryz.prog.info? e=some i0:=by
  cases h:Tryz.prog.info? e with
  | none=>rw [h] at hi;cases hi
  | some i0=>exact ⟨i0,rfl⟩
 rw [hi0] at hi
 simp only [Option.map_some,Option.some.injEq,Prod.mk.injEq] at hi
 obtain ⟨h1,h2,h3⟩:=hi
 obtain ⟨z,hz,hzc⟩:∃ z,i0.zero=some z∧z.cells=zs.toArray:=by
  cases h:i0.zero with
  | none=>rw [h] at h1;cases h1
  | some z=>rw [h] at h1;exact ⟨z,rfl,by simpa using h1⟩
 obtain ⟨ce,Ls,hG1⟩:=hG;have hbW:Below w1.heap.size w1 W:=hb.trans (hW.mono hb.size);have hG2:SlG E e W lo v n x ce Ls:=hG1.below hbW;obtain ⟨K,a1,a2,a3⟩:=ha;have ha':E.own W d cs K:=E.own_kept a1 (fun k hk=>hW.block k (E.own_lt a1 k hk));have hcs:=E.own_len a1
 obtain ⟨v',w',hr,r1,r2,r3,r4⟩:=run_append_own_at (P:=Tryz.prog) W lo T ty e i0 z E.sz by_ hu hi0 hz h2 h3 (by rw [hzc];simpa using hzs) hs v n (catN n ce) hG2.row ⟨b,0,none⟩ 1 c cs (by rw [hcs,Nat.one_mul])
  (fun j u hj=>by
   have hlt:j<cs.length:=(List.getElem?_eq_some_iff.1 hj).1;have:=hcell j (by omega);rw [hj] at this;rw [zi4]
   exact this) (E.own_one ha') (by unfold maxLen;omega) (by
    have:(n+1)*by_≤10000001*1000:=Nat.mul_le_mul (by omega) few
    omega) (Nat.le_trans hlo hbW.size)
 refine ⟨v',w',hr,⟨_,_,hG2.grown ha' a2 (fun k hk=>?_) r1 r2 r4⟩,?_⟩
 ·have h5:=(a3 k hk).1
  exact ⟨by omega,fun hh=>by have:=hG1.mem_lt k hh;omega⟩
 ·exact (hbW.mono hlo).grown r2 (Nat.le_trans hlo hbW.size) (fun k hk=>(hG2.row.lt k hk).1)
theorem zdi {α:Type} {E:Lay α} {T e:TypeId} {by_:Nat} {zs:List Value} (I:ElInfo E T e by_ zs) {w1 w2 W:World} {ops:Array Oper} {rest:List Oper} {o:Oper} {a:Act} {Q:Exit→Act→World→Prop}
 (hg:o.guard=none) (s y:Operand) (hop:o.op=Op.call { callee:=Callee.builtin Builtin.append,args:=#[s,y],argTypes:=#[T,T] })
 {lo n:Nat} {v:Value} {x:Nat→α} (hev:a.eval s=v) (hG:Gat E e w1 lo v n x)
 (hb:Below w1.heap.size w1 w2) {d:α} {cs:List Value} (ha:OwnT E w2 w1.heap.size w2.heap.size d cs) (hW:Below w2.heap.size w2 W) (b c:Nat) (hx:a.eval y=.slice (some ⟨b,0,none⟩) 1 c) (hcell:∀ j,j<E.sz→W.cell? ⟨b,j,none⟩=cs[j]?) (hlo:lo≤w1.heap.size) (hn:n≤10000000)
 (hK:∀ v' w',Gat E e w' lo v' (n+1) (upd x n d)→Below lo w1 w'→wpList Tryz.prog ops Q rest (a.put o.dst v') w'):wpList Tryz.prog ops Q (o::rest) a W:=by
 refine wpList_plain hg fun K hK'=>?_;obtain ⟨v',w',hrun,r1,r2⟩:=zdR I o.type hG hb ha hW b c hcell hlo hn;unfold Oper.wp
 simp [execOp,hop,resolve,invoke,builtin,hev,hx,hrun,Result.andThen]
 exact hK' _ _ (hK v' w' r1 r2)
theorem zdo {α:Type} {E:Lay α} {T e:TypeId} {by_:Nat} {zs:List Value} (I:ElInfo E T e by_ zs) {w1 w2 W:World} {ops:Array Oper} {o:Oper} {a:Act} {K:Act→World→Prop} {Q:Exit→Act→World→Prop} {F:Prop}
 (hg:o.guard=none) (s y:Operand) (hop:o.op=Op.call { callee:=Callee.builtin Builtin.append,args:=#[s,y],argTypes:=#[T,T] })
 {lo n:Nat} {v:Value} {x:Nat→α} (hev:a.eval s=v) (hG:Gat E e w1 lo v n x)
 (hb:Below w1.heap.size w1 w2) {d:α} {cs:List Value} (ha:OwnT E w2 w1.heap.size w2.heap.size d cs) (hW:Below w2.heap.size w2 W) (b c:Nat) (hx:a.eval y=.slice (some ⟨b,0,none⟩) 1 c) (hcell:∀ j,j<E.sz→W.cell? ⟨b,j,none⟩=cs[j]?) (hlo:lo≤w1.heap.size) (hn:n≤10000000)
 (hK:∀ v' w',Gat E e w' lo v' (n+1) (upd x n d)→Below lo w1 w'→K (a.put o.dst v') w') :
 if Region.wanted o (yielded ops a.tmps)=true then Oper.wp Tryz.prog o a W K Q else F:=by
 have hw:Region.wanted o (yielded ops a.tmps)=true:=by simp [Region.wanted,hg]
 rw [if_pos hw];obtain ⟨v',w',hrun,r1,r2⟩:=zdR I o.type hG hb ha hW b c hcell hlo hn;unfold Oper.wp
 simp [execOp,hop,resolve,invoke,builtin,hev,hx,hrun,Result.andThen]
 exact hK v' w' r1 r2
def zi9:BlockD:=⟨0,(4,fun _=>0)⟩
def zja (rows:Nat):DriveD:=⟨false,(rows,fun _=>zi9)⟩
theorem ziJ {w:World} {lo hi n:Nat} {v:Value} {f:Nat→Nat} (h:Own w lo hi v n f) (hh:hi≤w.heap.size) (kf:∀ i,f i<256):OwnT zad w lo hi (n,f) [v]:=by
 refine ⟨v.ownBlock.toList,⟨v,rfl,rfl,h.weaken (Nat.zero_le _) hh,kf⟩,?_,fun b hb=>?_⟩
 ·cases v.ownBlock<;>simp
 ·have hb':v.ownBlock=some b:=by simpa using hb
  exact ⟨(h.1.lt b hb').1,h.2 b hb'⟩
theorem zeQ:ElInfo zah 73 43 32 [.int .i64 0,.slice none 0 0]:=⟨by decide,rfl,Tryz.underlying73,by kernel_rfl,by decide⟩
theorem zeR:ElInfo zab 76 75 32 [.bool false,.slice none 0 0]:=⟨by decide,rfl,Tryz.underlying76,by kernel_rfl,by decide⟩
theorem zdS:ElInfo (zab.slice 75) 35 76 24 [.slice none 0 0]:=⟨by decide,rfl,Tryz.underlying35,by kernel_rfl,by decide⟩
theorem Three.low {w wc w':World} {c1 c2 c3:Array Value} {t1 t2 t3:TypeId} (h:Three w wc c1 c2 c3 t1 t2 t3) (hb:Below (w.heap.size+1+1+1) wc w'):Three w w' c1 c2 c3 t1 t2 t3:=
 ⟨h.b1.below hb (by omega),h.b2.below hb (by omega),h.b3.below hb (by omega),h.bel.trans (hb.mono (by omega))⟩
section
variable {α:Type} {E:Lay α} {t:TypeId} {w w1:World} {lo g cap n k:Nat} {x:Nat→α} {ce:Nat→List Value} {Ls:Nat→List Nat}
end
def noRec:RecD:=⟨0,0,ByteArray.empty,0,0,0,(0,fun _=>0),(0,fun _=>0),(0,fun _=>0)⟩
def zjb:TapeD:=⟨false,(0,fun _=>noRec)⟩
def zeS:WorldD:=⟨fun _=>0,(0,fun _=>(0,fun _=>zja 0)),(0,fun _=>0),(0,fun _=>zjb),0,0,false⟩
def zcF (P:WorldResultD→Prop) (w:World) (e:Ending) (w':World):Prop:=∃ d cs,e=.returned (.agg cs.toArray)∧P d∧OwnT zaj w' w.heap.size w'.heap.size d cs∧Below w.heap.size w w'
theorem zgs:ElInfo zag 36 100 32 [.bool false,.slice none 0 0]:=⟨by decide,rfl,Tryz.underlying36,by kernel_rfl,by decide⟩
theorem zdj (w:World) (f:Nat→Int) (h:∀ i,-9223372036854775808≤f i∧f i≤9223372036854775807):zai.own w (0,f) [.slice none 0 0] []:=⟨_,rfl,rfl,⟨⟨rfl,.inl ⟨rfl,rfl⟩⟩,fun k hk=>by cases hk⟩,h⟩
theorem zg3 {α:Type} {E:Lay α} {t:TypeId} (w:World) (x:Nat→α):(E.slice t).own w (0,x) [.slice none 0 0] []:=⟨_,fun _=>[],fun _=>[],rfl,rfl,World.ownsRow_nil w 0 t E.sz,fun i hi=>by omega⟩
theorem zh3 (w:World):zae.own w zeS [.int .i64 0,.int .i64 0,.int .i64 0,.int .i64 0,.int .i64 0,.int .i64 0,.int .i64 0,.int .i64 0,.int .i64 0,.slice none 0 0,.slice none 0 0,.slice none 0 0,.int .i64 0,.int .i64 0,.bool false] []:=by
 have h:=zcf (w:=w) zeS (ao1:=none) (ao2:=none) (ao3:=none) (cap1:=0) (cap2:=0) (cap3:=0) (zg3 w _) (zdj w _ (fun _=>by decide)) (zg3 w _) (fun i=>show (-9223372036854775808:Int)≤0∧(0:Int)≤9223372036854775807 by decide) (show (-9223372036854775808:Int)≤0∧(0:Int)≤9223372036854775807 by decide) (show (-9223372036854775808:Int)≤0∧(0:Int)≤9223372036854775807 by decide);exact h
theorem zcd {w:World} {lo hi:Nat} {d:WorldD} {cs:List Value} (c:Int) (hc:-9223372036854775808≤c∧c≤9223372036854775807) (h:OwnT zae w lo hi d cs):OwnT zaj w lo hi ⟨c,d⟩ (.int .i64 c::cs):=
 OwnT.conv (OwnT.pre (A:=layI) (a:=c) (c:=[.int .i64 c]) ⟨rfl,hc,rfl⟩ h)
theorem zdT (w:World) (c:Int) (hc:-9223372036854775808≤c∧c≤9223372036854775807) (lo hi:Nat):OwnT zaj w lo hi ⟨c,zeS⟩ (.int .i64 c::[.int .i64 0,.int .i64 0,.int .i64 0,.int .i64 0,.int .i64 0,.int .i64 0,.int .i64 0,.int .i64 0,.int .i64 0,.slice none 0 0,.slice none 0 0,.slice none 0 0,.int .i64 0,.int .i64 0,.bool false]):=zcd c hc (OwnT.nil (zh3 w) lo hi)
theorem Box.chgl {w w':World} {b:Nat} {cs:Array Value} {t:TypeId} {K:List Nat} (h:Box w b cs t) (hc:ChgL K w w') (hb:b∉K):Box w' b cs t:=(hc.block b h.lt hb).trans h
theorem ChgL.bel {K:List Nat} {w w':World} {B:Nat} (hc:ChgL K w w') (hK:∀ b,b∈K→B≤b) (hB:B≤w.heap.size):Below B w w':=⟨hc.os,hc.tape,hc.output,hc.size,fun k hk=>hc.block k (by omega) (fun h=>by have:=hK k h;omega)⟩
theorem ChgL.after {K:List Nat} {a b c:World} (h:ChgL K a b) (k:Below a.heap.size b c):ChgL K a c:=⟨k.os.trans h.os,k.tape.trans h.tape,k.output.trans h.output,Nat.le_trans h.size k.size,fun i hi hn=>(k.block i hi).trans (h.block i hi hn)⟩
theorem OwnT.finb {α:Type} {A:Lay α} {w:World} {lo b:Nat} {a:α} {cs:List Value} (h:OwnT A w lo w.heap.size a cs) (hb:b<lo) {lo':Nat} (hl:lo'≤lo) (o:Nat) (l:List Value) (w':World) (e:w'=Go.Proofs.YtonemlgejkapbaaGreat.stN w b o l):OwnT A w' lo' w'.heap.size a cs:=by
 subst e;exact (h.stN b o l hb).weaken hl (by rw [zbp];exact Nat.le_refl _)
structure NewBx (cs:Array Value) (w1 wx:World) (P t:Nat):Prop where
 box:Box wx P cs 38
 tp:(zag.slice 100).own wx (2,fun _=>zjb) [.slice (some ⟨t,0,none⟩) 2 2] [t]
 p1:w1.heap.size≤P
 t1:w1.heap.size≤t
 ne:t≠P
 bel:Below w1.heap.size w1 wx
theorem zh4 {α:Type} {A:Lay α} {c:α→Nat} {mk:Nat→α→α} {fn:Nat} (hm:MkV A c mk fn) {w:World} {lo hi:Nat} {d:α} {cs:List Value} (h:OwnT A w lo hi d cs) (j:Nat) (hj:j+c d≤100000000) :
 Calls Tryz.prog fn #[.agg cs.toArray,.int .i64 j] w fun e w'=>e=.returned (.int .i64 ((j+c d:Nat):Int))∧OwnT A w' lo hi (mk j d) cs∧Chg lo hi w w':=by
 obtain ⟨L,h1,h2,h3⟩:=h;exact (hm cs d L j w h1 h2 hj).mono fun e w' ⟨he,ho,hc⟩=>⟨he,⟨L,ho,h2,h3⟩,hc.chg h3⟩
theorem Chg.bel {lo hi B:Nat} {w w':World} (h:Chg lo hi w w') (hl:B≤lo) (hB:B≤w.heap.size):Below B w w':=⟨h.os,h.tape,h.output,h.size,fun k hk=>h.block k (by omega) (.inl (by omega))⟩
theorem zew {f g:Nat→Nat}:∀ {n:Nat},(∀ i,i<n→f i≤g i)→sumN f n≤sumN g n
 | 0,_=>Nat.le_refl _
 | n+1,h=>by
  rw [zaG,zaG];exact Nat.add_le_add (zew (fun i hi=>h i (by omega))) (h n (by omega))
theorem zhx (c:Nat):∀ n:Nat,sumN (fun _=>c) n=n*c
 | 0=>by simp [sumN]
 | n+1=>by rw [zaG,zhx c n,Nat.succ_mul]
theorem zfE (f:Nat→Nat) (c k:Nat):∀ n:Nat,sumN (fun i=>c+k*f i) n=n*c+k*sumN f n
 | 0=>by simp [sumN]
 | n+1=>by rw [zaG,zfE f c k n,zaG,Nat.succ_mul,Nat.mul_add];omega
theorem zfF {α:Type} {c s:α→Nat} {k:Nat} (h:∀ a,c a≤k+k*s a) (p:Nat×(Nat→α)):cSl c p≤k*szSl s p:=by
 unfold cSl szSl;have h1:sumN (fun i=>c (p.2 i)) p.1≤sumN (fun i=>k+k*s (p.2 i)) p.1:=zew (fun i _=>h (p.2 i));rw [zfE (fun i=>s (p.2 i)) k k p.1] at h1;rw [Nat.mul_add];have:p.1*k=k*p.1:=Nat.mul_comm _ _;omega
theorem zh5 (d:BlockD):zau d≤6+6*zaB d:=by unfold zau zaB;omega
theorem zh6 (d:DriveD):zaf d≤6+6*zap d:=by
 have:=zfF (k:=6) zh5 d.blocks;unfold zaf zap;omega
theorem zgt (d:RecD):zaM d≤6+6*zaH d:=by unfold zaM zaH;omega
theorem zg4 (d:TapeD):zaC d≤6+6*zaN d:=by
 have:=zfF (k:=6) zgt d.recs;unfold zaC zaN;omega
theorem zex (d:WorldD):za5 d≤6*zaS d:=by
 have h1:=zfF (c:=cSl zaf) (s:=szSl zap) (k:=6) (fun p=>Nat.le_trans (zfF (k:=6) zh6 p) (by omega)) d.groups;have h3:=zfF (k:=6) zg4 d.tapes;unfold za5 zaS;omega
theorem OwnT.one {α:Type} {A:Lay α} {w:World} {lo hi:Nat} {a:α} {cs:List Value} (h:OwnT A w lo hi a cs):∀ v,v∈cs→v.oneCell'=true:=by
 obtain ⟨L,h1,_⟩:=h;exact fun v hv=>A.own_one h1 v hv
theorem zbU {ops:Array Oper} {rest:List Oper} {o1 o2:Oper} {a:Act} {w:World} {Q:Exit→Act→World→Prop} (T:TypeId) (k:Nat) (x:Operand) (cs:List Value) (zs:Array Value) (n:Nat)
 (hop1:o1.op=Op.alloc T) (hop2:o2.op=Op.store T (.tmp k) x) (hg1:o1.guard=none) (hg2:o2.guard=none) (hd1:o1.dst=some k) (hd2:o2.dst=none)
 (hp:(a.put (some k) (.pointer (some ⟨w.heap.size,0,none⟩))).eval (.tmp k)=.pointer (some ⟨w.heap.size,0,none⟩)) (hx:(a.put (some k) (.pointer (some ⟨w.heap.size,0,none⟩))).eval x=.agg cs.toArray)
 (hi:(Tryz.prog.info? T).map (fun i=>(i.zero.map (·.cells),i.size))=some (some zs,n)) (hz:zs.size=n) (hl:cs.length=n) (h1:∀ v,v∈cs→v.oneCell'=true)
 (h:wpList Tryz.prog ops Q rest (a.put (some k) (.pointer (some ⟨w.heap.size,0,none⟩))) (w.alloc (.cells cs.toArray T))):wpList Tryz.prog ops Q (o1::o2::rest) a w:=by
 obtain ⟨i0,hi0⟩:∃ i0,Tryz.prog.info? T=some i0:=by
  cases h:Tryz.prog.info? T with
  | none=>rw [h] at hi;cases hi
  | some i0=>exact ⟨i0,rfl⟩
 rw [hi0] at hi
 simp only [Option.map_some,Option.some.injEq,Prod.mk.injEq] at hi
 obtain ⟨h2,h3⟩:=hi
 obtain ⟨z,hzz,hzc⟩:∃ z,i0.zero=some z∧z.cells=zs:=by
  cases h:i0.zero with
  | none=>rw [h] at h2;cases h2
  | some z=>rw [h] at h2;exact ⟨z,rfl,by simpa using h2⟩
 have hr:(Instr.alloc T true (.tuple #[])).run Tryz.prog w=.ok (.pointer (some ⟨w.heap.size,0,none⟩)) (w.alloc (.cells zs T)):=by
  simp [Instr.alloc,zeroValue,typeInfo,hi0,hzz,hzc,newVar,newRow]
 have hw:(w.alloc (.cells zs T)).setRow w.heap.size cs.toArray=w.alloc (.cells cs.toArray T):=by
  have hh:((w.alloc (.cells zs T)).setRow w.heap.size cs.toArray).heap=w.heap.push (.cells cs.toArray T):=by
   apply Array.ext_getElem?
   intro i
   by_cases c:i=w.heap.size
   ·subst c
    rw [setRow_heap (w.alloc (.cells zs T)) w.heap.size zs cs.toArray T (0,0) (zaz w zs T),Array.getElem?_push,if_pos rfl]
   ·rw [setRow_other _ _ _ _ c,Array.getElem?_push,if_neg c]
    show (w.heap.push _)[i]?=_
    rw [Array.getElem?_push,if_neg c]
  show ({ w with heap:=((w.alloc (.cells zs T)).setRow w.heap.size cs.toArray).heap }:World)=_
  rw [hh];rfl
 refine wpList_plain hg1 fun K hK=>?_;unfold Oper.wp execOp
 simp only [hop1,Sem.run_bind,hr,Result.andThen_ok]
 refine hK _ _ ?_;rw [hd1];refine wpList_store_row hg2 T (.tmp k) x hop2 w.heap.size cs.toArray hp hx T zs (zaz w zs T) (by rw [hi0];simp [h3,hl]) (by simp [hz,hl]) (by simp;exact h1) ?_;rw [hw,hd2];exact h
theorem zao {ops:Array Oper} {rest:List Oper} {o:Oper} {a:Act} {w:World} {Q:Exit→Act→World→Prop} (T:TypeId) (x:Operand) (ho:o.op=.load T x) (hgd:o.guard=none) (b:Nat) (hx:a.eval x=.pointer (some ⟨b,0,none⟩)) {cs:List Value} (hB:Box w b cs.toArray T) {fs:Array Field} (hu:Tryz.prog.underlying T=some (.struct fs)) {n:Nat} (hi:(Tryz.prog.info? T).map (·.size)=some n) (hl:cs.length=n)
 (h:wpList Tryz.prog ops Q rest (a.put o.dst (.agg cs.toArray)) w):wpList Tryz.prog ops Q (o::rest) a w:=
 wpList_load_row hgd T x ho b hx T cs.toArray (0,0) (.struct fs) hB hu rfl (by rw [hi];simp [hl]) h
theorem OwnT.len {α:Type} {A:Lay α} {w:World} {lo hi:Nat} {a:α} {cs:List Value} (h:OwnT A w lo hi a cs):cs.length=A.sz:=by
 obtain ⟨L,h1,_⟩:=h;exact A.own_len h1
theorem zax:(Tryz.prog.info? 40).map (·.size)=some 16:=by kernel_rfl
theorem zbH:(Tryz.prog.info? 38).map (·.size)=some 15:=by kernel_rfl
theorem zdU:(Tryz.prog.info? 28).map (·.size)=some 15:=by kernel_rfl
theorem zci:(Tryz.prog.info? 40).map (fun i=>(i.zero.map (·.cells),i.size))=some (some #[.int .i64 0,.int .i64 0,.int .i64 0,.int .i64 0,.int .i64 0,.int .i64 0,.int .i64 0,.int .i64 0,.int .i64 0,.int .i64 0,.slice none 0 0,.slice none 0 0,.slice none 0 0,.int .i64 0,.int .i64 0,.bool false],16):=by kernel_rfl
theorem ziK:(Tryz.prog.info? 38).map (fun i=>(i.zero.map (·.cells),i.size))=some (some #[.int .i64 0,.int .i64 0,.int .i64 0,.int .i64 0,.int .i64 0,.int .i64 0,.int .i64 0,.int .i64 0,.int .i64 0,.slice none 0 0,.slice none 0 0,.slice none 0 0,.int .i64 0,.int .i64 0,.bool false],15):=by kernel_rfl
end Go.Proofs.YtonemlgejkapbaaGreat
namespace Go.Proofs.YtonemlgejkapbaaGreat
open Go.RowKit
section
variable {P:Program} {ops:Array Oper} {Q:Exit→Act→World→Prop} {md:Region.Mode} {S:World→Prop} {L:Nat}
def zbt (P:Program) (md:Region.Mode) (ops:Array Oper) (Q:Exit→Act→World→Prop) (S:World→Prop) (L:Nat):Nat→Array Bool→Act→World→Prop
 | 0,listed,a,w=>Region.ready md ops listed=[]∧Q .normal a w
 | fuel+1,listed,a,w=>
  (Region.ready md ops listed=[]→Q .normal a w)∧
  ∀ i∈Region.ready md ops listed,wpOp P ops Q i (fun a' w'=>(i≠L→S w')∧zbt P md ops Q S L fuel (listed.setIfInBounds i true) a' w') a w
theorem zey:∀ (fuel:Nat) (listed:Array Bool) (a:Act) (w:World),zbt P md ops Q S L fuel listed a w→wpAny P md ops Q fuel listed a w
 | 0,_,_,_,h=>h
 | fuel+1,_,_,_,h=>⟨h.1,fun i hi=>wpOp_mono (fun a' w' h'=>zey fuel _ a' w' h'.2) (h.2 i hi)⟩
def zdk (md:Region.Mode) (ops:Array Oper) (listed:Array Bool):Prop:=
 ∀ j oj,ops[j]?=some oj→listed.getD j false=true→∀ e∈oj.after,Region.binds md e=true→listed.getD e.on false=true
def zdV (md:Region.Mode) (ops:Array Oper) (listed:Array Bool):Bool:=
 (List.range ops.size).all fun j=>!listed.getD j false||((ops[j]?).map (·.after.all fun e=>!Region.binds md e||listed.getD e.on false)).getD false
theorem zh7 {listed:Array Bool} (h:zdV md ops listed=true):zdk md ops listed:=fun j oj hj hl e he hb=>by
 unfold zdV at h;have hlt:j<ops.size:=(Array.getElem?_eq_some_iff.1 hj).1;have h1:=List.all_eq_true.1 h j (List.mem_range.2 hlt);rw [hl,hj] at h1
 simp only [Bool.not_true,Bool.false_or,Option.map_some,Option.getD_some,Array.all_eq_true_iff_forall_mem] at h1
 have h2:=h1 e he;rw [hb] at h2
 simpa using h2
theorem zgu {listed:Array Bool} {j:Nat} (h:zdk md ops listed) (hj:j∈Region.ready md ops listed):zdk md ops (listed.setIfInBounds j true):=fun k ok hk hl e he hb=>by
 obtain ⟨_,o,ho,hall⟩:=mem_ready.1 hj
 by_cases c:j=k
 ·subst c
  rw [hk] at ho
  cases ho
  exact getD_set_true (hall e he hb)
 ·rw [getD_set_ne false c] at hl
  exact getD_set_true (h k ok hk hl e he hb)
def depB (md:Region.Mode) (ops:Array Oper):Nat→Nat→Nat→Bool
 | 0,l,i=>l==i
 | n+1,l,i=>l==i||((ops[l]?).map (·.after.any fun e=>Region.binds md e&&depB md ops n e.on i)).getD false
theorem zez {listed:Array Bool} (hc:zdk md ops listed):∀ (n l i:Nat),depB md ops n l i=true→listed.getD l false=true→listed.getD i false=true
 | 0,l,i,h,hl=>by
  unfold depB at h
  have:l=i:=by simpa using h
  rw [← this];exact hl
 | n+1,l,i,h,hl=>by
  unfold depB at h
  rcases Bool.or_eq_true _ _ ▸ h with h1 | h1
  ·have:l=i:=by simpa using h1
   rw [← this];exact hl
  ·cases ho:ops[l]? with
   | none=>rw [ho] at h1;simp at h1
   | some o=>
    rw [ho] at h1
    simp only [Option.map_some,Option.getD_some] at h1
    obtain ⟨k,hk,hbk⟩:=Array.any_eq_true.1 h1;obtain ⟨hb,hd⟩:=Bool.and_eq_true _ _ ▸ hbk;exact zez hc n _ i hd (hc l o ho hl _ (Array.getElem_mem hk) hb)
theorem zh8 {listed:Array Bool} (hc:zdk md ops listed) {n i:Nat} (hne:L≠i) (hd:depB md ops n L i=true) (hi:listed.getD i false=false):L∉Region.ready md ops listed:=fun hL=>by
 obtain ⟨_,o,ho,hall⟩:=mem_ready.1 hL
 cases n with
 | zero=>unfold depB at hd;exact hne (by simpa using hd)
 | succ n=>
  unfold depB at hd
  rcases Bool.or_eq_true _ _ ▸ hd with h1 | h1
  ·exact hne (by simpa using h1)
  ·rw [ho] at h1
   simp only [Option.map_some,Option.getD_some] at h1
   obtain ⟨k,hk,hbk⟩:=Array.any_eq_true.1 h1;obtain ⟨hb,hd'⟩:=Bool.and_eq_true _ _ ▸ hbk;have:=zez hc n _ i hd' (hall _ (Array.getElem_mem hk) hb);rw [hi] at this
   cases this
theorem zcT {listed:Array Bool} {i:Nat} (h:listed.getD i true=false):listed.getD i false=false:=by
 rcases Nat.lt_or_ge i listed.size with h' | h'
 ·simpa [h'] using h
 ·simp [Array.getElem?_eq_none h'] at h
theorem zfG {i:Nat} {oi:Oper} {v:Value} (hi:ops[i]?=some oi) (hsel:∀ (j:Nat) (o:Oper) cs b,ops[j]?=some o→o.op≠.select cs b)
 (hQ:∀ c a w,Q (.panic c) (a.put oi.dst v) w→Q (.panic c) a w) (hLi:L≠i) {n:Nat} (hd:depB md ops n L i=true) :
 ∀ (fuel:Nat) (listed:Array Bool) (a:Act) (w:World),zdk md ops listed→
  (∀ j oj,ops[j]?=some oj→j≠i→listed.getD j true=false→(∀ e∈oj.after,Region.binds md e=true→e.on≠i)→oi.apart ops oj=true)→
  i∈Region.ready md ops listed→YieldsIf P ops S oi v a→S w→
  zbt P md ops Q S L fuel (listed.setIfInBounds i true) (a.put oi.dst v) w→zbt P md ops Q S L (fuel+1) listed a w:=by
 intro fuel
 induction fuel with
 | zero=>
  intro listed a w _ _ hr hy hS H;refine ⟨fun h=>(by rw [h] at hr;cases hr),fun j hj=>?_⟩
  by_cases hji:j=i
  ·subst hji;exact hy.wpOp hi hS ⟨fun _=>hS,H⟩
  ·have:=ready_mono hj hji
   rw [H.1] at this
   cases this
 | succ fuel ih=>
  intro listed a w hcl hfree hr hy hS H;refine ⟨fun h=>(by rw [h] at hr;cases hr),fun j hj=>?_⟩
  by_cases hji:j=i
  ·subst hji;exact hy.wpOp hi hS ⟨fun _=>hS,H⟩
  ·have hjL:j≠L:=fun h=>by
    subst h;exact zh8 hcl hLi hd (zcT (mem_ready.1 hr).1) hj
   have h1:=H.2 j (ready_mono hj hji);obtain ⟨hjun,oj,hoj,hall⟩:=mem_ready.1 hj
   have hnot:∀ e∈oj.after,Region.binds md e=true→e.on≠i:=fun e he hb heq=>by
    have h1:=hall e he hb;have h0:=zcT (mem_ready.1 hr).1;rw [heq,h0] at h1
    cases h1
   have h2:=wpOp_putIf hoj (hfree j oj hoj hji hjun hnot) (fun cs b=>hsel i oi cs b hi) (fun cs b=>hsel j oj cs b hoj) hQ hy h1
   have hfree':∀ k ok,ops[k]?=some ok→k≠i→(listed.setIfInBounds j true).getD k true=false→
    (∀ e∈ok.after,Region.binds md e=true→e.on≠i)→oi.apart ops ok=true:=fun k ok hk hki hun hno=>by
    refine hfree k ok hk hki ?_ hno
    by_cases hjk:j=k
    ·subst hjk;exact hjun
    ·rw [getD_set_ne true hjk] at hun;exact hun
   refine wpOp_mono (fun a' w' h3=>⟨h3.2.1,ih (listed.setIfInBounds j true) a' w' (zgu hcl hj) hfree' (ready_mono hr (Ne.symm hji)) h3.1 (h3.2.1 hjL) ?_⟩) h2;rw [Array.setIfInBounds_comm _ _ hji];exact h3.2.2
theorem zaa {i:Nat} {oi:Oper} {v:Value} {fuel:Nat} {listed:Array Bool} {a:Act} {w:World} (n:Nat) (hi:ops[i]?=some oi)
 (hs:(Region.noSelect ops&&Region.free md ops listed i&&(Region.ready md ops listed).contains i&&!(L==i)&&depB md ops n L i&&zdV md ops listed)=true)
 (hQ:∀ c a w,Q (.panic c) (a.put oi.dst v) w→Q (.panic c) a w) (hy:YieldsIf P ops S oi v a) (hS:S w)
 (h:zbt P md ops Q S L fuel (listed.setIfInBounds i true) (a.put oi.dst v) w):zbt P md ops Q S L (fuel+1) listed a w:=by
 simp only [Bool.and_eq_true,Bool.not_eq_true',beq_eq_false_iff_ne] at hs
 obtain ⟨⟨⟨⟨⟨h1,h2⟩,h3⟩,h4⟩,h5⟩,h6⟩:=hs;exact zfG hi (Region.noSelect_spec h1) hQ h4 h5 fuel listed a w (zh7 h6) (Region.free_spec hi h2) (by simpa using h3) hy hS h
theorem zjc (i:Nat) {oi:Oper} {v:Value} {fuel:Nat} {listed:Array Bool} {a:Act} {w:World} (hi:ops[i]?=some oi) (hy:∀ w,S w→(execOp a.eval oi).run P w=.ok (.value v) w) (h:zbt P md ops Q S L fuel (listed.setIfInBounds i true) (a.put oi.dst v) w) (hs:(Region.noSelect ops && Region.free md ops listed i && (Region.ready md ops listed).contains i && !(L==i) && depB md ops 16 L i && zdV md ops listed)=true:=by kernel_rfl) (hQ:∀ c a w,Q (.panic c) (a.put oi.dst v) w→Q (.panic c) a w:=by exact fun _ _ _ h=>h) (hw:Region.wanted oi (yielded ops a.tmps)=true:=by first | rfl | kernel_rfl) (hS:S w:=by assumption):zbt P md ops Q S L (fuel+1) listed a w:=zaa 16 hi hs hQ (Or.inl ⟨hw,hy⟩) hS h
theorem zjd (i:Nat) {oi:Oper} {v:Value} {fuel:Nat} {listed:Array Bool} {a:Act} {w:World} (hi:ops[i]?=some oi) (h:zbt P md ops Q S L fuel (listed.setIfInBounds i true) (a.put oi.dst v) w) (hy:∀ w,S w→(execOp a.eval oi).run P w=.ok (.value v) w:=by intro w' hSw;(try dsimp only at hSw);(repeat (have _q:=And.left hSw;replace hSw:=And.right hSw));go_simp;try with_reducible rfl) (hs:(Region.noSelect ops && Region.free md ops listed i && (Region.ready md ops listed).contains i && !(L==i) && depB md ops 16 L i && zdV md ops listed)=true:=by kernel_rfl) (hQ:∀ c a w,Q (.panic c) (a.put oi.dst v) w→Q (.panic c) a w:=by exact fun _ _ _ h=>h) (hw:Region.wanted oi (yielded ops a.tmps)=true:=by first | kernel_rfl | rfl) (hS:S w:=by assumption):zbt P md ops Q S L (fuel+1) listed a w:=zaa 16 hi hs hQ (Or.inl ⟨hw,hy⟩) hS h
theorem zam {i:Nat} {o:Oper} {fuel:Nat} {listed:Array Bool} {a:Act} {w:World} (ho:ops[i]?=some o) (hr:Region.ready md ops listed=[i])
 (h:∀ K':Act→World→Prop,Shut (∀ a w,S w→(S w→zbt P md ops Q S L fuel (listed.setIfInBounds i true) a w)→K' a w)→if Region.wanted o (yielded ops a.tmps)=true then Oper.wp P o a w K' Q else K' (a.put o.dst undef) w):zbt P md ops Q S L (fuel+1) listed a w:=by
 refine ⟨fun h0=>(by rw [hr] at h0;cases h0),fun j hj=>?_⟩;rw [hr] at hj
 obtain rfl:j=i:=by simpa using hj
 exact wpOp_step ho (fun K' hK=>h K' (fun a w hS hW=>hK a w ⟨fun _=>hS,hW hS⟩))
theorem zbk {o:Oper} {fuel:Nat} {listed:Array Bool} {a:Act} {w:World} (ho:ops[L]?=some o) (hr:Region.ready md ops listed=[L])
 (h:∀ K':Act→World→Prop,Shut (∀ a w,zbt P md ops Q S L fuel (listed.setIfInBounds L true) a w→K' a w)→if Region.wanted o (yielded ops a.tmps)=true then Oper.wp P o a w K' Q else K' (a.put o.dst undef) w):zbt P md ops Q S L (fuel+1) listed a w:=by
 refine ⟨fun h0=>(by rw [hr] at h0;cases h0),fun j hj=>?_⟩;rw [hr] at hj
 obtain rfl:j=L:=by simpa using hj
 exact wpOp_step ho (fun K' hK=>h K' (fun a w hW=>hK a w ⟨fun hn=>absurd rfl hn,hW⟩))
theorem zbl {listed:Array Bool} {a:Act} {w:World} (hr:Region.ready md ops listed=[]) (h:Q .normal a w):∀ fuel,zbt P md ops Q S L fuel listed a w
 | 0=>⟨hr,h⟩
 | _+1=>⟨fun _=>h,by rw [hr];simp⟩
theorem zbb {id:Nat} {a:Act} {w:World} (L:Nat) (S:World→Prop) (hm:P.follows .mixedOrders=true) (hS:S w.drew)
 (h:S w.drew→zbt P .any ops Q S L ops.size (Array.replicate ops.size false) a w.drew):(Code.region id ops true).wp P Q a w:=
 wp_region_any hm (zey _ _ _ _ (h hS))
end
end Go.Proofs.YtonemlgejkapbaaGreat
namespace Go.Proofs.YtonemlgejkapbaaGreat
open Go.RowKit F256
theorem zdW {w:World} (b:Nat) (cs:Array Value):ChgL [b] w (w.setRow b cs):=
 ⟨rfl,rfl,rfl,by simp,fun k _ hn=>setRow_other w b k cs (fun h=>hn (by simp [h]))⟩
theorem zaP {ops:Array Oper} {rest:List Oper} {o:Oper} {a:Act} {w:World} {Q:Exit→Act→World→Prop} (T:TypeId) (x y:Operand) (ho:o.op=.store T x y) (hgd:o.guard=none) (b:Nat) (hx:a.eval x=.pointer (some ⟨b,0,none⟩)) {cs old:List Value} (hy:a.eval y=.agg cs.toArray) (hB:Box w b old.toArray T) {n:Nat} (hi:(Tryz.prog.info? T).map (·.size)=some n) (hl:cs.length=n) (hol:old.length=n) (h1:∀ v,v∈cs→v.oneCell'=true)
 (h:∀ w',Box w' b cs.toArray T→ChgL [b] w w'→w'.heap.size=w.heap.size→wpList Tryz.prog ops Q rest (a.put o.dst undef) w'):wpList Tryz.prog ops Q (o::rest) a w:=by
 refine wpList_store_row hgd T x y ho b cs.toArray hx hy T old.toArray hB (by rw [hi];simp [hl]) (by simp [hl,hol]) (by simp;exact h1) ?_;exact h _ (setRow_heap w b _ cs.toArray T (0,0) hB) (zdW b _) (by simp)
theorem zbL {fn:Func} {R:Ending→World→Prop} {a:Act} {w:World} {p:Tmp} {ty:TypeId} (h:fn.results=#[.cell p ty]) {b:Nat} {cs:List Value} (hp:a.tmps.getD p undef=.pointer (some ⟨b,0,none⟩)) (hB:Box w b cs.toArray ty) {fs:Array Field} (hu:Tryz.prog.underlying ty=some (.struct fs)) {n:Nat} (hi:(Tryz.prog.info? ty).map (·.size)=some n) (hl:cs.length=n) (hd:a.defers=[]) (hR:R (.returned (.agg cs.toArray)) w):bodyPost Tryz.prog fn R .ret a w:=
 bodyPost_ret (results_cell_row h a.tmps w b ty cs.toArray (0,0) (.struct fs) hp hB hu rfl (by rw [hi];simp [hl])) hd hR
theorem zg5 {w:World} {hi:Nat} {d:WorldResultD} {cs:List Value} (h:zaj.rd w hi d cs):∃ vc v0 v1 v2 v3 v4 v5 v6 v7 v8 vp0 vl0 vq0 vp1 vl1 vq1 vp2 vl2 vq2 v9 v10 vb,cs=[.int .i64 vc,.int .i64 v0,.int .i64 v1,.int .i64 v2,.int .i64 v3,.int .i64 v4,.int .i64 v5,.int .i64 v6,.int .i64 v7,.int .i64 v8,.slice vp0 vl0 vq0,.slice vp1 vl1 vq1,.slice vp2 vl2 vq2,.int .i64 v9,.int .i64 v10,.bool vb]:=by
 obtain ⟨p1,pc1,p2,pc2,p3,pc3,rfl,-⟩:=zbO h;exact ⟨_,_,_,_,_,_,_,_,_,_,_,_,_,_,_,_,_,_,_,_,_,_,rfl⟩
theorem zbV (x:Int) (hx:-9223372036854775808≤x∧x≤9223372036854775807) (w:World):∀ v,v∈([.int .i64 x,.int .i64 0,.int .i64 0,.int .i64 0,.int .i64 0,.int .i64 0,.int .i64 0,.int .i64 0,.int .i64 0,.int .i64 0,.slice none 0 0,.slice none 0 0,.slice none 0 0,.int .i64 0,.int .i64 0,.bool false]:List Value)→v.oneCell'=true:=(zdT w x hx 0 0).one
theorem OwnT.chgk {α:Type} {A:Lay α} {w w':World} {lo hi:Nat} {a:α} {cs:List Value} {K:List Nat} (h:OwnT A w lo hi a cs) (hc:ChgL K w w') (hK:∀ b,b∈K→b<lo∨hi≤b):OwnT A w' lo hi a cs:=by
 obtain ⟨M,h1,h2,h3⟩:=h;exact ⟨M,A.own_kept h1 (fun b hb=>hc.block b (A.own_lt h1 b hb) (fun hh=>by have:=hK b hh;have:=h3 b hb;omega)),h2,h3⟩
end Go.Proofs.YtonemlgejkapbaaGreat
namespace Go.Proofs.YtonemlgejkapbaaGreat
open Go.RowKit
section
variable {ops:Array Oper} {Q:Exit→Act→World→Prop} {md:Region.Mode} {S:World→Prop} {L:Nat}
theorem zbu {o:Oper} {a:Act} (T:TypeId) (x:Operand) (ho:o.op=.load T x) (hg:o.guard=none) (b:Nat) (hx:a.eval x=.pointer (some ⟨b,0,none⟩)) {cs:List Value} (hB:∀ w,S w→Box w b cs.toArray T) {fs:Array Field} (hu:Tryz.prog.underlying T=some (.struct fs)) {n:Nat} (hi:(Tryz.prog.info? T).map (·.size)=some n) (hl:cs.length=n):YieldsIf Tryz.prog ops S o (.agg cs.toArray) a:=by
 refine .inl ⟨by simp [Region.wanted,hg],fun w hS=>?_⟩;unfold execOp
 simp only [ho,hx,Instr.loadAt,Instr.sureAddr,Sem.run_bind,Sem.run_pure,Result.andThen_ok,run_loadVar_row w b T T cs.toArray (0,0) (.struct fs) (hB w hS) hu rfl (by rw [hi];simp [hl])]
theorem zbY {i j:Nat} {oi oj:Oper} {fuel:Nat} {listed:Array Bool} {a:Act} {w:World} (hi:ops[i]?=some oi) (hj:ops[j]?=some oj) (hr:Region.ready md ops listed=[i,j]) (hL:i≠L∧j≠L)
 (h1:∀ K':Act→World→Prop,Shut (∀ a w,S w→(S w→zbt Tryz.prog md ops Q S L fuel (listed.setIfInBounds i true) a w)→K' a w)→if Region.wanted oi (yielded ops a.tmps)=true then Oper.wp Tryz.prog oi a w K' Q else K' (a.put oi.dst undef) w)
 (h2:∀ K':Act→World→Prop,Shut (∀ a w,S w→(S w→zbt Tryz.prog md ops Q S L fuel (listed.setIfInBounds j true) a w)→K' a w)→if Region.wanted oj (yielded ops a.tmps)=true then Oper.wp Tryz.prog oj a w K' Q else K' (a.put oj.dst undef) w):zbt Tryz.prog md ops Q S L (fuel+1) listed a w:=by
 refine ⟨fun h0=>(by rw [hr] at h0;cases h0),fun k hk=>?_⟩;rw [hr] at hk
 simp only [List.mem_cons,List.not_mem_nil,or_false] at hk
 rcases hk with rfl | rfl
 ·exact wpOp_step hi (fun K' hK=>h1 K' (fun a w hS hW=>hK a w ⟨fun _=>hS,hW hS⟩))
 ·exact wpOp_step hj (fun K' hK=>h2 K' (fun a w hS hW=>hK a w ⟨fun _=>hS,hW hS⟩))
theorem zbv {o:Oper} {a:Act} {w:World} {K:Act→World→Prop} {F:Prop} (hg:o.guard=none) (T:TypeId) (hop:o.op=Op.alloc T) {zs:Array Value} {n:Nat} (hi:(Tryz.prog.info? T).map (fun i=>(i.zero.map (·.cells),i.size))=some (some zs,n))
 (hK:K (a.put o.dst (.pointer (some ⟨w.heap.size,0,none⟩))) (w.alloc (.cells zs T))):if Region.wanted o (yielded ops a.tmps)=true then Oper.wp Tryz.prog o a w K Q else F:=by
 have hw:Region.wanted o (yielded ops a.tmps)=true:=by simp [Region.wanted,hg]
 rw [if_pos hw]
 obtain ⟨i0,hi0⟩:∃ i0,Tryz.prog.info? T=some i0:=by
  cases h:Tryz.prog.info? T with
  | none=>rw [h] at hi;cases hi
  | some i0=>exact ⟨i0,rfl⟩
 rw [hi0] at hi
 simp only [Option.map_some,Option.some.injEq,Prod.mk.injEq] at hi
 obtain ⟨h2,h3⟩:=hi
 obtain ⟨z,hzz,hzc⟩:∃ z,i0.zero=some z∧z.cells=zs:=by
  cases h:i0.zero with
  | none=>rw [h] at h2;cases h2
  | some z=>rw [h] at h2;exact ⟨z,rfl,by simpa using h2⟩
 have hr:(Instr.alloc T true (.tuple #[])).run Tryz.prog w=.ok (.pointer (some ⟨w.heap.size,0,none⟩)) (w.alloc (.cells zs T)):=by
  simp [Instr.alloc,zeroValue,typeInfo,hi0,hzz,hzc,newVar,newRow]
 unfold Oper.wp execOp
 simp only [hop,Sem.run_bind,hr,Result.andThen_ok]
 exact hK
theorem zeT {o:Oper} {a:Act} {w:World} {K:Act→World→Prop} {F:Prop} (hg:o.guard=none) (T:TypeId) (x y:Operand) (ho:o.op=.store T x y) (b:Nat) (hx:a.eval x=.pointer (some ⟨b,0,none⟩)) {cs old:List Value} (hy:a.eval y=.agg cs.toArray) (hB:Box w b old.toArray T) {n:Nat} (hi:(Tryz.prog.info? T).map (·.size)=some n) (hl:cs.length=n) (hol:old.length=n) (h1:∀ v,v∈cs→v.oneCell'=true)
 (h:∀ w',Box w' b cs.toArray T→ChgL [b] w w'→w'.heap.size=w.heap.size→K (a.put o.dst undef) w'):if Region.wanted o (yielded ops a.tmps)=true then Oper.wp Tryz.prog o a w K Q else F:=by
 have hw:Region.wanted o (yielded ops a.tmps)=true:=by simp [Region.wanted,hg]
 rw [if_pos hw];refine wp_store_row T x y ho b cs.toArray hx hy T old.toArray hB (by rw [hi];simp [hl]) (by simp [hl,hol]) (by simp;exact h1) ?_;exact h _ (setRow_heap w b _ cs.toArray T (0,0) hB) (zdW b _) (by simp)
theorem za8 {o:Oper} {fuel:Nat} {listed:Array Bool} {a:Act} {w:World} (ho:ops[L]?=some o) (hr:Region.ready md ops listed=[L]) (hr2:Region.ready md ops (listed.setIfInBounds L true)=[]) (hg:o.guard=none) (hd:o.dst=none) (T:TypeId) (x y:Operand) (hop:o.op=.store T x y) (b:Nat) (hx:a.eval x=.pointer (some ⟨b,0,none⟩)) {cs old:List Value} (hy:a.eval y=.agg cs.toArray) (hB:Box w b old.toArray T) {n:Nat} (hi:(Tryz.prog.info? T).map (·.size)=some n) (hl:cs.length=n) (hol:old.length=n) (h1:∀ v,v∈cs→v.oneCell'=true)
 (h:∀ w',Box w' b cs.toArray T→ChgL [b] w w'→w'.heap.size=w.heap.size→Q .normal a w'):zbt Tryz.prog md ops Q S L (fuel+1) listed a w:=by
 refine zbk ho hr (fun KC hKC=>?_);refine zeT hg T x y hop b hx hy hB hi hl hol h1 (fun w' X C z=>?_)
 have e:a.put o.dst undef=a:=by rw [hd];rfl
 rw [e];exact hKC _ _ (zbl hr2 (h w' X C z) _)
end
theorem zcP (w:World):Below w.heap.size w w.drew:=⟨rfl,rfl,rfl,Nat.le_refl _,fun _ _=>rfl⟩
end Go.Proofs.YtonemlgejkapbaaGreat
namespace Go.Proofs.YtonemlgejkapbaaGreat
open Go.RowKit F256
set_option maxRecDepth 20000 in
theorem zcj (d:WorldD) (hs:zaq d.shape) (cs:List Value) (hi:Nat) (w:World) (h:zae.rd w hi d cs) (hhi:hi≤w.heap.size) :
 Calls Tryz.prog 105 #[.agg cs.toArray] w (zbK (zcs d) w):=by
 obtain ⟨ao1,cap1,ao2,cap2,ao3,cap3,rfl,g1,-⟩:=zaR h;clear h;obtain ⟨_,_,e1,hm1,hc1⟩:=g1
 cases e1
 unfold maxLen at hm1;have HC1:=hid hc1;have HS:=hid hs;clear hc1 hs
 go_enter Tryz.func105,Tryz.ntmps105
 go_upto_region 2 with fail
 have T0:=zay w (rwW d ao1 cap1 ao2 cap2 ao3 cap3).toArray (rwS d.shape).toArray 38 34;obtain ⟨W,hW⟩:∃ W,W=(w.alloc (.cells (rwW d ao1 cap1 ao2 cap2 ao3 cap3).toArray 38)).alloc (.cells (rwS d.shape).toArray 34):=⟨_,rfl⟩;rw [← hW] at T0 ⊢;have HT:=hid T0;clear hW;have x0_9:W.cell? ⟨w.heap.size,9,none⟩=some (.slice ao1 d.groups.1 cap1):=T0.b1.cell 9;have kx0_9:=cell_regrown x0_9;have y0_0:W.cell? ⟨w.heap.size+1,0,none⟩=some (.int .i64 (d.shape 0)):=T0.b2.cell 0;have ky0_0:=cell_regrown y0_0;have y0_1:W.cell? ⟨w.heap.size+1,1,none⟩=some (.int .i64 (d.shape 1)):=T0.b2.cell 1;have ky0_1:=cell_regrown y0_1;have y0_2:W.cell? ⟨w.heap.size+1,2,none⟩=some (.int .i64 (d.shape 2)):=T0.b2.cell 2;have ky0_2:=cell_regrown y0_2;have y0_3:W.cell? ⟨w.heap.size+1,3,none⟩=some (.int .i64 (d.shape 3)):=T0.b2.cell 3;have ky0_3:=cell_regrown y0_3;have y0_4:W.cell? ⟨w.heap.size+1,4,none⟩=some (.int .i64 (d.shape 4)):=T0.b2.cell 4;have ky0_4:=cell_regrown y0_4;have y0_5:W.cell? ⟨w.heap.size+1,5,none⟩=some (.int .i64 (d.shape 5)):=T0.b2.cell 5;have ky0_5:=cell_regrown y0_5;have y0_6:W.cell? ⟨w.heap.size+1,6,none⟩=some (.int .i64 (d.shape 6)):=T0.b2.cell 6;have ky0_6:=cell_regrown y0_6;have y0_7:W.cell? ⟨w.heap.size+1,7,none⟩=some (.int .i64 (d.shape 7)):=T0.b2.cell 7;have ky0_7:=cell_regrown y0_7;have y0_8:W.cell? ⟨w.heap.size+1,8,none⟩=some (.int .i64 (d.shape 8)):=T0.b2.cell 8
 have ky0_8:=cell_regrown y0_8;clear T0;have cA:=zaE (W:=W) (fun w' _=>zbS d.shape HS.out w');unfold zak at cA
 by_cases hlen:(d.groups.1:Int)=d.shape 0+d.shape 1
 ·have hne:((d.groups.1:Int) != d.shape 0+d.shape 1)=false:=by simpa using hlen
  have HLEN:=hid hlen;clear hlen;refine WQ.region (by kernel_rfl) (by kernel_rfl) ?_
  repeat (first | (apply WQ.skip;(case hw=>rfl);intro K hK;go_simp;apply hK;clear hK K) | (apply WQ.want;(case hw=>rfl);intro K hK;go_simp;first | (apply hK;clear hK K) | (apply Exists.intro;apply And.intro;(case left=>intro p;(first | (go_at_call 67;exact cA _ _)));apply hK;clear hK K)))
  refine WQ.nil ?_;intro w1 hw1;have HT1:=hid (HT.out.call (zaO hw1));clear hw1 cA x0_9 kx0_9 y0_0 ky0_0 y0_1 ky0_1 y0_2 ky0_2 y0_3 ky0_3 y0_4 ky0_4 y0_5 ky0_5 y0_6 ky0_6 y0_7 ky0_7 y0_8 ky0_8;go_wp2
  go_loopw [4] (fun i wr=>∃ k:Nat,k≤d.groups.1∧i=.int .i64 k∧(∀ i,i<k→zeM d.shape (d.groups.2 i))∧Two w wr (rwW d ao1 cap1 ao2 cap2 ao3 cap3).toArray (rwS d.shape).toArray 38 34) (fun i _=>d.groups.1-(intOf i).toNat)
  case atStart=>exact ⟨0,Nat.zero_le _,rfl,fun i hi=>by omega,HT1.out⟩
  case round=>
   clear HT1;obtain ⟨k,hk,rfl,hal,T2⟩:=hrel;obtain ⟨wo,rfl⟩:∃ x,x=wr:=⟨_,rfl⟩;have HAL:=hid hal;have HT2:=hid T2;clear hal;have x2_9:wo.cell? ⟨w.heap.size,9,none⟩=some (.slice ao1 d.groups.1 cap1):=T2.b1.cell 9;have kx2_9:=cell_regrown x2_9;have y2_0:wo.cell? ⟨w.heap.size+1,0,none⟩=some (.int .i64 (d.shape 0)):=T2.b2.cell 0;have ky2_0:=cell_regrown y2_0;have y2_1:wo.cell? ⟨w.heap.size+1,1,none⟩=some (.int .i64 (d.shape 1)):=T2.b2.cell 1;have ky2_1:=cell_regrown y2_1;have y2_2:wo.cell? ⟨w.heap.size+1,2,none⟩=some (.int .i64 (d.shape 2)):=T2.b2.cell 2;have ky2_2:=cell_regrown y2_2;have y2_3:wo.cell? ⟨w.heap.size+1,3,none⟩=some (.int .i64 (d.shape 3)):=T2.b2.cell 3;have ky2_3:=cell_regrown y2_3;have y2_4:wo.cell? ⟨w.heap.size+1,4,none⟩=some (.int .i64 (d.shape 4)):=T2.b2.cell 4;have ky2_4:=cell_regrown y2_4;have y2_5:wo.cell? ⟨w.heap.size+1,5,none⟩=some (.int .i64 (d.shape 5)):=T2.b2.cell 5;have ky2_5:=cell_regrown y2_5;have y2_6:wo.cell? ⟨w.heap.size+1,6,none⟩=some (.int .i64 (d.shape 6)):=T2.b2.cell 6;have ky2_6:=cell_regrown y2_6;have y2_7:wo.cell? ⟨w.heap.size+1,7,none⟩=some (.int .i64 (d.shape 7)):=T2.b2.cell 7;have ky2_7:=cell_regrown y2_7;have y2_8:wo.cell? ⟨w.heap.size+1,8,none⟩=some (.int .i64 (d.shape 8)):=T2.b2.cell 8;have ky2_8:=cell_regrown y2_8
   by_cases hlt:k<d.groups.1
   ·obtain ⟨b1,off1,he1,hb1,hel1⟩:=HC1.out (by omega)
    subst he1;have HEL:=hid hel1;obtain ⟨ck,hrk,hcell⟩:=zas (t:=0) hel1 T2.bel hhi hb1 hlt;obtain ⟨ao9,cap9,rfl⟩:=zbq hrk
    have c0:wo.cell? ⟨b1,off1+k,none⟩=some (.slice ao9 (d.groups.2 k).1 cap9):=by
     have h:=hcell 0 (show 0<1 by decide);rw [show (zab.slice 75).sz=1 from rfl,Nat.mul_one,Nat.add_zero] at h;exact h
    have kc0:=cell_regrown c0;obtain ⟨_,_,e9,hm9,hc9⟩:=hrk
    cases e9
    have HC9:=hid hc9;unfold maxLen at hm9;have cD:=zaE (W:=wo) (fun w' _=>zfD d.shape HS.out w');unfold zak at cD;have zw:w.heap.size+1<wo.heap.size:=T2.b2.lt;clear hcell hc9 hel1 T2
    by_cases hlen2:((d.groups.2 k).1:Int)=d.shape 2+d.shape 3
    ·have hne2:((
      (d.groups.2 k).1:Int) != d.shape 2+d.shape 3)=false:=by simpa using hlen2
     have HL2:=hid hlen2;clear hlen2;go_wp2;refine WQ.region (by kernel_rfl) (by kernel_rfl) ?_
     repeat (first | (apply WQ.skip;(case hw=>rfl);intro K hK;go_simp;apply hK;clear hK K) | (apply WQ.want;(case hw=>rfl);intro K hK;go_simp;first | (apply hK;clear hK K) | (apply Exists.intro;apply And.intro;(case left=>intro p;(first | (go_at_call 68;exact cD _ _)));apply hK;clear hK K)))
     refine WQ.nil ?_;intro w3 hw3;have HT3:=hid (HT2.out.call (zaO hw3));have HB3:=hid (zaO hw3);have HC0:=hid c0;clear hw3 cD c0 kc0 x2_9 kx2_9 y2_0 ky2_0 y2_1 ky2_1 y2_2 ky2_2 y2_3 ky2_3 y2_4 ky2_4 y2_5 ky2_5 y2_6 ky2_6 y2_7 ky2_7 y2_8 ky2_8;go_wp2
     go_loopw [5] (fun i wx=>∃ q:Nat,q≤(d.groups.2 k).1∧i=.int .i64 q∧(∀ i,i<q→zdP d.shape ((d.groups.2 k).2 i).blocks)∧Two w wx (rwW d (some ⟨b1,off1,none⟩) cap1 ao2 cap2 ao3 cap3).toArray (rwS d.shape).toArray 38 34∧Below wo.heap.size wo wx) (fun i _=>(d.groups.2 k).1-(intOf i).toNat)
     case atStart=>exact ⟨0,Nat.zero_le _,rfl,fun i hi=>by omega,HT3.out,HB3.out⟩
     case round=>
      clear HT3 HB3;obtain ⟨q,hq,rfl,hal2,T4,hb4⟩:=hrel;obtain ⟨wx,rfl⟩:∃ x,x=wr:=⟨_,rfl⟩;have HAL2:=hid hal2;have HT4:=hid T4;have HB4:=hid hb4;clear hal2;have x4_9:wx.cell? ⟨w.heap.size,9,none⟩=some (.slice (some ⟨b1,off1,none⟩) d.groups.1 cap1):=T4.b1.cell 9;have y4_4:wx.cell? ⟨w.heap.size+1,4,none⟩=some (.int .i64 (d.shape 4)):=T4.b2.cell 4;have c4:wx.cell? ⟨b1,off1+k,none⟩=some (.slice ao9 (d.groups.2 k).1 cap9):=(hb4.cell (p:=⟨b1,off1+k,none⟩) (by show b1<wo.heap.size;omega)).trans HC0.out
      by_cases hlq:q<(d.groups.2 k).1
      ·obtain ⟨b9,off9,he9,hb9,hel9⟩:=HC9.out (by omega)
       subst he9;obtain ⟨cq,hrq,hcq⟩:=zas (t:=0) hel9 hb4 (by omega) hb9 hlq;obtain ⟨ao5,cap5,rfl,g5⟩:=zbh hrq;have c5:wx.cell? ⟨b9,off9+q*2+1,none⟩=some (.slice ao5 ((d.groups.2 k).2 q).blocks.1 cap5):=hcq 1 (by decide);obtain ⟨_,_,e5,hm5,hc5⟩:=g5
       cases e5
       have HC5:=hid hc5;unfold maxLen at hm5;obtain ⟨p,hp⟩:∃ p,p=((d.groups.2 k).2 q).blocks:=⟨_,rfl⟩;rw [← hp] at c5 hm5 HC5;have HP:=hid hp;clear hel9 hcq hc5 hrq T4 hb4 hp
       by_cases hl3:(p.1:Int)=d.shape 4
       ·have hne3:((p.1:Int) != d.shape 4)=false:=by simpa using hl3
        have HL3:=hid hl3;clear hl3;go_wp2
        go_loop [7] (fun i=>∃ z:Nat,z≤p.1∧i=.int .i64 z∧∀ i,i<z→zcS (p.2 i)) (fun i=>p.1-(intOf i).toNat)
        case atStart=>exact ⟨0,Nat.zero_le _,rfl,fun i hi=>by omega⟩
        case round=>
         obtain ⟨z,hz,rfl,hal3⟩:=hrel;have HAL3:=hid hal3;clear hal3
         by_cases hlz:z<p.1
         ·obtain ⟨b5,off5,he5,hb5,hel5⟩:=HC5.out (by omega)
          subst he5;obtain ⟨cz,hrz,hcz⟩:=hel5 z hlz;obtain ⟨ao0,cap0,rfl,-⟩:=zba hrz;have s0:wx.cell? ⟨b5,off5+z*2,none⟩=some (.int .i64 (p.2 z).stamp):=hcz 0 (by decide);have s1:wx.cell? ⟨b5,off5+z*2+1,none⟩=some (.slice ao0 (p.2 z).bytes.1 cap0):=hcz 1 (by decide);obtain ⟨t1,h1⟩:=exB (InP (p.2 z).stamp 0 1000000000);have C1:=fun w'=>zb6 (w:=w') h1;obtain ⟨b2',h2⟩:∃ b,(((p.2 z).bytes.1:Int) != 4)=b:=⟨_,rfl⟩
          have HE:Hid (zcS (p.2 z)↔(t1=true∧b2'=false)):=by
           show zcS (p.2 z)↔_
           rw [h1,← h2];unfold zcS
           simp
           intro _;omega
          clear hel5 hcz hrz h1
          go_wp2_with fail
          refine (C1 _).mono ?_;rintro e w' ⟨rfl,hw'⟩;obtain rfl:=hw'.symm;clear C1
          cases t1 with
          | false=>
           go_wp2;go_ret
           exact zat rfl (fun h=>by
            have hb:=((h.2 k hlt).2 q hlq).2 z (by rw [← HP.out];exact hlz);rw [← HP.out] at hb;have:=HE.out.1 hb
            simp at this) HT4.out.bel
          | true=>
           cases b2' with
           | true=>
            go_wp2;go_ret
            exact zat rfl (fun h=>by
             have hb:=((h.2 k hlt).2 q hlq).2 z (by rw [← HP.out];exact hlz);rw [← HP.out] at hb;have:=HE.out.1 hb
             simp at this) HT4.out.bel
           | false=>
            go_wp2
            go_round
            case rel=>exact ⟨z+1,by omega,by go_num,fun i hi=>by
             by_cases c:i=z
             ·subst c;exact HE.out.2 (by simp)
             ·exact HAL3.out i (by omega)⟩
            case measure=>simp [intOf];omega
         ·obtain rfl:z=p.1:=by omega
          go_wp2
          go_roundw
          case rel=>exact ⟨q+1,by omega,by go_num,fun i hi=>by
           by_cases c:i=q
           ·subst c
            rw [← HP.out];exact ⟨HL3.out,HAL3.out⟩
           ·exact HAL2.out i (by omega),HT4.out,HB4.out⟩
          case measure=>simp [intOf];omega
       ·have hne3:((p.1:Int) != d.shape 4)=true:=by simpa using hl3
        have HN3:=hid hl3;clear hl3;go_wp2;go_ret;exact zat rfl (fun h=>HN3.out (by rw [HP.out];exact ((h.2 k hlt).2 q hlq).1)) HT4.out.bel
      ·obtain rfl:q=(d.groups.2 k).1:=by omega
       clear T4 hb4;go_wp2
       go_roundw
       case rel=>exact ⟨k+1,by omega,by go_num,fun i hi=>by
        by_cases c:i=k
        ·subst c
         exact ⟨HL2.out,HAL2.out⟩
        ·exact HAL.out i (by omega),HT4.out⟩
       case measure=>simp [intOf];omega
    ·have hne2:(((d.groups.2 k).1:Int) != d.shape 2+d.shape 3)=true:=by simpa using hlen2
     have HN2:=hid hlen2;clear hlen2;go_wp2;refine WQ.region (by kernel_rfl) (by kernel_rfl) ?_
     repeat (first | (apply WQ.skip;(case hw=>rfl);intro K hK;go_simp;apply hK;clear hK K) | (apply WQ.want;(case hw=>rfl);intro K hK;go_simp;first | (apply hK;clear hK K) | (apply Exists.intro;apply And.intro;(case left=>intro p;(first | (go_at_call 68;exact cD _ _)));apply hK;clear hK K)))
     refine WQ.nil ?_;intro w3 hw3;have HB3:Hid (Below w.heap.size w w3):=(HT2.out.call (zaO hw3)).bel;clear hw3 cD c0 kc0;go_wp2;go_ret;exact zat rfl (fun h=>HN2.out (h.2 k hlt).1) HB3.out
   ·obtain rfl:k=d.groups.1:=by omega
    go_wp2;go_ret;exact zaI rfl ⟨HLEN.out,HAL.out⟩ HT2.out.bel
 ·have hne:((d.groups.1:Int) != d.shape 0+d.shape 1)=true:=by simpa using hlen
  have HN:=hid hlen;clear hlen;refine WQ.region (by kernel_rfl) (by kernel_rfl) ?_
  repeat (first | (apply WQ.skip;(case hw=>rfl);intro K hK;go_simp;apply hK;clear hK K) | (apply WQ.want;(case hw=>rfl);intro K hK;go_simp;first | (apply hK;clear hK K) | (apply Exists.intro;apply And.intro;(case left=>intro p;(first | (go_at_call 67;exact cA _ _)));apply hK;clear hK K)))
  refine WQ.nil ?_;intro w1 hw1;have HB1:Hid (Below w.heap.size w w1):=(HT.out.call (zaO hw1)).bel;clear hw1;go_wp2;go_ret;exact zat rfl (fun h=>HN.out h.1) HB1.out
set_option maxRecDepth 20000 in
theorem zgv (d:WorldD) (cs:List Value) (hi:Nat) (w:World) (h:zae.rd w hi d cs) (hhi:hi≤w.heap.size) (hnm:∀ t,t<d.tapes.1→∀ i,i<(d.tapes.2 t).recs.1→((d.tapes.2 t).recs.2 i).name.size≤1048576) (hok':zaq d.shape) (hsel:¬ (zcs d∧zbR d.on.1 d.on.2 (d.shape 0+d.shape 1-1))) :
 Calls Tryz.prog 66 #[.agg cs.toArray] w (zcE d w):=by
 obtain ⟨ao1,cap1,ao2,cap2,ao3,cap3,rfl,g1,g2,g3,-⟩:=zaR h;have HRD:=hid h;obtain ⟨v2,e2,⟨h2,hcp2⟩,_⟩:=g2
 cases e2
 have H2:=hid h2;have HCP:=hid hcp2;have hm2:=h2.mx;obtain ⟨_,_,e3,hm3,hc3⟩:=g3
 cases e3
 unfold maxLen at hm2 hm3;have HC3:=hid hc3;have HNM:=hid hnm;clear h h2 hcp2 hc3 g1 hnm;have T0:=zaQ w (rwW d ao1 cap1 ao2 cap2 ao3 cap3).toArray 38;have CSh:=fun w'=>zbm d.shape w';unfold zak at CSh
 go_enter Tryz.func66,Tryz.ntmps66
 go_wp2_with fail
 refine (CSh _).mono ?_;rintro e w1 ⟨x,rfl,hx,b1⟩;have T1:One w w1 (rwW d ao1 cap1 ao2 cap2 ao3 cap3).toArray 38:=T0.call b1;have HT1:=hid T1;clear b1 T0 CSh;have x1_0:w1.cell? ⟨w.heap.size,0,none⟩=some (.int .i64 (d.shape 0)):=T1.b1.cell 0;have kx1_0:=cell_regrown x1_0;have x1_1:w1.cell? ⟨w.heap.size,1,none⟩=some (.int .i64 (d.shape 1)):=T1.b1.cell 1;have kx1_1:=cell_regrown x1_1;have x1_2:w1.cell? ⟨w.heap.size,2,none⟩=some (.int .i64 (d.shape 2)):=T1.b1.cell 2;have kx1_2:=cell_regrown x1_2;have x1_3:w1.cell? ⟨w.heap.size,3,none⟩=some (.int .i64 (d.shape 3)):=T1.b1.cell 3;have kx1_3:=cell_regrown x1_3;have x1_4:w1.cell? ⟨w.heap.size,4,none⟩=some (.int .i64 (d.shape 4)):=T1.b1.cell 4;have kx1_4:=cell_regrown x1_4;have x1_5:w1.cell? ⟨w.heap.size,5,none⟩=some (.int .i64 (d.shape 5)):=T1.b1.cell 5;have kx1_5:=cell_regrown x1_5;have x1_6:w1.cell? ⟨w.heap.size,6,none⟩=some (.int .i64 (d.shape 6)):=T1.b1.cell 6;have kx1_6:=cell_regrown x1_6;have x1_7:w1.cell? ⟨w.heap.size,7,none⟩=some (.int .i64 (d.shape 7)):=T1.b1.cell 7;have kx1_7:=cell_regrown x1_7;have x1_8:w1.cell? ⟨w.heap.size,8,none⟩=some (.int .i64 (d.shape 8)):=T1.b1.cell 8;have kx1_8:=cell_regrown x1_8;have x1_9:w1.cell? ⟨w.heap.size,9,none⟩=some (.slice ao1 d.groups.1 cap1):=T1.b1.cell 9;have kx1_9:=cell_regrown x1_9;have x1_10:w1.cell? ⟨w.heap.size,10,none⟩=some (.slice ao2 d.on.1 cap2):=T1.b1.cell 10;have kx1_10:=cell_regrown x1_10;have x1_11:w1.cell? ⟨w.heap.size,11,none⟩=some (.slice ao3 d.tapes.1 cap3):=T1.b1.cell 11;have kx1_11:=cell_regrown x1_11;have x1_12:w1.cell? ⟨w.heap.size,12,none⟩=some (.int .i64 d.writes):=T1.b1.cell 12;have kx1_12:=cell_regrown x1_12;have x1_13:w1.cell? ⟨w.heap.size,13,none⟩=some (.int .i64 d.stop):=T1.b1.cell 13;have kx1_13:=cell_regrown x1_13;have x1_14:w1.cell? ⟨w.heap.size,14,none⟩=some (.bool d.down):=T1.b1.cell 14;have kx1_14:=cell_regrown x1_14;clear T1
 rcases hx with ⟨rfl,hno⟩ | ⟨rfl,hok⟩
 ·go_wp2
  go_ret;exact wldP rfl (Stair.fall hno) HT1.out.bel
 have HOK:=hid hok
 have hsb:1≤d.shape 0∧d.shape 0≤4∧0≤d.shape 1∧d.shape 1≤2:=by
  obtain ⟨h1,_⟩:=hok;unfold Shp3 at h1;omega
 clear hok;obtain ⟨t1,h1⟩:=exB (zcs d);obtain ⟨t2,h2⟩:=exB (zbR d.on.1 d.on.2 (d.shape 0+d.shape 1-1));obtain ⟨b3',h3⟩:∃ b,decide (d.shape 5<(d.on.1:Int))=b:=⟨_,rfl⟩;obtain ⟨g',h4⟩:∃ b,decide (0<d.on.1)=b:=⟨_,rfl⟩;obtain ⟨b5',h5⟩:∃ b,((d.tapes.1:Int) != 2)=b:=⟨_,rfl⟩;have c1:=zaE (W:=w1) (fun w' hw'=>zbF (zcj d HOK.out _ hi w' (zae.rd_below (zae.rd_below HRD.out HT1.out.bel hhi) hw' (Nat.le_trans hhi HT1.out.bel.size)) (Nat.le_trans hhi (Nat.le_trans HT1.out.bel.size hw'.size))) h1);have c2:=zaE (W:=w1) (fun w' hw'=>zbF (zb3 _ d.on.1 d.on.2 hi (d.shape 0+d.shape 1-1) w' ((H2.out.below HT1.out.bel hhi).below hw' (Nat.le_trans hhi HT1.out.bel.size)) HCP.out (Nat.le_trans hhi (Nat.le_trans HT1.out.bel.size hw'.size))) h2);have cA:=zaE (W:=w1) (fun w' _=>zbS d.shape HOK.out w');unfold zak at cA
 have wsA:IntKind.i64.wrap (d.shape 0+d.shape 1-1)=d.shape 0+d.shape 1-1:=by rw [IntKind.wrap_i64];omega
 have h4':decide (0<(d.on.1:Int))=g':=by rw [← h4];simp
 obtain ⟨dn,hdn⟩:∃ x,x=d.down:=⟨_,rfl⟩
 have HE:Hid (zcg d↔(t1=true∧t2=true∧b3'=false∧(dn=true→g'=false)∧b5'=false)):=by
  show zcg d↔_
  have e3:(decide (d.shape 5<(d.on.1:Int))=false)↔(d.on.1:Int)≤d.shape 5:=by simp
  have e4:(decide (0<d.on.1)=false)↔d.on.1=0:=by simp
  have e5:(((d.tapes.1:Int) != 2)=false)↔d.tapes.1=2:=by simp;omega
  rw [h1,h2,← h3,← h4,← h5,hdn,e3,e4,e5];unfold zcg OnP
  constructor
  ·rintro ⟨a,⟨b,c,e⟩,f⟩
   exact ⟨a,b,c,e,f⟩
  ·rintro ⟨a,b,c,e,f⟩
   exact ⟨a,⟨b,c,e⟩,f⟩
 have hst:t1=false∨(t1=true∧t2=false):=by
  clear HE c1 c2
  cases t1 with
  | false=>exact .inl rfl
  | true=>
   cases t2 with
   | false=>exact .inr ⟨rfl,rfl⟩
   | true=>exact absurd ⟨h1.1 rfl,h2.1 rfl⟩ hsel
 have HNF:Hid (¬ zcg d):=fun h=>by
  obtain ⟨a,⟨b,c,e⟩,f⟩:=h;exact hsel ⟨a,b⟩
 rw [← hdn] at x1_14 kx1_14 c1;clear h1 h2 hsel hok'
 go_upto_region 4 with fail
 clear hdn
 rcases hst with rfl | ⟨rfl,rfl⟩
 all_goals
  refine WQ.region (by kernel_rfl) (by kernel_rfl) ?_
  repeat (first | (apply WQ.free;(case hw=>rfl);intro K hK;go_simp;first | (apply hK;clear hK K) | (apply Exists.intro;apply And.intro;(case left=>intro p;(first | (go_at_call 105;exact c1 _ _) | (go_at_call 106;exact c2 _ _) | (go_at_call 67;exact cA _ _)));apply hK;clear hK K)) | (apply WQ.skip;(case hw=>rfl);intro K hK;go_simp;apply hK;clear hK K) | (apply WQ.want;(case hw=>rfl);intro K hK;go_simp;first | (apply hK;clear hK K) | (apply Exists.intro;apply And.intro;(case left=>intro p;(first | (go_at_call 105;exact c1 _ _) | (go_at_call 106;exact c2 _ _) | (go_at_call 67;exact cA _ _)));apply hK;clear hK K)))
  refine WQ.nil ?_;intro w2 hw2;have HB2:Hid (Below w.heap.size w w2):=(HT1.out.call (zaO hw2)).bel;clear hw2;go_wp2;go_ret;exact wldP rfl (Stair.pass HOK.out (Stair.fall HNF.out)) HB2.out
set_option maxRecDepth 20000 in
theorem zgw (d:WorldD) (cs:List Value) (hi:Nat) (w:World) (h:zae.rd w hi d cs) (hhi:hi≤w.heap.size) (hnm:∀ t,t<d.tapes.1→∀ i,i<(d.tapes.2 t).recs.1→((d.tapes.2 t).recs.2 i).name.size≤1048576) (hok':zaq d.shape) (hsel:zcs d∧zbR d.on.1 d.on.2 (d.shape 0+d.shape 1-1)∧¬ ((d.on.1:Int)≤d.shape 5∧(d.down=true→d.on.1=0))) :
 Calls Tryz.prog 66 #[.agg cs.toArray] w (zcE d w):=by
 obtain ⟨ao1,cap1,ao2,cap2,ao3,cap3,rfl,g1,g2,g3,-⟩:=zaR h;have HRD:=hid h;obtain ⟨v2,e2,⟨h2,hcp2⟩,_⟩:=g2
 cases e2
 have H2:=hid h2;have HCP:=hid hcp2;have hm2:=h2.mx;obtain ⟨_,_,e3,hm3,hc3⟩:=g3
 cases e3
 unfold maxLen at hm2 hm3;have HC3:=hid hc3;have HNM:=hid hnm;clear h h2 hcp2 hc3 g1 hnm;have T0:=zaQ w (rwW d ao1 cap1 ao2 cap2 ao3 cap3).toArray 38;have CSh:=fun w'=>zbm d.shape w';unfold zak at CSh
 go_enter Tryz.func66,Tryz.ntmps66
 go_wp2_with fail
 refine (CSh _).mono ?_;rintro e w1 ⟨x,rfl,hx,b1⟩;have T1:One w w1 (rwW d ao1 cap1 ao2 cap2 ao3 cap3).toArray 38:=T0.call b1;have HT1:=hid T1;clear b1 T0 CSh;have x1_0:w1.cell? ⟨w.heap.size,0,none⟩=some (.int .i64 (d.shape 0)):=T1.b1.cell 0;have kx1_0:=cell_regrown x1_0;have x1_1:w1.cell? ⟨w.heap.size,1,none⟩=some (.int .i64 (d.shape 1)):=T1.b1.cell 1;have kx1_1:=cell_regrown x1_1;have x1_2:w1.cell? ⟨w.heap.size,2,none⟩=some (.int .i64 (d.shape 2)):=T1.b1.cell 2;have kx1_2:=cell_regrown x1_2;have x1_3:w1.cell? ⟨w.heap.size,3,none⟩=some (.int .i64 (d.shape 3)):=T1.b1.cell 3;have kx1_3:=cell_regrown x1_3;have x1_4:w1.cell? ⟨w.heap.size,4,none⟩=some (.int .i64 (d.shape 4)):=T1.b1.cell 4;have kx1_4:=cell_regrown x1_4;have x1_5:w1.cell? ⟨w.heap.size,5,none⟩=some (.int .i64 (d.shape 5)):=T1.b1.cell 5;have kx1_5:=cell_regrown x1_5;have x1_6:w1.cell? ⟨w.heap.size,6,none⟩=some (.int .i64 (d.shape 6)):=T1.b1.cell 6;have kx1_6:=cell_regrown x1_6;have x1_7:w1.cell? ⟨w.heap.size,7,none⟩=some (.int .i64 (d.shape 7)):=T1.b1.cell 7;have kx1_7:=cell_regrown x1_7;have x1_8:w1.cell? ⟨w.heap.size,8,none⟩=some (.int .i64 (d.shape 8)):=T1.b1.cell 8;have kx1_8:=cell_regrown x1_8;have x1_9:w1.cell? ⟨w.heap.size,9,none⟩=some (.slice ao1 d.groups.1 cap1):=T1.b1.cell 9;have kx1_9:=cell_regrown x1_9;have x1_10:w1.cell? ⟨w.heap.size,10,none⟩=some (.slice ao2 d.on.1 cap2):=T1.b1.cell 10;have kx1_10:=cell_regrown x1_10;have x1_11:w1.cell? ⟨w.heap.size,11,none⟩=some (.slice ao3 d.tapes.1 cap3):=T1.b1.cell 11;have kx1_11:=cell_regrown x1_11;have x1_12:w1.cell? ⟨w.heap.size,12,none⟩=some (.int .i64 d.writes):=T1.b1.cell 12;have kx1_12:=cell_regrown x1_12;have x1_13:w1.cell? ⟨w.heap.size,13,none⟩=some (.int .i64 d.stop):=T1.b1.cell 13;have kx1_13:=cell_regrown x1_13;have x1_14:w1.cell? ⟨w.heap.size,14,none⟩=some (.bool d.down):=T1.b1.cell 14;have kx1_14:=cell_regrown x1_14;clear T1
 rcases hx with ⟨rfl,hno⟩ | ⟨rfl,hok⟩
 ·go_wp2
  go_ret;exact wldP rfl (Stair.fall hno) HT1.out.bel
 have HOK:=hid hok
 have hsb:1≤d.shape 0∧d.shape 0≤4∧0≤d.shape 1∧d.shape 1≤2:=by
  obtain ⟨h1,_⟩:=hok;unfold Shp3 at h1;omega
 clear hok;obtain ⟨t1,h1⟩:=exB (zcs d);obtain ⟨t2,h2⟩:=exB (zbR d.on.1 d.on.2 (d.shape 0+d.shape 1-1));obtain ⟨b3',h3⟩:∃ b,decide (d.shape 5<(d.on.1:Int))=b:=⟨_,rfl⟩;obtain ⟨g',h4⟩:∃ b,decide (0<d.on.1)=b:=⟨_,rfl⟩;obtain ⟨b5',h5⟩:∃ b,((d.tapes.1:Int) != 2)=b:=⟨_,rfl⟩;have c1:=zaE (W:=w1) (fun w' hw'=>zbF (zcj d HOK.out _ hi w' (zae.rd_below (zae.rd_below HRD.out HT1.out.bel hhi) hw' (Nat.le_trans hhi HT1.out.bel.size)) (Nat.le_trans hhi (Nat.le_trans HT1.out.bel.size hw'.size))) h1);have c2:=zaE (W:=w1) (fun w' hw'=>zbF (zb3 _ d.on.1 d.on.2 hi (d.shape 0+d.shape 1-1) w' ((H2.out.below HT1.out.bel hhi).below hw' (Nat.le_trans hhi HT1.out.bel.size)) HCP.out (Nat.le_trans hhi (Nat.le_trans HT1.out.bel.size hw'.size))) h2);have cA:=zaE (W:=w1) (fun w' _=>zbS d.shape HOK.out w');unfold zak at cA
 have wsA:IntKind.i64.wrap (d.shape 0+d.shape 1-1)=d.shape 0+d.shape 1-1:=by rw [IntKind.wrap_i64];omega
 have h4':decide (0<(d.on.1:Int))=g':=by rw [← h4];simp
 obtain ⟨dn,hdn⟩:∃ x,x=d.down:=⟨_,rfl⟩
 have HE:Hid (zcg d↔(t1=true∧t2=true∧b3'=false∧(dn=true→g'=false)∧b5'=false)):=by
  show zcg d↔_
  have e3:(decide (d.shape 5<(d.on.1:Int))=false)↔(d.on.1:Int)≤d.shape 5:=by simp
  have e4:(decide (0<d.on.1)=false)↔d.on.1=0:=by simp
  have e5:(((d.tapes.1:Int) != 2)=false)↔d.tapes.1=2:=by simp;omega
  rw [h1,h2,← h3,← h4,← h5,hdn,e3,e4,e5];unfold zcg OnP
  constructor
  ·rintro ⟨a,⟨b,c,e⟩,f⟩
   exact ⟨a,b,c,e,f⟩
  ·rintro ⟨a,b,c,e,f⟩
   exact ⟨a,⟨b,c,e⟩,f⟩
 have hst:(t1=true∧t2=true∧b3'=true)∨(t1=true∧t2=true∧b3'=false∧dn=true∧g'=true):=by
  clear HE c1 c2;have e1:=h1.2 hsel.1;have e2:=h2.2 hsel.2.1
  cases b3' with
  | true=>exact .inl ⟨e1,e2,rfl⟩
  | false=>
   have hc:(d.on.1:Int)≤d.shape 5:=by simpa using h3
   have hd:dn=true:=by
    cases dn with
    | true=>rfl
    | false=>exact absurd ⟨hc,fun h=>by rw [← hdn] at h;cases h⟩ hsel.2.2
   have hg:g'=true:=by
    cases g' with
    | true=>rfl
    | false=>exact absurd ⟨hc,fun _=>by simpa using h4⟩ hsel.2.2
   exact .inr ⟨e1,e2,rfl,hd,hg⟩
 have HNF:Hid (¬ zcg d):=fun h=>by
  obtain ⟨a,⟨b,c,e⟩,f⟩:=h;exact hsel.2.2 ⟨c,e⟩
 rw [← hdn] at x1_14 kx1_14 c1;clear h1 h2 hsel hok'
 go_upto_region 4 with fail
 clear hdn
 rcases hst with ⟨rfl,rfl,rfl⟩ | ⟨rfl,rfl,rfl,rfl,rfl⟩
 all_goals
  refine WQ.region (by kernel_rfl) (by kernel_rfl) ?_
  repeat (first | (apply WQ.free;(case hw=>rfl);intro K hK;go_simp;first | (apply hK;clear hK K) | (apply Exists.intro;apply And.intro;(case left=>intro p;(first | (go_at_call 105;exact c1 _ _) | (go_at_call 106;exact c2 _ _) | (go_at_call 67;exact cA _ _)));apply hK;clear hK K)) | (apply WQ.skip;(case hw=>rfl);intro K hK;go_simp;apply hK;clear hK K) | (apply WQ.want;(case hw=>rfl);intro K hK;go_simp;first | (apply hK;clear hK K) | (apply Exists.intro;apply And.intro;(case left=>intro p;(first | (go_at_call 105;exact c1 _ _) | (go_at_call 106;exact c2 _ _) | (go_at_call 67;exact cA _ _)));apply hK;clear hK K)))
  refine WQ.nil ?_;intro w2 hw2;have HB2:Hid (Below w.heap.size w w2):=(HT1.out.call (zaO hw2)).bel;clear hw2;go_wp2;go_ret;exact wldP rfl (Stair.pass HOK.out (Stair.fall HNF.out)) HB2.out
set_option maxRecDepth 20000 in
theorem zgx (d:WorldD) (cs:List Value) (hi:Nat) (w:World) (h:zae.rd w hi d cs) (hhi:hi≤w.heap.size) (hnm:∀ t,t<d.tapes.1→∀ i,i<(d.tapes.2 t).recs.1→((d.tapes.2 t).recs.2 i).name.size≤1048576) (hok':zaq d.shape) (hsel:zcs d∧zbR d.on.1 d.on.2 (d.shape 0+d.shape 1-1)∧((d.on.1:Int)≤d.shape 5∧(d.down=true→d.on.1=0))∧d.tapes.1≠2) :
 Calls Tryz.prog 66 #[.agg cs.toArray] w (zcE d w):=by
 obtain ⟨ao1,cap1,ao2,cap2,ao3,cap3,rfl,g1,g2,g3,-⟩:=zaR h;have HRD:=hid h;obtain ⟨v2,e2,⟨h2,hcp2⟩,_⟩:=g2
 cases e2
 have H2:=hid h2;have HCP:=hid hcp2;have hm2:=h2.mx;obtain ⟨_,_,e3,hm3,hc3⟩:=g3
 cases e3
 unfold maxLen at hm2 hm3;have HC3:=hid hc3;have HNM:=hid hnm;clear h h2 hcp2 hc3 g1 hnm;have T0:=zaQ w (rwW d ao1 cap1 ao2 cap2 ao3 cap3).toArray 38;have CSh:=fun w'=>zbm d.shape w';unfold zak at CSh
 go_enter Tryz.func66,Tryz.ntmps66
 go_wp2_with fail
 refine (CSh _).mono ?_;rintro e w1 ⟨x,rfl,hx,b1⟩;have T1:One w w1 (rwW d ao1 cap1 ao2 cap2 ao3 cap3).toArray 38:=T0.call b1;have HT1:=hid T1;clear b1 T0 CSh;have x1_0:w1.cell? ⟨w.heap.size,0,none⟩=some (.int .i64 (d.shape 0)):=T1.b1.cell 0;have kx1_0:=cell_regrown x1_0;have x1_1:w1.cell? ⟨w.heap.size,1,none⟩=some (.int .i64 (d.shape 1)):=T1.b1.cell 1;have kx1_1:=cell_regrown x1_1;have x1_2:w1.cell? ⟨w.heap.size,2,none⟩=some (.int .i64 (d.shape 2)):=T1.b1.cell 2;have kx1_2:=cell_regrown x1_2;have x1_3:w1.cell? ⟨w.heap.size,3,none⟩=some (.int .i64 (d.shape 3)):=T1.b1.cell 3;have kx1_3:=cell_regrown x1_3;have x1_4:w1.cell? ⟨w.heap.size,4,none⟩=some (.int .i64 (d.shape 4)):=T1.b1.cell 4;have kx1_4:=cell_regrown x1_4;have x1_5:w1.cell? ⟨w.heap.size,5,none⟩=some (.int .i64 (d.shape 5)):=T1.b1.cell 5;have kx1_5:=cell_regrown x1_5;have x1_6:w1.cell? ⟨w.heap.size,6,none⟩=some (.int .i64 (d.shape 6)):=T1.b1.cell 6;have kx1_6:=cell_regrown x1_6;have x1_7:w1.cell? ⟨w.heap.size,7,none⟩=some (.int .i64 (d.shape 7)):=T1.b1.cell 7;have kx1_7:=cell_regrown x1_7;have x1_8:w1.cell? ⟨w.heap.size,8,none⟩=some (.int .i64 (d.shape 8)):=T1.b1.cell 8;have kx1_8:=cell_regrown x1_8;have x1_9:w1.cell? ⟨w.heap.size,9,none⟩=some (.slice ao1 d.groups.1 cap1):=T1.b1.cell 9;have kx1_9:=cell_regrown x1_9;have x1_10:w1.cell? ⟨w.heap.size,10,none⟩=some (.slice ao2 d.on.1 cap2):=T1.b1.cell 10;have kx1_10:=cell_regrown x1_10;have x1_11:w1.cell? ⟨w.heap.size,11,none⟩=some (.slice ao3 d.tapes.1 cap3):=T1.b1.cell 11;have kx1_11:=cell_regrown x1_11;have x1_12:w1.cell? ⟨w.heap.size,12,none⟩=some (.int .i64 d.writes):=T1.b1.cell 12;have kx1_12:=cell_regrown x1_12;have x1_13:w1.cell? ⟨w.heap.size,13,none⟩=some (.int .i64 d.stop):=T1.b1.cell 13;have kx1_13:=cell_regrown x1_13;have x1_14:w1.cell? ⟨w.heap.size,14,none⟩=some (.bool d.down):=T1.b1.cell 14;have kx1_14:=cell_regrown x1_14;clear T1
 rcases hx with ⟨rfl,hno⟩ | ⟨rfl,hok⟩
 ·go_wp2
  go_ret;exact wldP rfl (Stair.fall hno) HT1.out.bel
 have HOK:=hid hok
 have hsb:1≤d.shape 0∧d.shape 0≤4∧0≤d.shape 1∧d.shape 1≤2:=by
  obtain ⟨h1,_⟩:=hok;unfold Shp3 at h1;omega
 clear hok;obtain ⟨t1,h1⟩:=exB (zcs d);obtain ⟨t2,h2⟩:=exB (zbR d.on.1 d.on.2 (d.shape 0+d.shape 1-1));obtain ⟨b3',h3⟩:∃ b,decide (d.shape 5<(d.on.1:Int))=b:=⟨_,rfl⟩;obtain ⟨g',h4⟩:∃ b,decide (0<d.on.1)=b:=⟨_,rfl⟩;obtain ⟨b5',h5⟩:∃ b,((d.tapes.1:Int) != 2)=b:=⟨_,rfl⟩;have c1:=zaE (W:=w1) (fun w' hw'=>zbF (zcj d HOK.out _ hi w' (zae.rd_below (zae.rd_below HRD.out HT1.out.bel hhi) hw' (Nat.le_trans hhi HT1.out.bel.size)) (Nat.le_trans hhi (Nat.le_trans HT1.out.bel.size hw'.size))) h1);have c2:=zaE (W:=w1) (fun w' hw'=>zbF (zb3 _ d.on.1 d.on.2 hi (d.shape 0+d.shape 1-1) w' ((H2.out.below HT1.out.bel hhi).below hw' (Nat.le_trans hhi HT1.out.bel.size)) HCP.out (Nat.le_trans hhi (Nat.le_trans HT1.out.bel.size hw'.size))) h2);have cA:=zaE (W:=w1) (fun w' _=>zbS d.shape HOK.out w');unfold zak at cA
 have wsA:IntKind.i64.wrap (d.shape 0+d.shape 1-1)=d.shape 0+d.shape 1-1:=by rw [IntKind.wrap_i64];omega
 have h4':decide (0<(d.on.1:Int))=g':=by rw [← h4];simp
 obtain ⟨dn,hdn⟩:∃ x,x=d.down:=⟨_,rfl⟩
 have HE:Hid (zcg d↔(t1=true∧t2=true∧b3'=false∧(dn=true→g'=false)∧b5'=false)):=by
  show zcg d↔_
  have e3:(decide (d.shape 5<(d.on.1:Int))=false)↔(d.on.1:Int)≤d.shape 5:=by simp
  have e4:(decide (0<d.on.1)=false)↔d.on.1=0:=by simp
  have e5:(((d.tapes.1:Int) != 2)=false)↔d.tapes.1=2:=by simp;omega
  rw [h1,h2,← h3,← h4,← h5,hdn,e3,e4,e5];unfold zcg OnP
  constructor
  ·rintro ⟨a,⟨b,c,e⟩,f⟩
   exact ⟨a,b,c,e,f⟩
  ·rintro ⟨a,b,c,e,f⟩
   exact ⟨a,⟨b,c,e⟩,f⟩
 have hst:(t1=true∧t2=true∧b3'=false∧dn=true∧g'=false∧b5'=true)∨(t1=true∧t2=true∧b3'=false∧dn=false∧b5'=true):=by
  clear HE c1 c2;have e1:=h1.2 hsel.1;have e2:=h2.2 hsel.2.1
  have e3:b3'=false:=by rw [← h3];simpa using hsel.2.2.1.1
  have e5:b5'=true:=by rw [← h5];have:=hsel.2.2.2;simp;omega
  cases dn with
  | false=>exact .inr ⟨e1,e2,e3,rfl,e5⟩
  | true=>exact .inl ⟨e1,e2,e3,rfl,by rw [← h4];have:=hsel.2.2.1.2 hdn.symm;simp;omega,e5⟩
 have HNF:Hid (¬ zcg d):=fun h=>by
  obtain ⟨a,⟨b,c,e⟩,f⟩:=h;exact hsel.2.2.2 f
 rw [← hdn] at x1_14 kx1_14 c1;clear h1 h2 hsel hok'
 go_upto_region 4 with fail
 clear hdn
 rcases hst with ⟨rfl,rfl,rfl,rfl,rfl,rfl⟩ | ⟨rfl,rfl,rfl,rfl,rfl⟩
 all_goals
  refine WQ.region (by kernel_rfl) (by kernel_rfl) ?_
  repeat (first | (apply WQ.free;(case hw=>rfl);intro K hK;go_simp;first | (apply hK;clear hK K) | (apply Exists.intro;apply And.intro;(case left=>intro p;(first | (go_at_call 105;exact c1 _ _) | (go_at_call 106;exact c2 _ _) | (go_at_call 67;exact cA _ _)));apply hK;clear hK K)) | (apply WQ.skip;(case hw=>rfl);intro K hK;go_simp;apply hK;clear hK K) | (apply WQ.want;(case hw=>rfl);intro K hK;go_simp;first | (apply hK;clear hK K) | (apply Exists.intro;apply And.intro;(case left=>intro p;(first | (go_at_call 105;exact c1 _ _) | (go_at_call 106;exact c2 _ _) | (go_at_call 67;exact cA _ _)));apply hK;clear hK K)))
  refine WQ.nil ?_;intro w2 hw2;have HB2:Hid (Below w.heap.size w w2):=(HT1.out.call (zaO hw2)).bel;clear hw2;go_wp2;go_ret;exact wldP rfl (Stair.pass HOK.out (Stair.fall HNF.out)) HB2.out
end Go.Proofs.YtonemlgejkapbaaGreat
