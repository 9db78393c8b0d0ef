/- Walk of the specification's RecFault. -/
import Derived.Deep.Cut
import Derived.Laws.Tables
import Derived.Laws.Rows
import Derived.Maps.OwnSet
import Derived.WideKeyEntry
import Derived.DeepKeys4
import Derived.OrdersHeld
import Derived.Deep.RegionHeld
import Derived.Deep.MidRow
import Derived.Test.YtajibninhikdgaaGreatZPspentae
set_option linter.unusedVariables false
set_option linter.unusedSimpArgs false
set_option maxHeartbeats 16000000
namespace Go.Proofs.YtajibninhikdgaaGreat
open Go.RowKit F256
def zfG (s:Nat→Int) (r:RecD) (w:World) (e:Ending) (w':World):Prop:=∃ x,e=.returned (.int .i64 x)∧RecAns s r x∧Below w.heap.size w w'
theorem recP {s:Nat→Int} {r:RecD} {w:World} {e:Ending} {w':World} {x:Int} (he:e=.returned (.int .i64 x)) (h:RecAns s r x) (hb:Below w.heap.size w w'):zfG s r w e w':=⟨x,he,h,hb⟩
theorem exBT {P:Prop} (h:P):true=true↔P:=⟨fun _=>h,fun _=>rfl⟩
theorem exBF {P:Prop} (h:¬ P):false=true↔P:=⟨fun h=>(by cases h),fun hh=>absurd hh h⟩
set_option maxRecDepth 20000 in
theorem zhv (s:Nat→Int) (r:RecD) (cs:List Value) (hi:Nat) (w:World) (h:zab.rd w hi r cs) (hhi:hi≤w.heap.size) (hnm:r.name.size≤1048576) :
 Calls Tryz.prog 44 #[zae s,.agg cs.toArray] w (zfG s r w):=by
 obtain ⟨kind,seq,name,length,group,row,rows,data,delta⟩:=r;obtain ⟨ao6,cap6,ao7,cap7,ao8,cap8,rfl,g6,g7,g8,k0,k1,k2,k3,k4,k5⟩:=zaw h;have HRD:=hid h;obtain ⟨v6,e6,⟨h6,hcp6⟩,_⟩:=g6
 cases e6
 have H6:=hid h6;have hm6:rows.1≤maxLen:=h6.mx;obtain ⟨v7,e7,⟨_,_,e7',hm7,_⟩,_⟩:=g7
 cases e7
 cases e7'
 obtain ⟨v8,e8,⟨_,_,e8',hm8,_⟩,_⟩:=g8
 cases e8
 cases e8'
 unfold maxLen at hm6 hm7 hm8
 simp only at k0 k1 k2 k3 k4 k5 hm6 hm7 hm8 hnm
 clear h h6 hcp6;have T0:=zaD w (rwS s).toArray #[.int .i64 kind,.int .i64 seq,.string name,.int .i64 length,.int .i64 group,.int .i64 row,.slice ao6 rows.1 cap6,.slice ao7 data.1 cap7,.slice ao8 delta.1 cap8] 34 83;have CSh:=fun w'=>zbt s w';unfold zae at CSh ⊢
 go_enter Tryz.func44,Tryz.ntmps44
 go_wp2_with fail
 refine (CSh _).mono ?_;rintro e w1 ⟨x,rfl,hx,b1⟩;have T1:Two w w1 (rwS s).toArray #[.int .i64 kind,.int .i64 seq,.string name,.int .i64 length,.int .i64 group,.int .i64 row,.slice ao6 rows.1 cap6,.slice ao7 data.1 cap7,.slice ao8 delta.1 cap8] 34 83:=T0.call b1;have HT1:=hid T1;have z1:w.heap.size+1<w1.heap.size:=T1.b2.lt;clear b1 T0 CSh;have x1_0:w1.cell? ⟨w.heap.size,0,none⟩=some (.int .i64 (s 0)):=T1.b1.cell 0;have x1_1:w1.cell? ⟨w.heap.size,1,none⟩=some (.int .i64 (s 1)):=T1.b1.cell 1;have x1_2:w1.cell? ⟨w.heap.size,2,none⟩=some (.int .i64 (s 2)):=T1.b1.cell 2;have x1_3:w1.cell? ⟨w.heap.size,3,none⟩=some (.int .i64 (s 3)):=T1.b1.cell 3;have x1_4:w1.cell? ⟨w.heap.size,4,none⟩=some (.int .i64 (s 4)):=T1.b1.cell 4;have x1_5:w1.cell? ⟨w.heap.size,5,none⟩=some (.int .i64 (s 5)):=T1.b1.cell 5;have x1_6:w1.cell? ⟨w.heap.size,6,none⟩=some (.int .i64 (s 6)):=T1.b1.cell 6;have x1_7:w1.cell? ⟨w.heap.size,7,none⟩=some (.int .i64 (s 7)):=T1.b1.cell 7;have x1_8:w1.cell? ⟨w.heap.size,8,none⟩=some (.int .i64 (s 8)):=T1.b1.cell 8;have y1_0:w1.cell? ⟨w.heap.size+1,0,none⟩=some (.int .i64 kind):=T1.b2.cell 0;have y1_1:w1.cell? ⟨w.heap.size+1,1,none⟩=some (.int .i64 seq):=T1.b2.cell 1;have y1_2:w1.cell? ⟨w.heap.size+1,2,none⟩=some (.string name):=T1.b2.cell 2;have y1_3:w1.cell? ⟨w.heap.size+1,3,none⟩=some (.int .i64 length):=T1.b2.cell 3;have y1_4:w1.cell? ⟨w.heap.size+1,4,none⟩=some (.int .i64 group):=T1.b2.cell 4;have y1_5:w1.cell? ⟨w.heap.size+1,5,none⟩=some (.int .i64 row):=T1.b2.cell 5;have y1_6:w1.cell? ⟨w.heap.size+1,6,none⟩=some (.slice ao6 rows.1 cap6):=T1.b2.cell 6;have y1_7:w1.cell? ⟨w.heap.size+1,7,none⟩=some (.slice ao7 data.1 cap7):=T1.b2.cell 7;have y1_8:w1.cell? ⟨w.heap.size+1,8,none⟩=some (.slice ao8 delta.1 cap8):=T1.b2.cell 8;clear T1
 rcases hx with ⟨rfl,hno⟩ | ⟨rfl,hok⟩
 ·go_wp2
  go_ret;exact recP rfl (Stair.fall hno) HT1.out.bel
 have HOK:=hid hok
 have hsb:1≤s 0∧s 0≤4∧0≤s 1∧s 1≤2∧1≤s 2∧s 2≤3∧1≤s 4∧s 4≤6:=by
  obtain ⟨h1,h2,h3,_⟩:=hok;unfold Shp3 at h1;unfold Shp at h2;omega
 clear hok
 by_cases hk:InP kind 1 4
 ·go_wp2_with fail
  refine (zcs (t:=true) (exBT hk) _).mono ?_;rintro e w' ⟨rfl,hw'⟩;obtain rfl:=hw'.symm
  by_cases hq:InP seq 1 1000000000
  ·go_wp2_with fail
   refine (zcs (t:=true) (exBT hq) _).mono ?_;rintro e w' ⟨rfl,hw'⟩;obtain rfl:=hw'.symm;have HK:=hid hk;have HQ:=hid hq
   go_upto_region 9 with fail
   have bA:=bAl w1 (.cells #[.int .i64 kind,.int .i64 seq,.string name,.int .i64 length,.int .i64 group,.int .i64 row,.slice ao6 rows.1 cap6,.slice ao7 data.1 cap7,.slice ao8 delta.1 cap8] 83);have T2:Two w (w1.alloc (.cells #[.int .i64 kind,.int .i64 seq,.string name,.int .i64 length,.int .i64 group,.int .i64 row,.slice ao6 rows.1 cap6,.slice ao7 data.1 cap7,.slice ao8 delta.1 cap8] 83)) (rwS s).toArray #[.int .i64 kind,.int .i64 seq,.string name,.int .i64 length,.int .i64 group,.int .i64 row,.slice ao6 rows.1 cap6,.slice ao7 data.1 cap7,.slice ao8 delta.1 cap8] 34 83:=HT1.out.call bA;have X2:=zao w1 #[.int .i64 kind,.int .i64 seq,.string name,.int .i64 length,.int .i64 group,.int .i64 row,.slice ao6 rows.1 cap6,.slice ao7 data.1 cap7,.slice ao8 delta.1 cap8] 83;obtain ⟨W2,hW2⟩:∃ W2,W2=w1.alloc (.cells #[.int .i64 kind,.int .i64 seq,.string name,.int .i64 length,.int .i64 group,.int .i64 row,.slice ao6 rows.1 cap6,.slice ao7 data.1 cap7,.slice ao8 delta.1 cap8] 83):=⟨_,rfl⟩;rw [← hW2] at T2 X2 ⊢;have HT2:=hid T2;have HX2:=hid X2;clear bA hW2 x1_0 y1_0 x1_1 y1_1 x1_2 y1_2 x1_3 y1_3 x1_4 y1_4 x1_5 y1_5 x1_6 y1_6 x1_7 y1_7 x1_8 y1_8;have x2_0:W2.cell? ⟨w.heap.size,0,none⟩=some (.int .i64 (s 0)):=T2.b1.cell 0;have kx2_0:=cell_regrown x2_0;have x2_1:W2.cell? ⟨w.heap.size,1,none⟩=some (.int .i64 (s 1)):=T2.b1.cell 1;have kx2_1:=cell_regrown x2_1;have x2_2:W2.cell? ⟨w.heap.size,2,none⟩=some (.int .i64 (s 2)):=T2.b1.cell 2;have kx2_2:=cell_regrown x2_2;have x2_3:W2.cell? ⟨w.heap.size,3,none⟩=some (.int .i64 (s 3)):=T2.b1.cell 3;have kx2_3:=cell_regrown x2_3;have x2_4:W2.cell? ⟨w.heap.size,4,none⟩=some (.int .i64 (s 4)):=T2.b1.cell 4;have kx2_4:=cell_regrown x2_4;have x2_5:W2.cell? ⟨w.heap.size,5,none⟩=some (.int .i64 (s 5)):=T2.b1.cell 5;have kx2_5:=cell_regrown x2_5;have x2_6:W2.cell? ⟨w.heap.size,6,none⟩=some (.int .i64 (s 6)):=T2.b1.cell 6;have kx2_6:=cell_regrown x2_6;have x2_7:W2.cell? ⟨w.heap.size,7,none⟩=some (.int .i64 (s 7)):=T2.b1.cell 7
   have kx2_7:=cell_regrown x2_7;have x2_8:W2.cell? ⟨w.heap.size,8,none⟩=some (.int .i64 (s 8)):=T2.b1.cell 8;have kx2_8:=cell_regrown x2_8;have y2_0:W2.cell? ⟨w.heap.size+1,0,none⟩=some (.int .i64 kind):=T2.b2.cell 0;have ky2_0:=cell_regrown y2_0;have y2_1:W2.cell? ⟨w.heap.size+1,1,none⟩=some (.int .i64 seq):=T2.b2.cell 1;have ky2_1:=cell_regrown y2_1;have y2_2:W2.cell? ⟨w.heap.size+1,2,none⟩=some (.string name):=T2.b2.cell 2;have ky2_2:=cell_regrown y2_2;have y2_3:W2.cell? ⟨w.heap.size+1,3,none⟩=some (.int .i64 length):=T2.b2.cell 3;have ky2_3:=cell_regrown y2_3;have y2_4:W2.cell? ⟨w.heap.size+1,4,none⟩=some (.int .i64 group):=T2.b2.cell 4;have ky2_4:=cell_regrown y2_4;have y2_5:W2.cell? ⟨w.heap.size+1,5,none⟩=some (.int .i64 row):=T2.b2.cell 5;have ky2_5:=cell_regrown y2_5;have y2_6:W2.cell? ⟨w.heap.size+1,6,none⟩=some (.slice ao6 rows.1 cap6):=T2.b2.cell 6;have ky2_6:=cell_regrown y2_6;have y2_7:W2.cell? ⟨w.heap.size+1,7,none⟩=some (.slice ao7 data.1 cap7):=T2.b2.cell 7;have ky2_7:=cell_regrown y2_7;have y2_8:W2.cell? ⟨w.heap.size+1,8,none⟩=some (.slice ao8 delta.1 cap8):=T2.b2.cell 8;have ky2_8:=cell_regrown y2_8;have z2_0:W2.cell? ⟨w1.heap.size,0,none⟩=some (.int .i64 kind):=X2.cell 0;have f2_0:W2.frozen? ⟨w1.heap.size,0,none⟩=false:=X2.frozen 0;have z2_1:W2.cell? ⟨w1.heap.size,1,none⟩=some (.int .i64 seq):=X2.cell 1;have f2_1:W2.frozen? ⟨w1.heap.size,1,none⟩=false:=X2.frozen 1;have z2_2:W2.cell? ⟨w1.heap.size,2,none⟩=some (.string name):=X2.cell 2;have f2_2:W2.frozen? ⟨w1.heap.size,2,none⟩=false:=X2.frozen 2;have z2_3:W2.cell? ⟨w1.heap.size,3,none⟩=some (.int .i64 length):=X2.cell 3;have f2_3:W2.frozen? ⟨w1.heap.size,3,none⟩=false:=X2.frozen 3;have z2_4:W2.cell? ⟨w1.heap.size,4,none⟩=some (.int .i64 group):=X2.cell 4;have f2_4:W2.frozen? ⟨w1.heap.size,4,none⟩=false:=X2.frozen 4;have z2_5:W2.cell? ⟨w1.heap.size,5,none⟩=some (.int .i64 row):=X2.cell 5;have f2_5:W2.frozen? ⟨w1.heap.size,5,none⟩=false:=X2.frozen 5;have z2_6:W2.cell? ⟨w1.heap.size,6,none⟩=some (.slice ao6 rows.1 cap6):=X2.cell 6;have f2_6:W2.frozen? ⟨w1.heap.size,6,none⟩=false:=X2.frozen 6;have z2_7:W2.cell? ⟨w1.heap.size,7,none⟩=some (.slice ao7 data.1 cap7):=X2.cell 7;have f2_7:W2.frozen? ⟨w1.heap.size,7,none⟩=false:=X2.frozen 7;have z2_8:W2.cell? ⟨w1.heap.size,8,none⟩=some (.slice ao8 delta.1 cap8):=X2.cell 8;have f2_8:W2.frozen? ⟨w1.heap.size,8,none⟩=false:=X2.frozen 8;clear T2 X2
   have hk4:kind=1∨kind=2∨kind=3∨kind=4:=by unfold InP at hk;omega
   have ws0:IntKind.i64.wrap (s 0-1)=s 0-1:=by rw [IntKind.wrap_i64];omega
   have ws4:IntKind.i64.wrap (s 4-1)=s 4-1:=by rw [IntKind.wrap_i64];omega
   have wsA:IntKind.i64.wrap (s 0+s 1-1)=s 0+s 1-1:=by rw [IntKind.wrap_i64];omega
   clear hk hq
   rcases hk4 with rfl | rfl | rfl | rfl
   ·go_wp2_with fail
    refine (zgu name hnm _).mono ?_;rintro e w' ⟨x,rfl,hx,hw'⟩;obtain rfl:=hw'.symm
    rcases hx with ⟨rfl,hno⟩ | ⟨rfl,hyes⟩
    ·go_wp2
     go_ret;exact recP rfl (Stair.pass HOK.out (Stair.pass HK.out (Stair.pass HQ.out (Stair.fall (fun h=>hno (h rfl)))))) HT2.out.bel
    ·have HN:Hid (zdC ⟨1,seq,name,length,group,row,rows,data,delta⟩):=fun _=>hyes
     clear hyes;obtain ⟨t3,h3⟩:=exB (zbF s ⟨1,seq,name,length,group,row,rows,data,delta⟩);have CI:=zbb (ziH s HOK.out ⟨1,seq,name,length,group,row,rows,data,delta⟩ _ hi W2 (zab.rd_below HRD.out HT2.out.bel hhi) (Nat.le_trans hhi HT2.out.bel.size)) h3;unfold zae at CI
     go_wp2_with fail
     refine CI.mono ?_;rintro e w3 ⟨rfl,b3⟩;have X3:Box w3 w1.heap.size #[.int .i64 1,.int .i64 seq,.string name,.int .i64 length,.int .i64 group,.int .i64 row,.slice ao6 rows.1 cap6,.slice ao7 data.1 cap7,.slice ao8 delta.1 cap8] 83:=HX2.out.call b3;have HB3:Hid (Below w.heap.size w w3):=(HT2.out.call b3).bel;have z3_0:w3.cell? ⟨w1.heap.size,0,none⟩=some (.int .i64 1):=X3.cell 0;have f3_0:w3.frozen? ⟨w1.heap.size,0,none⟩=false:=X3.frozen 0;have z3_1:w3.cell? ⟨w1.heap.size,1,none⟩=some (.int .i64 seq):=X3.cell 1;have f3_1:w3.frozen? ⟨w1.heap.size,1,none⟩=false:=X3.frozen 1;have z3_2:w3.cell? ⟨w1.heap.size,2,none⟩=some (.string name):=X3.cell 2;have f3_2:w3.frozen? ⟨w1.heap.size,2,none⟩=false:=X3.frozen 2;have z3_3:w3.cell? ⟨w1.heap.size,3,none⟩=some (.int .i64 length):=X3.cell 3;have f3_3:w3.frozen? ⟨w1.heap.size,3,none⟩=false:=X3.frozen 3;have z3_4:w3.cell? ⟨w1.heap.size,4,none⟩=some (.int .i64 group):=X3.cell 4;have f3_4:w3.frozen? ⟨w1.heap.size,4,none⟩=false:=X3.frozen 4;have z3_5:w3.cell? ⟨w1.heap.size,5,none⟩=some (.int .i64 row):=X3.cell 5;have f3_5:w3.frozen? ⟨w1.heap.size,5,none⟩=false:=X3.frozen 5;have z3_6:w3.cell? ⟨w1.heap.size,6,none⟩=some (.slice ao6 rows.1 cap6):=X3.cell 6;have f3_6:w3.frozen? ⟨w1.heap.size,6,none⟩=false:=X3.frozen 6;have z3_7:w3.cell? ⟨w1.heap.size,7,none⟩=some (.slice ao7 data.1 cap7):=X3.cell 7;have f3_7:w3.frozen? ⟨w1.heap.size,7,none⟩=false:=X3.frozen 7;have z3_8:w3.cell? ⟨w1.heap.size,8,none⟩=some (.slice ao8 delta.1 cap8):=X3.cell 8;have f3_8:w3.frozen? ⟨w1.heap.size,8,none⟩=false:=X3.frozen 8;clear X3 b3;clear x2_0 kx2_0 y2_0 ky2_0 z2_0 f2_0 x2_1 kx2_1 y2_1 ky2_1 z2_1 f2_1 x2_2 kx2_2 y2_2 ky2_2 z2_2 f2_2 x2_3 kx2_3 y2_3 ky2_3 z2_3 f2_3 x2_4 kx2_4 y2_4 ky2_4 z2_4 f2_4 x2_5 kx2_5 y2_5 ky2_5 z2_5 f2_5 x2_6 kx2_6 y2_6 ky2_6 z2_6 f2_6 x2_7 kx2_7 y2_7 ky2_7 z2_7 f2_7 x2_8 kx2_8 y2_8 ky2_8 z2_8 f2_8 CI;have H3:=hid h3;clear h3
     cases t3 with
     | false=>
      go_wp2;go_ret
      exact recP rfl (Stair.pass HOK.out (Stair.pass HK.out (Stair.pass HQ.out (Stair.pass HN.out (Stair.fall (fun h=>by
       have:zbF s ⟨1,seq,name,length,group,row,rows,data,delta⟩:=by
        unfold zbp at h
        simpa using h
       have:=H3.out.2 this
       simp at this)))))) HB3.out
     | true=>
      have HKP:Hid (zbp s ⟨1,seq,name,length,group,row,rows,data,delta⟩):=.inl ⟨rfl,H3.out.1 (by simp)⟩
      go_wp2_with fail
      refine (zcA _ _ _ _ _ _ _ _ _ _ _ _ _ _ _ _).mono ?_;rintro e w9 ⟨t9,rfl,ht9,b9⟩
      have HB9:Hid (Below w.heap.size w w9):=by
       show Below w.heap.size w w9
       refine Below.trans ?_ (b9.mono ?_)
       ·repeat (refine zdz ?_ (by omega))
        exact HB3.out
       ·simp
        exact HB3.out.size
      clear b9
      have HT9:Hid (t9=true↔zbh ⟨1,seq,name,length,group,row,rows,data,delta⟩):=by
       show t9=true↔zbh ⟨1,seq,name,length,group,row,rows,data,delta⟩
       rw [ht9];unfold zci zbh zcZ
       simp [and_assoc]
       try (intros;rfl)
      clear ht9
      cases t9 with
      | false=>
       go_wp2;go_ret;exact recP rfl (Stair.pass HOK.out (Stair.pass HK.out (Stair.pass HQ.out (Stair.pass HN.out (Stair.pass HKP.out (Stair.fall (fun h=>by have:=HT9.out.2 h;simp at this))))))) HB9.out
      | true=>
       go_wp2;go_ret;exact recP rfl (Stair.pass HOK.out (Stair.pass HK.out (Stair.pass HQ.out (Stair.pass HN.out (Stair.pass HKP.out (Stair.pass (HT9.out.1 (by simp)) (Stair.last rfl))))))) HB9.out
   ·have HN:Hid (zdC ⟨2,seq,name,length,group,row,rows,data,delta⟩):=fun h=>by simp at h
    obtain ⟨t1,h1⟩:=exB (InP group 0 (s 0-1));obtain ⟨t2,h2⟩:=exB (InP row 0 (s 4-1));obtain ⟨b3',h3⟩:∃ b,((data.1:Int) != s 2*4)=b:=⟨_,rfl⟩;obtain ⟨b4',h4⟩:∃ b,((delta.1:Int) != s 2*4)=b:=⟨_,rfl⟩;have cG:=zfj (W:=W2) (fun w'=>zcs h1 w');have cR:=zfj (W:=W2) (fun w'=>zcs h2 w');have cW:=zaG (W:=W2) (fun w' _=>zdf s (by omega) (by omega) w');unfold zae at cW
    have HE:Hid (zbp s ⟨2,seq,name,length,group,row,rows,data,delta⟩↔(t1=true∧t2=true∧b3'=false∧b4'=false)):=by
     show zbp s ⟨2,seq,name,length,group,row,rows,data,delta⟩↔_
     rw [h1,h2,← h3,← h4];unfold zbp zlc
     simp
    have hst:(t1=false)∨(t1=true∧t2=false)∨(t1=true∧t2=true∧b3'=true)∨(t1=true∧t2=true∧b3'=false∧b4'=true)∨(t1=true∧t2=true∧b3'=false∧b4'=false):=by
     clear HE h1 h2 h3 h4 cG cR
     cases t1<;>simp
     cases t2<;>simp
     cases b3'<;>simp
    clear h1 h2;go_wp2
    rcases hst with rfl | ⟨rfl,rfl⟩ | ⟨rfl,rfl,rfl⟩ | ⟨rfl,rfl,rfl,rfl⟩ | ⟨rfl,rfl,rfl,rfl⟩
    all_goals
     refine WQ.region (by kernel_rfl) (by kernel_rfl) ?_
     repeat (first | (apply WQ.skip;(case hw=>rfl);intro K hK;go_simp;apply hK;clear hK K) | (apply WQ.want;(case hw=>rfl);intro K hK;go_simp;first | (apply hK;clear hK K) | (apply Exists.intro;apply And.intro;(case left=>intro p;(first | (go_at_call_of 45 (Value.int .i64 group);exact cG _ _) | (go_at_call_of 45 (Value.int .i64 row);exact cR _ _) | (go_at_call 86;exact cW _ _)));apply hK;clear hK K)))
     refine WQ.nil ?_;intro w3 hw3;have b3:=zaB hw3;have X3:Box w3 w1.heap.size #[.int .i64 2,.int .i64 seq,.string name,.int .i64 length,.int .i64 group,.int .i64 row,.slice ao6 rows.1 cap6,.slice ao7 data.1 cap7,.slice ao8 delta.1 cap8] 83:=HX2.out.call b3;have HB3:Hid (Below w.heap.size w w3):=(HT2.out.call b3).bel;have z3_0:w3.cell? ⟨w1.heap.size,0,none⟩=some (.int .i64 2):=X3.cell 0;have f3_0:w3.frozen? ⟨w1.heap.size,0,none⟩=false:=X3.frozen 0;have z3_1:w3.cell? ⟨w1.heap.size,1,none⟩=some (.int .i64 seq):=X3.cell 1;have f3_1:w3.frozen? ⟨w1.heap.size,1,none⟩=false:=X3.frozen 1;have z3_2:w3.cell? ⟨w1.heap.size,2,none⟩=some (.string name):=X3.cell 2;have f3_2:w3.frozen? ⟨w1.heap.size,2,none⟩=false:=X3.frozen 2;have z3_3:w3.cell? ⟨w1.heap.size,3,none⟩=some (.int .i64 length):=X3.cell 3;have f3_3:w3.frozen? ⟨w1.heap.size,3,none⟩=false:=X3.frozen 3;have z3_4:w3.cell? ⟨w1.heap.size,4,none⟩=some (.int .i64 group):=X3.cell 4;have f3_4:w3.frozen? ⟨w1.heap.size,4,none⟩=false:=X3.frozen 4;have z3_5:w3.cell? ⟨w1.heap.size,5,none⟩=some (.int .i64 row):=X3.cell 5;have f3_5:w3.frozen? ⟨w1.heap.size,5,none⟩=false:=X3.frozen 5;have z3_6:w3.cell? ⟨w1.heap.size,6,none⟩=some (.slice ao6 rows.1 cap6):=X3.cell 6;have f3_6:w3.frozen? ⟨w1.heap.size,6,none⟩=false:=X3.frozen 6;have z3_7:w3.cell? ⟨w1.heap.size,7,none⟩=some (.slice ao7 data.1 cap7):=X3.cell 7;have f3_7:w3.frozen? ⟨w1.heap.size,7,none⟩=false:=X3.frozen 7;have z3_8:w3.cell? ⟨w1.heap.size,8,none⟩=some (.slice ao8 delta.1 cap8):=X3.cell 8;have f3_8:w3.frozen? ⟨w1.heap.size,8,none⟩=false:=X3.frozen 8;clear X3 b3;clear hw3 x2_0 kx2_0 y2_0 ky2_0 z2_0 f2_0 x2_1 kx2_1 y2_1 ky2_1 z2_1 f2_1 x2_2 kx2_2 y2_2 ky2_2 z2_2 f2_2 x2_3 kx2_3 y2_3 ky2_3 z2_3 f2_3 x2_4 kx2_4 y2_4 ky2_4 z2_4 f2_4 x2_5 kx2_5 y2_5 ky2_5 z2_5 f2_5 x2_6 kx2_6 y2_6 ky2_6 z2_6 f2_6 x2_7 kx2_7 y2_7 ky2_7 z2_7 f2_7 x2_8 kx2_8 y2_8 ky2_8 z2_8 f2_8
    ·go_wp2
     go_ret;exact recP rfl (Stair.pass HOK.out (Stair.pass HK.out (Stair.pass HQ.out (Stair.pass HN.out (Stair.fall (fun h=>by have:=HE.out.1 h;simp at this)))))) HB3.out
    ·go_wp2
     go_ret;exact recP rfl (Stair.pass HOK.out (Stair.pass HK.out (Stair.pass HQ.out (Stair.pass HN.out (Stair.fall (fun h=>by have:=HE.out.1 h;simp at this)))))) HB3.out
    ·go_wp2
     go_ret;exact recP rfl (Stair.pass HOK.out (Stair.pass HK.out (Stair.pass HQ.out (Stair.pass HN.out (Stair.fall (fun h=>by have:=HE.out.1 h;simp at this)))))) HB3.out
    ·go_wp2
     go_ret;exact recP rfl (Stair.pass HOK.out (Stair.pass HK.out (Stair.pass HQ.out (Stair.pass HN.out (Stair.fall (fun h=>by have:=HE.out.1 h;simp at this)))))) HB3.out
    ·have HKP:Hid (zbp s ⟨2,seq,name,length,group,row,rows,data,delta⟩):=HE.out.2 (by simp)
     go_wp2_with fail
     refine (zcA _ _ _ _ _ _ _ _ _ _ _ _ _ _ _ _).mono ?_;rintro e w9 ⟨t9,rfl,ht9,b9⟩
     have HB9:Hid (Below w.heap.size w w9):=by
      show Below w.heap.size w w9
      refine Below.trans ?_ (b9.mono ?_)
      ·repeat (refine zdz ?_ (by omega))
       exact HB3.out
      ·simp
       exact HB3.out.size
     clear b9
     have HT9:Hid (t9=true↔zbh ⟨2,seq,name,length,group,row,rows,data,delta⟩):=by
      show t9=true↔zbh ⟨2,seq,name,length,group,row,rows,data,delta⟩
      rw [ht9];unfold zci zbh zcZ
      simp [and_assoc]
      try (intros;rfl)
     clear ht9
     cases t9 with
     | false=>
      go_wp2;go_ret;exact recP rfl (Stair.pass HOK.out (Stair.pass HK.out (Stair.pass HQ.out (Stair.pass HN.out (Stair.pass HKP.out (Stair.fall (fun h=>by have:=HT9.out.2 h;simp at this))))))) HB9.out
     | true=>
      go_wp2;go_ret;exact recP rfl (Stair.pass HOK.out (Stair.pass HK.out (Stair.pass HQ.out (Stair.pass HN.out (Stair.pass HKP.out (Stair.pass (HT9.out.1 (by simp)) (Stair.last rfl))))))) HB9.out
   ·have HN:Hid (zdC ⟨3,seq,name,length,group,row,rows,data,delta⟩):=fun h=>by simp at h
    obtain ⟨t1,h1⟩:=exB (InP group 0 (s 0+s 1-1));have cG:=zfj (W:=W2) (fun w'=>zcs h1 w');have cA:=zaG (W:=W2) (fun w' _=>zbI s HOK.out w');unfold zae at cA
    have HE:Hid (zbp s ⟨3,seq,name,length,group,row,rows,data,delta⟩↔(t1=true)):=by
     show zbp s ⟨3,seq,name,length,group,row,rows,data,delta⟩↔_
     rw [h1];unfold zbp zld
     simp
    have hst:(t1=false)∨(t1=true):=by
     clear HE h1 cG
     cases t1<;>simp
    clear h1;go_wp2
    rcases hst with rfl | rfl
    all_goals
     refine WQ.region (by kernel_rfl) (by kernel_rfl) ?_
     repeat (first | (apply WQ.skip;(case hw=>rfl);intro K hK;go_simp;apply hK;clear hK K) | (apply WQ.want;(case hw=>rfl);intro K hK;go_simp;first | (apply hK;clear hK K) | (apply Exists.intro;apply And.intro;(case left=>intro p;(first | (go_at_call 45;exact cG _ _) | (go_at_call 43;exact cA _ _)));apply hK;clear hK K)))
     refine WQ.nil ?_;intro w3 hw3;have b3:=zaB hw3;have X3:Box w3 w1.heap.size #[.int .i64 3,.int .i64 seq,.string name,.int .i64 length,.int .i64 group,.int .i64 row,.slice ao6 rows.1 cap6,.slice ao7 data.1 cap7,.slice ao8 delta.1 cap8] 83:=HX2.out.call b3;have HB3:Hid (Below w.heap.size w w3):=(HT2.out.call b3).bel;have z3_0:w3.cell? ⟨w1.heap.size,0,none⟩=some (.int .i64 3):=X3.cell 0;have f3_0:w3.frozen? ⟨w1.heap.size,0,none⟩=false:=X3.frozen 0;have z3_1:w3.cell? ⟨w1.heap.size,1,none⟩=some (.int .i64 seq):=X3.cell 1;have f3_1:w3.frozen? ⟨w1.heap.size,1,none⟩=false:=X3.frozen 1;have z3_2:w3.cell? ⟨w1.heap.size,2,none⟩=some (.string name):=X3.cell 2;have f3_2:w3.frozen? ⟨w1.heap.size,2,none⟩=false:=X3.frozen 2;have z3_3:w3.cell? ⟨w1.heap.size,3,none⟩=some (.int .i64 length):=X3.cell 3;have f3_3:w3.frozen? ⟨w1.heap.size,3,none⟩=false:=X3.frozen 3;have z3_4:w3.cell? ⟨w1.heap.size,4,none⟩=some (.int .i64 group):=X3.cell 4;have f3_4:w3.frozen? ⟨w1.heap.size,4,none⟩=false:=X3.frozen 4;have z3_5:w3.cell? ⟨w1.heap.size,5,none⟩=some (.int .i64 row):=X3.cell 5;have f3_5:w3.frozen? ⟨w1.heap.size,5,none⟩=false:=X3.frozen 5;have z3_6:w3.cell? ⟨w1.heap.size,6,none⟩=some (.slice ao6 rows.1 cap6):=X3.cell 6;have f3_6:w3.frozen? ⟨w1.heap.size,6,none⟩=false:=X3.frozen 6;have z3_7:w3.cell? ⟨w1.heap.size,7,none⟩=some (.slice ao7 data.1 cap7):=X3.cell 7;have f3_7:w3.frozen? ⟨w1.heap.size,7,none⟩=false:=X3.frozen 7;have z3_8:w3.cell? ⟨w1.heap.size,8,none⟩=some (.slice ao8 delta.1 cap8):=X3.cell 8;have f3_8:w3.frozen? ⟨w1.heap.size,8,none⟩=false:=X3.frozen 8;clear X3 b3;clear hw3 x2_0 kx2_0 y2_0 ky2_0 z2_0 f2_0 x2_1 kx2_1 y2_1 ky2_1 z2_1 f2_1 x2_2 kx2_2 y2_2 ky2_2 z2_2 f2_2 x2_3 kx2_3 y2_3 ky2_3 z2_3 f2_3 x2_4 kx2_4 y2_4 ky2_4 z2_4 f2_4 x2_5 kx2_5 y2_5 ky2_5 z2_5 f2_5 x2_6 kx2_6 y2_6 ky2_6 z2_6 f2_6 x2_7 kx2_7 y2_7 ky2_7 z2_7 f2_7 x2_8 kx2_8 y2_8 ky2_8 z2_8 f2_8
    ·go_wp2
     go_ret;exact recP rfl (Stair.pass HOK.out (Stair.pass HK.out (Stair.pass HQ.out (Stair.pass HN.out (Stair.fall (fun h=>by have:=HE.out.1 h;simp at this)))))) HB3.out
    ·have HKP:Hid (zbp s ⟨3,seq,name,length,group,row,rows,data,delta⟩):=HE.out.2 (by simp)
     go_wp2_with fail
     refine (zcA _ _ _ _ _ _ _ _ _ _ _ _ _ _ _ _).mono ?_;rintro e w9 ⟨t9,rfl,ht9,b9⟩
     have HB9:Hid (Below w.heap.size w w9):=by
      show Below w.heap.size w w9
      refine Below.trans ?_ (b9.mono ?_)
      ·repeat (refine zdz ?_ (by omega))
       exact HB3.out
      ·simp
       exact HB3.out.size
     clear b9
     have HT9:Hid (t9=true↔zbh ⟨3,seq,name,length,group,row,rows,data,delta⟩):=by
      show t9=true↔zbh ⟨3,seq,name,length,group,row,rows,data,delta⟩
      rw [ht9];unfold zci zbh zcZ
      simp [and_assoc]
      try (intros;rfl)
     clear ht9
     cases t9 with
     | false=>
      go_wp2;go_ret;exact recP rfl (Stair.pass HOK.out (Stair.pass HK.out (Stair.pass HQ.out (Stair.pass HN.out (Stair.pass HKP.out (Stair.fall (fun h=>by have:=HT9.out.2 h;simp at this))))))) HB9.out
     | true=>
      go_wp2;go_ret;exact recP rfl (Stair.pass HOK.out (Stair.pass HK.out (Stair.pass HQ.out (Stair.pass HN.out (Stair.pass HKP.out (Stair.pass (HT9.out.1 (by simp)) (Stair.last rfl))))))) HB9.out
   ·have HN:Hid (zdC ⟨4,seq,name,length,group,row,rows,data,delta⟩):=fun h=>by simp at h
    obtain ⟨t1,h1⟩:=exB (InP group 0 (s 0+s 1-1));obtain ⟨t2,h2⟩:=exB (InP row 0 (s 4-1));obtain ⟨t3,h3⟩:=exB (zcY rows.1 rows.2 (s 0+s 1-1));obtain ⟨b4',h4⟩:∃ b,((data.1:Int) != s 2*4)=b:=⟨_,rfl⟩;obtain ⟨t5,h5⟩:=exB (zfD s ⟨4,seq,name,length,group,row,rows,data,delta⟩);have cG:=zfj (W:=W2) (fun w'=>zcs h1 w');have cR:=zfj (W:=W2) (fun w'=>zcs h2 w');have cA:=zaG (W:=W2) (fun w' _=>zbI s HOK.out w');have cW:=zaG (W:=W2) (fun w' _=>zdf s (by omega) (by omega) w');have cS:=zaG (W:=W2) (fun w' hw'=>zbb (zis _ rows.1 rows.2 hi (s 0+s 1-1) w' ((H6.out.below HT2.out.bel hhi).below hw' (Nat.le_trans hhi HT2.out.bel.size))) h3);have cX:t1=true→t3=true→∀ d os,Calls Tryz.prog 88 #[zae s,.agg #[.int .i64 4,.int .i64 seq,.string name,.int .i64 length,.int .i64 group,.int .i64 row,.slice ao6 rows.1 cap6,.slice ao7 data.1 cap7,.slice ao8 delta.1 cap8]] (Go.Sort.grow (redrawn W2 d) os) fun e w''=>e=.returned (.bool t5)∧∃ p:Regrown,w''=Go.Sort.grow (redrawn W2 p.d) p.os:=fun e1 e3=>zaG (W:=W2) (fun w' hw'=>zbb (zfF s HOK.out ⟨4,seq,name,length,group,row,rows,data,delta⟩ _ hi w' (zab.rd_below (zab.rd_below HRD.out HT2.out.bel hhi) hw' (Nat.le_trans hhi HT2.out.bel.size)) (Nat.le_trans hhi (Nat.le_trans HT2.out.bel.size hw'.size)) (h1.1 e1) (h3.1 e3)) h5);unfold zae at cW cA cX
    have HE:Hid (zbp s ⟨4,seq,name,length,group,row,rows,data,delta⟩↔(t1=true∧t2=true∧t3=true∧b4'=false∧t5=true)):=by
     show zbp s ⟨4,seq,name,length,group,row,rows,data,delta⟩↔_
     rw [h1,h2,h3,← h4,h5];unfold zbp zh8
     simp
    have hst:(t1=false)∨(t1=true∧t2=false)∨(t1=true∧t2=true∧t3=false)∨(t1=true∧t2=true∧t3=true∧b4'=true)∨(t1=true∧t2=true∧t3=true∧b4'=false∧t5=false)∨(t1=true∧t2=true∧t3=true∧b4'=false∧t5=true):=by
     clear HE h1 h2 h3 h4 h5 cG cR cS cX
     cases t1<;>simp
     cases t2<;>simp
     cases t3<;>simp
     cases b4'<;>simp
    clear h1 h2 h3 h5;go_wp2
    rcases hst with rfl | ⟨rfl,rfl⟩ | ⟨rfl,rfl,rfl⟩ | ⟨rfl,rfl,rfl,rfl⟩ | ⟨rfl,rfl,rfl,rfl,rfl⟩ | ⟨rfl,rfl,rfl,rfl,rfl⟩
    all_goals
     refine WQ.region (by kernel_rfl) (by kernel_rfl) ?_
     repeat (first | (apply WQ.skip;(case hw=>rfl);intro K hK;go_simp;apply hK;clear hK K) | (apply WQ.want;(case hw=>rfl);intro K hK;go_simp;first | (apply hK;clear hK K) | (apply Exists.intro;apply And.intro;(case left=>intro p;(first | (go_at_call_of 45 (Value.int .i64 group);exact cG _ _) | (go_at_call_of 45 (Value.int .i64 row);exact cR _ _) | (go_at_call 86;exact cW _ _) | (go_at_call 43;exact cA _ _) | (go_at_call 87;exact cS _ _) | (go_at_call 88;exact cX rfl rfl _ _)));apply hK;clear hK K)))
     refine WQ.nil ?_;intro w3 hw3;have b3:=zaB hw3;have X3:Box w3 w1.heap.size #[.int .i64 4,.int .i64 seq,.string name,.int .i64 length,.int .i64 group,.int .i64 row,.slice ao6 rows.1 cap6,.slice ao7 data.1 cap7,.slice ao8 delta.1 cap8] 83:=HX2.out.call b3;have HB3:Hid (Below w.heap.size w w3):=(HT2.out.call b3).bel;have z3_0:w3.cell? ⟨w1.heap.size,0,none⟩=some (.int .i64 4):=X3.cell 0;have f3_0:w3.frozen? ⟨w1.heap.size,0,none⟩=false:=X3.frozen 0;have z3_1:w3.cell? ⟨w1.heap.size,1,none⟩=some (.int .i64 seq):=X3.cell 1;have f3_1:w3.frozen? ⟨w1.heap.size,1,none⟩=false:=X3.frozen 1;have z3_2:w3.cell? ⟨w1.heap.size,2,none⟩=some (.string name):=X3.cell 2;have f3_2:w3.frozen? ⟨w1.heap.size,2,none⟩=false:=X3.frozen 2;have z3_3:w3.cell? ⟨w1.heap.size,3,none⟩=some (.int .i64 length):=X3.cell 3;have f3_3:w3.frozen? ⟨w1.heap.size,3,none⟩=false:=X3.frozen 3;have z3_4:w3.cell? ⟨w1.heap.size,4,none⟩=some (.int .i64 group):=X3.cell 4;have f3_4:w3.frozen? ⟨w1.heap.size,4,none⟩=false:=X3.frozen 4;have z3_5:w3.cell? ⟨w1.heap.size,5,none⟩=some (.int .i64 row):=X3.cell 5;have f3_5:w3.frozen? ⟨w1.heap.size,5,none⟩=false:=X3.frozen 5;have z3_6:w3.cell? ⟨w1.heap.size,6,none⟩=some (.slice ao6 rows.1 cap6):=X3.cell 6;have f3_6:w3.frozen? ⟨w1.heap.size,6,none⟩=false:=X3.frozen 6;have z3_7:w3.cell? ⟨w1.heap.size,7,none⟩=some (.slice ao7 data.1 cap7):=X3.cell 7;have f3_7:w3.frozen? ⟨w1.heap.size,7,none⟩=false:=X3.frozen 7;have z3_8:w3.cell? ⟨w1.heap.size,8,none⟩=some (.slice ao8 delta.1 cap8):=X3.cell 8;have f3_8:w3.frozen? ⟨w1.heap.size,8,none⟩=false:=X3.frozen 8;clear X3 b3;clear hw3 x2_0 kx2_0 y2_0 ky2_0 z2_0 f2_0 x2_1 kx2_1 y2_1 ky2_1 z2_1 f2_1 x2_2 kx2_2 y2_2 ky2_2 z2_2 f2_2 x2_3 kx2_3 y2_3 ky2_3 z2_3 f2_3 x2_4 kx2_4 y2_4 ky2_4 z2_4 f2_4 x2_5 kx2_5 y2_5 ky2_5 z2_5 f2_5 x2_6 kx2_6 y2_6 ky2_6 z2_6 f2_6 x2_7 kx2_7 y2_7 ky2_7 z2_7 f2_7 x2_8 kx2_8 y2_8 ky2_8 z2_8 f2_8
    ·go_wp2
     go_ret;exact recP rfl (Stair.pass HOK.out (Stair.pass HK.out (Stair.pass HQ.out (Stair.pass HN.out (Stair.fall (fun h=>by have:=HE.out.1 h;simp at this)))))) HB3.out
    ·go_wp2
     go_ret;exact recP rfl (Stair.pass HOK.out (Stair.pass HK.out (Stair.pass HQ.out (Stair.pass HN.out (Stair.fall (fun h=>by have:=HE.out.1 h;simp at this)))))) HB3.out
    ·go_wp2
     go_ret;exact recP rfl (Stair.pass HOK.out (Stair.pass HK.out (Stair.pass HQ.out (Stair.pass HN.out (Stair.fall (fun h=>by have:=HE.out.1 h;simp at this)))))) HB3.out
    ·go_wp2
     go_ret;exact recP rfl (Stair.pass HOK.out (Stair.pass HK.out (Stair.pass HQ.out (Stair.pass HN.out (Stair.fall (fun h=>by have:=HE.out.1 h;simp at this)))))) HB3.out
    ·go_wp2
     go_ret;exact recP rfl (Stair.pass HOK.out (Stair.pass HK.out (Stair.pass HQ.out (Stair.pass HN.out (Stair.fall (fun h=>by have:=HE.out.1 h;simp at this)))))) HB3.out
    ·have HKP:Hid (zbp s ⟨4,seq,name,length,group,row,rows,data,delta⟩):=HE.out.2 (by simp)
     go_wp2_with fail
     refine (zcA _ _ _ _ _ _ _ _ _ _ _ _ _ _ _ _).mono ?_;rintro e w9 ⟨t9,rfl,ht9,b9⟩
     have HB9:Hid (Below w.heap.size w w9):=by
      show Below w.heap.size w w9
      refine Below.trans ?_ (b9.mono ?_)
      ·repeat (refine zdz ?_ (by omega))
       exact HB3.out
      ·simp
       exact HB3.out.size
     clear b9
     have HT9:Hid (t9=true↔zbh ⟨4,seq,name,length,group,row,rows,data,delta⟩):=by
      show t9=true↔zbh ⟨4,seq,name,length,group,row,rows,data,delta⟩
      rw [ht9];unfold zci zbh zcZ
      simp [and_assoc]
      try (intros;rfl)
     clear ht9
     cases t9 with
     | false=>
      go_wp2;go_ret;exact recP rfl (Stair.pass HOK.out (Stair.pass HK.out (Stair.pass HQ.out (Stair.pass HN.out (Stair.pass HKP.out (Stair.fall (fun h=>by have:=HT9.out.2 h;simp at this))))))) HB9.out
     | true=>
      go_wp2;go_ret;exact recP rfl (Stair.pass HOK.out (Stair.pass HK.out (Stair.pass HQ.out (Stair.pass HN.out (Stair.pass HKP.out (Stair.pass (HT9.out.1 (by simp)) (Stair.last rfl))))))) HB9.out
  ·go_wp2_with fail
   refine (zcs (t:=false) (exBF hq) _).mono ?_;rintro e w' ⟨rfl,hw'⟩;obtain rfl:=hw'.symm;go_wp2;go_ret;exact recP rfl (Stair.pass HOK.out (Stair.pass hk (Stair.fall hq))) HT1.out.bel
 ·go_wp2_with fail
  refine (zcs (t:=false) (exBF hk) _).mono ?_;rintro e w' ⟨rfl,hw'⟩;obtain rfl:=hw'.symm;go_wp2;go_ret;exact recP rfl (Stair.pass HOK.out (Stair.fall hk)) HT1.out.bel
theorem zdg {K:Int→Prop} (hK:∃ x,K x):∀ l:List (Prop×Int),∃ x,Stair l K x
 | []=>hK
 | (p,c)::l=>by
  by_cases h:p
  ·obtain ⟨x,hx⟩:=zdg hK l
   exact ⟨x,.inr ⟨h,hx⟩⟩
  ·exact ⟨c,.inl ⟨h,rfl⟩⟩
theorem zjE {s:Nat→Int} {d:RecD} {X:Int} {w:World} {f:Nat} {args:Array Value} (hX:RecAns s d X) (h:Calls Tryz.prog f args w (zfG s d w)):Calls Tryz.prog f args w fun e w'=>e=.returned (.int .i64 X)∧Below w.heap.size w w':=
 h.mono fun e w' ⟨x,h1,h2,h3⟩=>⟨by rw [h1,h2.one hX],h3⟩
def zc0 (d:WorldD) (w:World) (e:Ending) (w':World):Prop:=∃ x,e=.returned (.int .i64 x)∧WldAns d x∧Below w.heap.size w w'
theorem wldP {d:WorldD} {w:World} {e:Ending} {w':World} {x:Int} (he:e=.returned (.int .i64 x)) (h:WldAns d x) (hb:Below w.heap.size w w'):zc0 d w e w':=⟨x,he,h,hb⟩
def zlg (s:Nat→Int) (p:Nat×(Nat→TapeD)) (w:World) (e:Ending) (w':World):Prop:=∃ x,e=.returned (.int .i64 x)∧RecsAns s p.1 p.2 x∧Below w.heap.size w w'
theorem WQ.free {P:Program} {ops:Array Oper} {C:World→Prop} {Q:Act→Prop} {a:Act} {o:Oper} {rest:List Oper} (hw:o.guard=none)
 (h:∀ K:Act→Prop,(∀ a,WQ P ops C Q rest a→K a)→o.quiet P a C K):WQ P ops C Q (o::rest) a:=WQ.want (by simp [Region.wanted,hw]) h
theorem zia (s:Nat→Int) (y:Nat→RecD):∀ k,(∀ i,i<k→RecAns s (y i) 0)∨∃ i c,i<k∧c≠0∧RecAns s (y i) c∧∀ j,j<i→RecAns s (y j) 0
 | 0=>.inl (fun i hi=>by omega)
 | k+1=>by
  rcases zia s y k with h | ⟨i,c,h1,h2,h3,h4⟩
  ·obtain ⟨X,hX⟩:∃ X,RecAns s (y k) X:=zdg (K:=isZ) ⟨0,rfl⟩ _
   by_cases hx:X=0
   ·subst hx
    exact .inl (fun i hi=>by
     by_cases c:i=k
     ·subst c;exact hX
     ·exact h i (by omega))
   ·exact .inr ⟨k,X,by omega,hx,hX,h⟩
  ·exact .inr ⟨i,c,by omega,h2,h3,h4⟩
theorem zjF (s:Nat→Int) (x:Nat→TapeD):∀ n,∃ c,RecsAns s n x c
 | 0=>⟨0,.inl ⟨rfl,fun t ht=>by omega⟩⟩
 | n+1=>by
  obtain ⟨c,hc⟩:=zjF s x n
  rcases hc with ⟨rfl,h⟩ | ⟨hc,t,i,ht,hi,hr,hb,hu⟩
  ·rcases zia s (x n).recs.2 (x n).recs.1 with k | ⟨i,c,h1,h2,h3,h4⟩
   ·exact ⟨0,.inl ⟨rfl,fun t ht=>by
     by_cases c:t=n
     ·subst c;exact k
     ·exact h t (by omega)⟩⟩
   ·exact ⟨c,.inr ⟨h2,n,i,by omega,h1,h3,h4,h⟩⟩
  ·exact ⟨c,.inr ⟨hc,t,i,by omega,hi,hr,hb,hu⟩⟩
theorem zkw (d:WorldD):∃ X,WldAns d X:=by
 unfold WldAns;refine zdg ?_ _;obtain ⟨c,hc⟩:=zjF d.shape d.tapes.2 d.tapes.1
 by_cases h:c=0
 ·subst h
  obtain ⟨x,hx⟩:=zdg (K:=isZ) ⟨0,rfl⟩ [(zh9 d,1),(zgv d,3)];exact ⟨x,.inr ⟨hc,hx⟩⟩
 ·exact ⟨c,.inl ⟨h,hc⟩⟩
structure ElInfo {α:Type} (E:Lay α) (T e:TypeId) (by_:Nat) (zs:List Value):Prop where
 hs:0<E.sz
 hzs:zs.length=E.sz
 hu:Tryz.prog.underlying T=some (.slice e)
 hi:(Tryz.prog.info? e).map (fun i=>(i.zero.map (·.cells),i.size,i.bytes))=some (some zs.toArray,E.sz,by_)
 few:by_≤1000
def Gat {α:Type} (E:Lay α) (t:TypeId) (w:World) (lo:Nat) (v:Value) (n:Nat) (x:Nat→α):Prop:=∃ ce Ls,SlG E t w lo v n x ce Ls
section
variable {α:Type} {E:Lay α} {t:TypeId} {w w':World} {lo n:Nat} {v:Value} {x:Nat→α}
theorem Gat.form (h:Gat E t w lo v n x):∃ ao cap,v=.slice ao n cap:=by
 obtain ⟨ce,Ls,h⟩:=h
 rcases h.row.2 with ⟨hv,hn⟩ | ⟨g,cap,cur,rfl,_⟩
 ·exact ⟨none,0,by rw [hv,hn]⟩
 ·exact ⟨_,_,rfl⟩
theorem Gat.own (h:Gat E t w lo v n x):OwnT (E.slice t) w lo w.heap.size (n,x) [v]:=by
 obtain ⟨ce,Ls,h⟩:=h;exact h.own
theorem Gat.congr {y:Nat→α} (h:Gat E t w lo v n x) (hy:∀ i,i<n→x i=y i):Gat E t w lo v n y:=by
 obtain ⟨ce,Ls,h⟩:=h;exact ⟨ce,Ls,h.row,fun i hi=>by rw [← hy i hi];exact h.each i hi,h.nd,h.low⟩
theorem zkx (x:Nat→α) (w:World):Gat E t (w.alloc (.cells #[] t)) w.heap.size (.slice (some ⟨w.heap.size,0,none⟩) 0 0) 0 x:=by
 have h:=World.ownsRow_lit (base:=w.heap.size) (e:=t) (size:=E.sz) w #[] 0 (Nat.le_refl _) (Nat.zero_le _) (by simp);exact ⟨fun _=>[],fun _=>[],by simpa [zbG] using h,fun i hi=>by omega,by simp [Value.ownBlock,zbG],fun b hb=>by rw [zbG] at hb;cases hb⟩
end
theorem zjG (w:World) (cs:List Value) (t:TypeId) (j:Nat):(w.alloc (.cells cs.toArray t)).cell? ⟨w.heap.size,j,none⟩=cs[j]?:=by
 simp
theorem zhw {α:Type} {E:Lay α} {T e:TypeId} {by_:Nat} {zs:List Value} (I:ElInfo E T e by_ zs) (ty:TypeId) {w1 w2 W:World} {lo n:Nat} {v:Value} {x:Nat→α} (hG:Gat E e w1 lo v n x)
 (hb:Below w1.heap.size w1 w2) {d:α} {cs:List Value} (ha:OwnT E w2 w1.heap.size w2.heap.size d cs) (hW:Below w2.heap.size w2 W) (b c:Nat) (hcell:∀ j,j<E.sz→W.cell? ⟨b,j,none⟩=cs[j]?) (hlo:lo≤w1.heap.size) (hn:n≤10000000) :
 ∃ v' w',(Builtin.append_ #[T,T] ty #[v,.slice (some ⟨b,0,none⟩) 1 c]).run Tryz.prog W=.ok v' w'∧Gat E e w' lo v' (n+1) (upd x n d)∧Below lo w1 w':=by
 obtain ⟨hs,hzs,hu,hi,few⟩:=I
 obtain ⟨i0,hi0⟩:∃ i0,Tryz.prog.info? e=some i0:=by
  cases h:Tryz.prog.info? e with
  | none=>rw [h] at hi;cases hi
  | some i0=>exact ⟨i0,rfl⟩
 rw [hi0] at hi
 simp only [Option.map_some,Option.some.injEq,Prod.mk.injEq] at hi
 obtain ⟨h1,h2,h3⟩:=hi
 obtain ⟨z,hz,hzc⟩:∃ z,i0.zero=some z∧z.cells=zs.toArray:=by
  cases h:i0.zero with
  | none=>rw [h] at h1;cases h1
  | some z=>rw [h] at h1;exact ⟨z,rfl,by simpa using h1⟩
 obtain ⟨ce,Ls,hG1⟩:=hG;have hbW:Below w1.heap.size w1 W:=hb.trans (hW.mono hb.size);have hG2:SlG E e W lo v n x ce Ls:=hG1.below hbW;obtain ⟨K,a1,a2,a3⟩:=ha;have ha':E.own W d cs K:=E.own_kept a1 (fun k hk=>hW.block k (E.own_lt a1 k hk));have hcs:=E.own_len a1
 obtain ⟨v',w',hr,r1,r2,r3,r4⟩:=run_append_own_at (P:=Tryz.prog) W lo T ty e i0 z E.sz by_ hu hi0 hz h2 h3 (by rw [hzc];simpa using hzs) hs v n (catN n ce) hG2.row ⟨b,0,none⟩ 1 c cs (by rw [hcs,Nat.one_mul])
  (fun j u hj=>by
   have hlt:j<cs.length:=(List.getElem?_eq_some_iff.1 hj).1;have:=hcell j (by omega);rw [hj] at this;rw [add_o]
   exact this) (E.own_one ha') (by unfold maxLen;omega) (by
    have:(n+1)*by_≤10000001*1000:=Nat.mul_le_mul (by omega) few
    omega) (Nat.le_trans hlo hbW.size)
 refine ⟨v',w',hr,⟨_,_,hG2.grown ha' a2 (fun k hk=>?_) r1 r2 r4⟩,?_⟩
 ·have h5:=(a3 k hk).1
  exact ⟨by omega,fun hh=>by have:=hG1.mem_lt k hh;omega⟩
 ·exact (hbW.mono hlo).grown r2 (Nat.le_trans hlo hbW.size) (fun k hk=>(hG2.row.lt k hk).1)
theorem ziI {α:Type} {E:Lay α} {T e:TypeId} {by_:Nat} {zs:List Value} (I:ElInfo E T e by_ zs) {w1 w2 W:World} {ops:Array Oper} {rest:List Oper} {o:Oper} {a:Act} {Q:Exit→Act→World→Prop}
 (hg:o.guard=none) (s y:Operand) (hop:o.op=Op.call { callee:=Callee.builtin Builtin.append,args:=#[s,y],argTypes:=#[T,T] })
 {lo n:Nat} {v:Value} {x:Nat→α} (hev:a.eval s=v) (hG:Gat E e w1 lo v n x)
 (hb:Below w1.heap.size w1 w2) {d:α} {cs:List Value} (ha:OwnT E w2 w1.heap.size w2.heap.size d cs) (hW:Below w2.heap.size w2 W) (b c:Nat) (hx:a.eval y=.slice (some ⟨b,0,none⟩) 1 c) (hcell:∀ j,j<E.sz→W.cell? ⟨b,j,none⟩=cs[j]?) (hlo:lo≤w1.heap.size) (hn:n≤10000000)
 (hK:∀ v' w',Gat E e w' lo v' (n+1) (upd x n d)→Below lo w1 w'→wpList Tryz.prog ops Q rest (a.put o.dst v') w'):wpList Tryz.prog ops Q (o::rest) a W:=by
 refine wpList_plain hg fun K hK'=>?_;obtain ⟨v',w',hrun,r1,r2⟩:=zhw I o.type hG hb ha hW b c hcell hlo hn;unfold Oper.wp
 simp [execOp,hop,resolve,invoke,builtin,hev,hx,hrun,Result.andThen]
 exact hK' _ _ (hK v' w' r1 r2)
theorem zkY {w:World} {lo hi n:Nat} {v:Value} {f:Nat→Nat} (h:Own w lo hi v n f) (hh:hi≤w.heap.size) (kf:∀ i,f i<256):OwnT zac w lo hi (n,f) [v]:=by
 refine ⟨v.ownBlock.toList,⟨v,rfl,rfl,h.weaken (Nat.zero_le _) hh,kf⟩,?_,fun b hb=>?_⟩
 ·cases v.ownBlock<;>simp
 ·have hb':v.ownBlock=some b:=by simpa using hb
  exact ⟨(h.1.lt b hb').1,h.2 b hb'⟩
section
variable {α:Type} {E:Lay α} {t:TypeId} {w w1:World} {lo g cap n k:Nat} {x:Nat→α} {ce:Nat→List Value} {Ls:Nat→List Nat}
end
def noRec:RecD:=⟨0,0,ByteArray.empty,0,0,0,(0,fun _=>0),(0,fun _=>0),(0,fun _=>0)⟩
def zeroT:TapeD:=⟨false,(0,fun _=>noRec)⟩
theorem zky {α:Type} {E:Lay α} {t:TypeId} (w:World) (x:Nat→α):(E.slice t).own w (0,x) [.slice none 0 0] []:=⟨_,fun _=>[],fun _=>[],rfl,rfl,World.ownsRow_nil w 0 t E.sz,fun i hi=>by omega⟩
theorem ChgL.bel {K:List Nat} {w w':World} {B:Nat} (hc:ChgL K w w') (hK:∀ b,b∈K→B≤b) (hB:B≤w.heap.size):Below B w w':=⟨hc.os,hc.tape,hc.output,hc.size,fun k hk=>hc.block k (by omega) (fun h=>by have:=hK k h;omega)⟩
theorem OwnT.finb {α:Type} {A:Lay α} {w:World} {lo b:Nat} {a:α} {cs:List Value} (h:OwnT A w lo w.heap.size a cs) (hb:b<lo) {lo':Nat} (hl:lo'≤lo) (o:Nat) (l:List Value) (w':World) (e:w'=Go.Proofs.YtajibninhikdgaaGreat.stN w b o l):OwnT A w' lo' w'.heap.size a cs:=by
 subst e;exact (h.stN b o l hb).weaken hl (by rw [zdu];exact Nat.le_refl _)
structure NewBx (cs:Array Value) (w1 wx:World) (P t:Nat):Prop where
 box:Box wx P cs 38
 tp:(zam.slice 79).own wx (2,fun _=>zeroT) [.slice (some ⟨t,0,none⟩) 2 2] [t]
 p1:w1.heap.size≤P
 t1:w1.heap.size≤t
 ne:t≠P
 bel:Below w1.heap.size w1 wx
theorem zkZ {α:Type} {A:Lay α} {c:α→Nat} {mk:Nat→α→α} {fn:Nat} (hm:MkV A c mk fn) {w:World} {lo hi:Nat} {d:α} {cs:List Value} (h:OwnT A w lo hi d cs) (j:Nat) (hj:j+c d≤100000000) :
 Calls Tryz.prog fn #[.agg cs.toArray,.int .i64 j] w fun e w'=>e=.returned (.int .i64 ((j+c d:Nat):Int))∧OwnT A w' lo hi (mk j d) cs∧Chg lo hi w w':=by
 obtain ⟨L,h1,h2,h3⟩:=h;exact (hm cs d L j w h1 h2 hj).mono fun e w' ⟨he,ho,hc⟩=>⟨he,⟨L,ho,h2,h3⟩,hc.chg h3⟩
theorem Chg.bel {lo hi B:Nat} {w w':World} (h:Chg lo hi w w') (hl:B≤lo) (hB:B≤w.heap.size):Below B w w':=⟨h.os,h.tape,h.output,h.size,fun k hk=>h.block k (by omega) (.inl (by omega))⟩
theorem zfk {f g:Nat→Nat}:∀ {n:Nat},(∀ i,i<n→f i≤g i)→sumN f n≤sumN g n
 | 0,_=>Nat.le_refl _
 | n+1,h=>by
  rw [zaL,zaL];exact Nat.add_le_add (zfk (fun i hi=>h i (by omega))) (h n (by omega))
theorem ziJ (c:Nat):∀ n:Nat,sumN (fun _=>c) n=n*c
 | 0=>by simp [sumN]
 | n+1=>by rw [zaL,ziJ c n,Nat.succ_mul]
theorem zgx (f:Nat→Nat) (c k:Nat):∀ n:Nat,sumN (fun i=>c+k*f i) n=n*c+k*sumN f n
 | 0=>by simp [sumN]
 | n+1=>by rw [zaL,zgx f c k n,zaL,Nat.succ_mul,Nat.mul_add];omega
theorem zgy {α:Type} {c s:α→Nat} {k:Nat} (h:∀ a,c a≤k+k*s a) (p:Nat×(Nat→α)):cSl c p≤k*szSl s p:=by
 unfold cSl szSl;have h1:sumN (fun i=>c (p.2 i)) p.1≤sumN (fun i=>k+k*s (p.2 i)) p.1:=zfk (fun i _=>h (p.2 i));rw [zgx (fun i=>s (p.2 i)) k k p.1] at h1;rw [Nat.mul_add];have:p.1*k=k*p.1:=Nat.mul_comm _ _;omega
theorem zjH (d:BlockD):zaR d≤6+6*zaV d:=by unfold zaR zaV;omega
theorem zjI (d:DriveD):zap d≤6+6*zaA d:=by
 have:=zgy (k:=6) zjH d.blocks;unfold zap zaA;omega
theorem zlh (d:RecD):zaO d≤6+6*zaH d:=by unfold zaO zaH;omega
theorem zkz (d:TapeD):zbm d≤6+6*zaS d:=by
 have:=zgy (k:=6) zlh d.recs;unfold zbm zaS;omega
theorem ziK (d:WorldD):zdd d≤6*zbn d:=by
 have h1:=zgy (c:=cSl zap) (s:=szSl zaA) (k:=6) (fun p=>Nat.le_trans (zgy (k:=6) zjI p) (by omega)) d.groups;have h3:=zgy (k:=6) zkz d.tapes;unfold zdd zbn;omega
theorem OwnT.one {α:Type} {A:Lay α} {w:World} {lo hi:Nat} {a:α} {cs:List Value} (h:OwnT A w lo hi a cs):∀ v,v∈cs→v.oneCell'=true:=by
 obtain ⟨L,h1,_⟩:=h;exact fun v hv=>A.own_one h1 v hv
theorem zbe {ops:Array Oper} {rest:List Oper} {o1 o2:Oper} {a:Act} {w:World} {Q:Exit→Act→World→Prop} (T:TypeId) (k:Nat) (x:Operand) (cs:List Value) (zs:Array Value) (n:Nat)
 (hop1:o1.op=Op.alloc T) (hop2:o2.op=Op.store T (.tmp k) x) (hg1:o1.guard=none) (hg2:o2.guard=none) (hd1:o1.dst=some k) (hd2:o2.dst=none)
 (hp:(a.put (some k) (.pointer (some ⟨w.heap.size,0,none⟩))).eval (.tmp k)=.pointer (some ⟨w.heap.size,0,none⟩)) (hx:(a.put (some k) (.pointer (some ⟨w.heap.size,0,none⟩))).eval x=.agg cs.toArray)
 (hi:(Tryz.prog.info? T).map (fun i=>(i.zero.map (·.cells),i.size))=some (some zs,n)) (hz:zs.size=n) (hl:cs.length=n) (h1:∀ v,v∈cs→v.oneCell'=true)
 (h:wpList Tryz.prog ops Q rest (a.put (some k) (.pointer (some ⟨w.heap.size,0,none⟩))) (w.alloc (.cells cs.toArray T))):wpList Tryz.prog ops Q (o1::o2::rest) a w:=by
 obtain ⟨i0,hi0⟩:∃ i0,Tryz.prog.info? T=some i0:=by
  cases h:Tryz.prog.info? T with
  | none=>rw [h] at hi;cases hi
  | some i0=>exact ⟨i0,rfl⟩
 rw [hi0] at hi
 simp only [Option.map_some,Option.some.injEq,Prod.mk.injEq] at hi
 obtain ⟨h2,h3⟩:=hi
 obtain ⟨z,hzz,hzc⟩:∃ z,i0.zero=some z∧z.cells=zs:=by
  cases h:i0.zero with
  | none=>rw [h] at h2;cases h2
  | some z=>rw [h] at h2;exact ⟨z,rfl,by simpa using h2⟩
 have hr:(Instr.alloc T true (.tuple #[])).run Tryz.prog w=.ok (.pointer (some ⟨w.heap.size,0,none⟩)) (w.alloc (.cells zs T)):=by
  simp [Instr.alloc,zeroValue,typeInfo,hi0,hzz,hzc,newVar,newRow]
 have hw:(w.alloc (.cells zs T)).setRow w.heap.size cs.toArray=w.alloc (.cells cs.toArray T):=by
  have hh:((w.alloc (.cells zs T)).setRow w.heap.size cs.toArray).heap=w.heap.push (.cells cs.toArray T):=by
   apply Array.ext_getElem?
   intro i
   by_cases c:i=w.heap.size
   ·subst c
    rw [setRow_heap (w.alloc (.cells zs T)) w.heap.size zs cs.toArray T (0,0) (zao w zs T),Array.getElem?_push,if_pos rfl]
   ·rw [setRow_other _ _ _ _ c,Array.getElem?_push,if_neg c]
    show (w.heap.push _)[i]?=_
    rw [Array.getElem?_push,if_neg c]
  show ({ w with heap:=((w.alloc (.cells zs T)).setRow w.heap.size cs.toArray).heap }:World)=_
  rw [hh];rfl
 refine wpList_plain hg1 fun K hK=>?_;unfold Oper.wp execOp
 simp only [hop1,Sem.run_bind,hr,Result.andThen_ok]
 refine hK _ _ ?_;rw [hd1];refine wpList_store_row hg2 T (.tmp k) x hop2 w.heap.size cs.toArray hp hx T zs (zao w zs T) (by rw [hi0];simp [h3,hl]) (by simp [hz,hl]) (by simp;exact h1) ?_;rw [hw,hd2];exact h
theorem zaF {ops:Array Oper} {rest:List Oper} {o:Oper} {a:Act} {w:World} {Q:Exit→Act→World→Prop} (T:TypeId) (x:Operand) (ho:o.op=.load T x) (hgd:o.guard=none) (b:Nat) (hx:a.eval x=.pointer (some ⟨b,0,none⟩)) {cs:List Value} (hB:Box w b cs.toArray T) {fs:Array Field} (hu:Tryz.prog.underlying T=some (.struct fs)) {n:Nat} (hi:(Tryz.prog.info? T).map (·.size)=some n) (hl:cs.length=n)
 (h:wpList Tryz.prog ops Q rest (a.put o.dst (.agg cs.toArray)) w):wpList Tryz.prog ops Q (o::rest) a w:=
 wpList_load_row hgd T x ho b hx T cs.toArray (0,0) (.struct fs) hB hu rfl (by rw [hi];simp [hl]) h
theorem zfl:(Tryz.prog.info? 38).map (·.size)=some 15:=by kernel_rfl
theorem zeD:(Tryz.prog.info? 28).map (·.size)=some 15:=by kernel_rfl
theorem zlI:(Tryz.prog.info? 38).map (fun i=>(i.zero.map (·.cells),i.size))=some (some #[.int .i64 0,.int .i64 0,.int .i64 0,.int .i64 0,.int .i64 0,.int .i64 0,.int .i64 0,.int .i64 0,.int .i64 0,.slice none 0 0,.slice none 0 0,.slice none 0 0,.int .i64 0,.int .i64 0,.bool false],15):=by kernel_rfl
end Go.Proofs.YtajibninhikdgaaGreat
namespace Go.Proofs.YtajibninhikdgaaGreat
open Go.RowKit F256
open Go.Maps (Keyed)
def zkA (v:Value):Option (DataW Value×List MemPlace):=some (.held v,[])
def MapV (w:World) (k:TypeId) (b n:Nat) (f:Value→Option Value):Prop:=
 ∃ D,w.ownsMap Tryz.prog k zkA b n D∧∀ x l,keyOf Tryz.prog k x=some l→Maps.has D l=(f x).isSome∧∀ z,D.atKey l (.held z)=.held ((f x).getD z)
open Classical in
noncomputable def putF (f:Value→Option Value) (x v:Value):Value→Option Value:=fun y=>if y=x then some v else f y
theorem zc1 (f:Value→Option Value) (x v:Value):putF f x v x=some v:=by unfold putF;rw [if_pos rfl]
theorem zdh (f:Value→Option Value) {x y:Value} (v:Value) (h:y≠x):putF f x v y=f y:=by unfold putF;rw [if_neg h]
section
variable {w w':World} {k t e:TypeId} {b n:Nat} {f:Value→Option Value}
theorem zct (w:World) (k:TypeId):MapV (w.alloc (.map #[] 0)) k w.heap.size 0 (fun _=>none):=
 ⟨.map [],World.ownsMap_made w Tryz.prog k zkA,fun x l hx=>⟨by simp [Maps.has],fun z=>by simp [DataW.atKey]⟩⟩
theorem MapV.lt (h:MapV w k b n f):b<w.heap.size:=by
 obtain ⟨D,h1,_⟩:=h;exact h1.lt
theorem MapV.mono (h:MapV w k b n f) {m:Nat} (hm:n≤m):MapV w k b m f:=by
 obtain ⟨D,h1,h2⟩:=h;exact ⟨D,h1.mono hm,h2⟩
theorem MapV.block (h:MapV w k b n f) (hb:w'.heap[b]?=w.heap[b]?):MapV w' k b n f:=by
 obtain ⟨D,⟨es,clock,h1,h3⟩,h2⟩:=h;exact ⟨D,⟨es,clock,hb.trans h1,h3⟩,h2⟩
theorem MapV.look (h:MapV w k b n f) (K:Keyed Tryz.prog k) (ht:Tryz.prog.underlying t=some (.map k e)) {z:Value} (hz:(zeroValue e).run Tryz.prog w=.ok z w) {x:Value} {l:Lit} (hx:keyOf Tryz.prog k x=some l) :
 (Instr.lookup t (.map (some b)) x false).run Tryz.prog w=.ok ((f x).getD z) w:=by
 obtain ⟨D,h1,h2⟩:=h;obtain ⟨v,ps,h3,h4⟩:=h1.lookup K ht hz (zd:=.held z) (zp:=[]) rfl hx;rw [(h2 x l hx).2 z] at h4;unfold zkA at h4
 simp only [Option.some.injEq,Prod.mk.injEq,DataW.held.injEq] at h4
 rw [h3,h4.1]
theorem zib {D:DataW Value} (K:Keyed Tryz.prog k) (hD:Maps.IsMap D) {x v:Value} {l:Lit} (hx:keyOf Tryz.prog k x=some l) (h2:∀ x l,keyOf Tryz.prog k x=some l→Maps.has D l=(f x).isSome∧∀ z,D.atKey l (.held z)=.held ((f x).getD z)) :
 ∀ y m,keyOf Tryz.prog k y=some m→Maps.has (D.put l (.held v)) m=(putF f x v y).isSome∧∀ z,(D.put l (.held v)).atKey m (.held z)=.held ((putF f x v y).getD z):=by
 intro y m hy
 by_cases c:y=x
 ·subst c
  rw [hx] at hy
  cases hy
  rw [zc1];exact ⟨Maps.has_put_same hD (K.key hx) _,fun z=>Maps.atKey_put_same hD (K.key hx) _ _⟩
 ·have hne:m≠l:=fun e=>c (K.inj hy (by rw [e];exact hx))
  rw [zdh f v c];exact ⟨(Maps.has_put_other hne _).trans (h2 y m hy).1,fun z=>(Maps.atKey_put_other hne _ _).trans ((h2 y m hy).2 z)⟩
theorem MapV.put (h:MapV w k b n f) (K:Keyed Tryz.prog k) (ht:Tryz.prog.underlying t=some (.map k e)) (hn:n<maxLen) {x:Value} {l:Lit} (hx:keyOf Tryz.prog k x=some l) (v:Value) :
 ∃ w',(Instr.mapUpdate t (.map (some b)) x v).run Tryz.prog w=.ok () w'∧MapV w' k b (n+1) (putF f x v)∧w.grownBy w' (some b)∧w'.heap.size=w.heap.size:=by
 obtain ⟨D,h1,h2⟩:=h;obtain ⟨w',h3,h4,h5⟩:=h1.store K ht hn hx (val:=v) (d:=.held v) (ps:=[]) rfl;refine ⟨w',h3,⟨_,h4,zib K h1.isMap hx h2⟩,h5.grown,?_⟩;obtain ⟨es,clock,es',clock',_,rfl⟩:=h5
 simp [ChangeMaps.setBlock]
theorem zjJ {es:Array MapEntry} {clock:Nat} (K:WideMaps.KeyLaw Tryz.prog k) (ht:Tryz.prog.underlying t=some (.map k e)) {z:Value} (hz:∀ u:World,(zeroValue e).run Tryz.prog u=.ok z u) (hb:w.heap[b]?=some (.map es clock)) (F:WideElems.Fit Tryz.prog k zkA es clock)
 {x:Value} {l:Lit} (hx:keyOf Tryz.prog k x=some l) :
 ∃ (v0:Value) (st:Nat) (es1:Array MapEntry) (clock1:Nat),(Instr.mapEntry t (.map (some b)) x).run Tryz.prog w=.ok (.tuple #[v0,goInt st]) (ChangeMaps.setBlock w b (.map es1 clock1))∧
  (Instr.lookup t (.map (some b)) x false).run Tryz.prog w=.ok v0 w∧(Instr.mapUpdate t (.map (some b)) x v0).run Tryz.prog w=.ok () (ChangeMaps.setBlock w b (.map es1 clock1)):=by
 rcases K.find w hx es.toList F.keys with ⟨h1,h2⟩ | ⟨j,e0,h1,h2,h3⟩
 ·refine ⟨z,clock,es.push ⟨x,z,clock⟩,clock+1,?_,?_,?_⟩
  ·simp [Instr.mapEntry,run_underlying ht,MapKept.run_getObj_map hb,K.check w false hx,h1,hz,MapKept.run_setObj_map _ hb,Result.andThen,ChangeMaps.setBlock]
  ·simp [Instr.lookup,run_underlying ht,MapKept.run_getObj_map hb,K.check w _ hx,h1,hz,Result.andThen]
  ·simp [Instr.mapUpdate,run_underlying ht,MapKept.run_getObj_map hb,K.check w false hx,h1,MapKept.run_setObj_map _ hb,Result.andThen,ChangeMaps.setBlock]
 ·have hj:es[j]?=some e0:=by simpa using h2
  have hs1:es.modify j (fun e=>{ e with key:=x })=es:=by
   apply Array.ext'
   rw [Array.toList_modify,ChangeMaps.modify_eq_set _ _ _ _ h2]
   have:({ e0 with key:=x }:MapEntry)=e0:=by rw [← h3]
   rw [this];exact WideElems.set_self _ _ _ h2
  have hs2:es.modify j (fun e=>{ e with key:=x,val:=e0.val })=es:=by
   apply Array.ext'
   rw [Array.toList_modify,ChangeMaps.modify_eq_set _ _ _ _ h2]
   have:({ e0 with key:=x,val:=e0.val }:MapEntry)=e0:=by rw [← h3]
   rw [this];exact WideElems.set_self _ _ _ h2
  refine ⟨e0.val,e0.born,es,clock,?_,?_,?_⟩
  ·simp [Instr.mapEntry,run_underlying ht,MapKept.run_getObj_map hb,K.check w false hx,h1,hj,h3,K.stays w hx,hs1,MapKept.run_setObj_map _ hb,Result.andThen,ChangeMaps.setBlock]
  ·simp [Instr.lookup,run_underlying ht,MapKept.run_getObj_map hb,K.check w _ hx,h1,Result.andThen]
  ·simp [Instr.mapUpdate,run_underlying ht,MapKept.run_getObj_map hb,K.check w false hx,h1,hj,h3,K.stays w hx,hs2,MapKept.run_setObj_map _ hb,Result.andThen,ChangeMaps.setBlock]
theorem MapV.entry (h:MapV w k b n f) (K:WideMaps.KeyLaw Tryz.prog k) (ht:Tryz.prog.underlying t=some (.map k e)) (hn:n<maxLen) {z:Value} (hz:∀ u:World,(zeroValue e).run Tryz.prog u=.ok z u) {x:Value} {l:Lit} (hx:keyOf Tryz.prog k x=some l) :
 ∃ st w1,(Instr.mapEntry t (.map (some b)) x).run Tryz.prog w=.ok (.tuple #[(f x).getD z,.int .i64 st]) w1∧w1.heap.size=w.heap.size∧w.grownBy w1 (some b)∧(Instr.lookup t (.map (some b)) x false).run Tryz.prog w1=.ok ((f x).getD z) w1∧
  ∀ v,∃ w',(Instr.entryStore t (.map (some b)) (.int .i64 st) v).run Tryz.prog w1=.ok () w'∧MapV w' k b (n+1) (putF f x v)∧w.grownBy w' (some b)∧w'.heap.size=w.heap.size:=by
 have KK:=Keyed.of_law K;have hM:=h;obtain ⟨D,h1,h2⟩:=h;have h1':=h1;obtain ⟨es,clock,hb,F,hs,hD⟩:=h1';obtain ⟨v0,st,es1,clock1,r1,r2,r3⟩:=WideElems.entry_then_store K ht hz hb F hx;obtain ⟨v0',st',es1',clock1',a1,a2,a3⟩:=zjJ K ht hz hb F hx
 have ea:v0'=v0∧ChangeMaps.setBlock w b (.map es1' clock1')=ChangeMaps.setBlock w b (.map es1 clock1):=by
  rw [r1] at a1
  simp only [Result.ok.injEq,Value.tuple.injEq,Array.mk.injEq,List.cons.injEq] at a1
  exact ⟨a1.1.1.symm,a1.2.symm⟩
 have ev:v0=(f x).getD z:=by
  have:=hM.look KK ht (hz w) hx;rw [a2,ea.1] at this
  simpa using this
 obtain ⟨w2,q1,q2,q3,q4⟩:=hM.put KK ht hn hx v0
 have ew:w2=ChangeMaps.setBlock w b (.map es1 clock1):=by
  rw [ea.1,ea.2] at a3;rw [a3] at q1
  simpa using q1.symm
 have hl:(Instr.lookup t (.map (some b)) x false).run Tryz.prog (ChangeMaps.setBlock w b (.map es1 clock1))=.ok ((f x).getD z) (ChangeMaps.setBlock w b (.map es1 clock1)):=by
  rw [← ew];have:=q2.look KK ht (hz w2) hx;rw [zc1] at this;rw [this,ev];rfl
 rw [ev] at r1;refine ⟨(st:Int),_,r1,by simp [ChangeMaps.setBlock],⟨rfl,rfl,rfl,by simp [ChangeMaps.setBlock],fun i _ hi=>ChangeMaps.heap_setBlock_other hb _ (fun e=>hi (by rw [e]))⟩,hl,fun v=>?_⟩;obtain ⟨es',clock',r4,r5⟩:=r3 _ v (ChangeMaps.heap_setBlock_same hb _);obtain ⟨w',h3,h4,h5⟩:=h1.store KK ht hn hx (val:=v) (d:=.held v) (ps:=[]) rfl
 have ew:w'=ChangeMaps.setBlock w b (.map es' clock'):=by
  rw [r5] at h3
  cases h3
  rfl
 have e2:ChangeMaps.setBlock (ChangeMaps.setBlock w b (.map es1 clock1)) b (.map es' clock')=ChangeMaps.setBlock w b (.map es' clock'):=by simp [ChangeMaps.setBlock]
 refine ⟨w',?_,⟨_,h4,zib KK h1.isMap hx h2⟩,h5.grown,?_⟩
 ·rw [ew,← e2]
  exact r4
 ·rw [ew]
  simp [ChangeMaps.setBlock]
end
end Go.Proofs.YtajibninhikdgaaGreat
namespace Go.Proofs.YtajibninhikdgaaGreat
open Go.RowKit F256
open Go.Maps (Keyed)
theorem zfH:laidOutB Tryz.prog=true:=by kernel_rfl
theorem keyS:Keyed Tryz.prog 9:=Maps.string_keyed Tryz.underlying9
theorem keyI:Keyed Tryz.prog 2:=Maps.int_keyed Tryz.underlying2
theorem zjK:WideMaps.KeyLaw Tryz.prog 150:=deep_law_laid zfH (m:=2) (by omega) (of_decide_eq_true (by kernel_rfl)) (by kernel_rfl) (by kernel_rfl)
theorem zkB:WideMaps.KeyLaw Tryz.prog 153:=deep_law_laid zfH (m:=2) (by omega) (of_decide_eq_true (by kernel_rfl)) (by kernel_rfl) (by kernel_rfl)
theorem zjL:Keyed Tryz.prog 150:=Keyed.of_law zjK
theorem zic:Keyed Tryz.prog 153:=Keyed.of_law zkB
theorem wf64 {a:Int} (h:-9223372036854775808≤a∧a≤9223372036854775807):(Lit.int .i64 a).wf=true:=by
 have e1:IntKind.i64.min=-9223372036854775808:=by decide
 have e2:IntKind.i64.max=9223372036854775807:=by decide
 simp [Lit.wf,e1,e2,h]
theorem zjM {s:ByteArray} (h:s.size≤maxLen):∃ l,keyOf Tryz.prog 9 (.string s)=some l:=⟨_,WideMaps.keyOf_string_mk Tryz.underlying9 h⟩
theorem zfI {a:Int} (h:-9223372036854775808≤a∧a≤9223372036854775807):∃ l,keyOf Tryz.prog 2 (.int .i64 a)=some l:=⟨_,Maps.keyOf_int_mk Tryz.underlying2 (wf64 h)⟩
theorem zfm {a b:Int} (ha:-9223372036854775808≤a∧a≤9223372036854775807) (hb:-9223372036854775808≤b∧b≤9223372036854775807):∃ l,keyOf Tryz.prog 150 (.agg #[.int .i64 a,.int .i64 b])=some l:=by
 have h1:Tryz.prog.keyType 150=true:=by kernel_rfl
 have h2:Tryz.prog.cellsOf 150=2:=by kernel_rfl
 have h3:Tryz.prog.cellsOf 2=1:=by kernel_rfl
 obtain ⟨m,hm⟩:∃ m,Tryz.prog.types.size=m+1:=⟨Tryz.prog.types.size-1,by have:0<Tryz.prog.types.size:=of_decide_eq_true (by kernel_rfl);omega⟩
 have k1:∀ x:Int,(-9223372036854775808≤x∧x≤9223372036854775807)→Tryz.prog.keyLits (m+1) 2 [.int .i64 x]=some [.int .i64 x]:=fun x hx=>by
  unfold Program.keyLits;rw [Tryz.underlying2]
  simp [wf64 hx]
 have k2:∃ ls,Tryz.prog.keyLits (m+1+1) 150 [.int .i64 a,.int .i64 b]=some ls:=by
  unfold Program.keyLits;rw [Tryz.underlying150]
  simp [h2,h3,k1 a ha,k1 b hb]
 obtain ⟨ls,k3⟩:=k2;refine ⟨.string (keyBytes ls),?_⟩;unfold keyOf;rw [Tryz.underlying150]
 have h4:(Value.agg #[.int .i64 a,.int .i64 b]).formed Tryz.prog 150=true:=by simp [Value.formed,Tryz.underlying150,h2]
 have h5:(Value.agg #[.int .i64 a,.int .i64 b]).cells.toList=[.int .i64 a,.int .i64 b]:=rfl
 simp only [h1,h4,h5,hm,k3,Bool.and_self,if_true,Option.map_some]
theorem zeE {a b:Int} (ha:-9223372036854775808≤a∧a≤9223372036854775807) (hb:-9223372036854775808≤b∧b≤9223372036854775807):∃ l,keyOf Tryz.prog 153 (.agg #[.int .i64 a,.int .i64 b])=some l:=by
 have h1:Tryz.prog.keyType 153=true:=by kernel_rfl
 have h2:Tryz.prog.cellsOf 153=2:=by kernel_rfl
 have h3:Tryz.prog.cellsOf 2=1:=by kernel_rfl
 obtain ⟨m,hm⟩:∃ m,Tryz.prog.types.size=m+1:=⟨Tryz.prog.types.size-1,by have:0<Tryz.prog.types.size:=of_decide_eq_true (by kernel_rfl);omega⟩
 have k1:∀ x:Int,(-9223372036854775808≤x∧x≤9223372036854775807)→Tryz.prog.keyLits (m+1) 2 [.int .i64 x]=some [.int .i64 x]:=fun x hx=>by
  unfold Program.keyLits;rw [Tryz.underlying2]
  simp [wf64 hx]
 have k2:∃ ls,Tryz.prog.keyLits (m+1+1) 153 [.int .i64 a,.int .i64 b]=some ls:=by
  unfold Program.keyLits;rw [Tryz.underlying153]
  simp [h2,h3,k1 a ha,k1 b hb]
 obtain ⟨ls,k3⟩:=k2;refine ⟨.string (keyBytes ls),?_⟩;unfold keyOf;rw [Tryz.underlying153]
 have h4:(Value.agg #[.int .i64 a,.int .i64 b]).formed Tryz.prog 153=true:=by simp [Value.formed,Tryz.underlying153,h2]
 have h5:(Value.agg #[.int .i64 a,.int .i64 b]).cells.toList=[.int .i64 a,.int .i64 b]:=rfl
 simp only [h1,h4,h5,hm,k3,Bool.and_self,if_true,Option.map_some]
end Go.Proofs.YtajibninhikdgaaGreat
namespace Go.Proofs.YtajibninhikdgaaGreat
open Go.RowKit
theorem Box.allocd {w:World} {b:Nat} {cs:Array Value} {t:TypeId} (h:Box w b cs t) (o:Obj):Box (w.alloc o) b cs t:=(Below.heap_alloc w o b h.lt).trans h
end Go.Proofs.YtajibninhikdgaaGreat
namespace Go.Proofs.YtajibninhikdgaaGreat
open Go.RowKit F256
open Go.Maps (Keyed)
def entT (k:Int):TypeId:=if k=1 then 146 else if k=2 then 147 else if k=3 then 148 else 151
def entV (k:Int) (cs:List Value):Value:=.iface (entT k) (.agg cs.toArray)
open Classical in
noncomputable def cN (p:Nat→Prop) (key:Nat→Value) (y:Value):Nat→Nat
 | 0=>0
 | k+1=>cN p key y k+(if p k∧key k=y then 1 else 0)
noncomputable def cntF (p:Nat→Prop) (key:Nat→Value) (k:Nat):Value→Option Value:=fun y=>if cN p key y k=0 then none else some (.int .i64 (cN p key y k:Int))
theorem zjN (p:Nat→Prop) (key:Nat→Value) (y:Value):∀ k,cN p key y k≤k
 | 0=>Nat.le_refl _
 | k+1=>by
  have:=zjN p key y k;unfold cN
  split<;>omega
theorem zbv {p:Nat→Prop} {key:Nat→Value} {k:Nat} (h:¬ p k):cntF p key (k+1)=cntF p key k:=by
 funext y
 have e:cN p key y (k+1)=cN p key y k:=by
  show cN p key y k+_=_
  rw [if_neg (fun q=>h q.1)];rfl
 unfold cntF;rw [e]
theorem zen {p:Nat→Prop} {key:Nat→Value} {k:Nat} (h:p k):cntF p key (k+1)=putF (cntF p key k) (key k) (.int .i64 ((cN p key (key k) k:Int)+1)):=by
 funext y
 by_cases c:y=key k
 ·subst c
  rw [zc1]
  have e:cN p key (key k) (k+1)=cN p key (key k) k+1:=by
   show cN p key (key k) k+_=_
   rw [if_pos ⟨h,rfl⟩]
  unfold cntF;rw [e,if_neg (by omega)]
  simp
 ·rw [zdh _ _ c]
  have e:cN p key y (k+1)=cN p key y k:=by
   show cN p key y k+_=_
   rw [if_neg (fun q=>c q.2.symm)];rfl
  unfold cntF;rw [e]
theorem zcj (p:Nat→Prop) (key:Nat→Value) (k:Nat) (y:Value):(cntF p key k y).getD (.int .i64 0)=.int .i64 (cN p key y k:Int):=by
 unfold cntF
 split
 ·rename_i h
  rw [h];rfl
 ·rfl
noncomputable def zgz (p:Nat→Prop) (key val:Nat→Value):Nat→Value→Option Value
 | 0=>fun _=>none
 | k+1=>@ite _ (p k) (Classical.propDecidable _) (putF (zgz p key val k) (key k) (val k)) (zgz p key val k)
theorem zbA {p:Nat→Prop} {key val:Nat→Value} {k:Nat} (h:¬ p k):zgz p key val (k+1)=zgz p key val k:=if_neg h
theorem zdD {p:Nat→Prop} {key val:Nat→Value} {k:Nat} (h:p k):zgz p key val (k+1)=putF (zgz p key val k) (key k) (val k):=if_pos h
section
variable (x:Nat→RecD) (ce:Nat→List Value) (k:Nat)
noncomputable def newF:Value→Option Value:=zgz (fun i=>(x i).kind=1) (fun i=>.string (x i).name) (fun i=>.agg (ce i).toArray) k
noncomputable def movF:Value→Option Value:=cntF (fun i=>(x i).kind=2) (fun i=>.int .i64 (x i).seq) k
noncomputable def donF:Value→Option Value:=cntF (fun i=>(x i).kind=3) (fun i=>.agg #[.int .i64 (x i).seq,.int .i64 (x i).group]) k
noncomputable def endF:Value→Option Value:=cntF (fun i=>(x i).kind=3) (fun i=>.int .i64 (x i).seq) k
noncomputable def shaF:Value→Option Value:=zgz (fun i=>(x i).kind=4) (fun i=>.agg #[.int .i64 (x i).group,.int .i64 (x i).row]) (fun i=>.int .i64 (x i).seq) k
def entL:List Value:=(List.range k).map (fun i=>entV (x i).kind (ce i))
end
theorem zjO (x:Nat→RecD) (ce:Nat→List Value) (k:Nat):entL x ce (k+1)=entL x ce k++[entV (x k).kind (ce k)]:=by
 unfold entL;rw [List.range_succ,List.map_append];rfl
structure Ldg (w:World) (lo B:Nat) (s:Nat→Int) (m k:Nat) (x:Nat→RecD) (ce:Nat→List Value) (v:Value) (b1 b2 b3 b4 b5:Nat):Prop where
 box:Box w B #[.int .i64 (s 0),.int .i64 (s 1),.int .i64 (s 2),.int .i64 (s 3),.int .i64 (s 4),.int .i64 (s 5),.int .i64 (s 6),.int .i64 (s 7),.int .i64 (s 8),v,.map (some b1),.map (some b2),.map (some b3),.map (some b4),.map (some b5)] 103
 row:w.ownsRow lo 107 1 v m (entL x ce m)
 m1:MapV w 9 b1 k (newF x ce k)
 m2:MapV w 2 b2 k (movF x k)
 m3:MapV w 150 b3 k (donF x k)
 m4:MapV w 2 b4 k (endF x k)
 m5:MapV w 153 b5 k (shaF x k)
 nd:[B,b1,b2,b3,b4,b5].Nodup
 low:lo≤B∧lo≤b1∧lo≤b2∧lo≤b3∧lo≤b4∧lo≤b5
 apart:∀ g,v.ownBlock=some g→g∉[B,b1,b2,b3,b4,b5]
theorem zbu {w:World} {lo:Nat} {e:TypeId} {v:Value} {n:Nat} {xs:List Value} (h:w.ownsRow lo e 1 v n xs):∃ ao cap,v=.slice ao n cap:=by
 rcases h.2 with ⟨rfl,rfl⟩ | ⟨g,cap,cur,rfl,_⟩
 ·exact ⟨none,0,rfl⟩
 ·exact ⟨_,_,rfl⟩
theorem zeF {w w1 w2:World} {q:Option Nat} {b:Nat} (h1:w.grownBy w1 none) (h2:w1.grownBy w2 q) (hb:b<w.heap.size) (hq:some b≠q):w2.heap[b]?=w.heap[b]?:=
 (h2.block b (Nat.lt_of_lt_of_le hb h1.size) hq).trans (h1.block b hb (by simp))
section
variable {w w1 w2:World} {lo B:Nat} {s:Nat→Int} {m k:Nat} {x:Nat→RecD} {ce:Nat→List Value} {v v':Value} {b1 b2 b3 b4 b5:Nat}
theorem Ldg.grown (h:Ldg w lo B s m k x ce v b1 b2 b3 b4 b5) (h1:w.grownBy w1 none) (h2:w1.grownBy w2 v.ownBlock):Box w2 B #[.int .i64 (s 0),.int .i64 (s 1),.int .i64 (s 2),.int .i64 (s 3),.int .i64 (s 4),.int .i64 (s 5),.int .i64 (s 6),.int .i64 (s 7),.int .i64 (s 8),v,.map (some b1),.map (some b2),.map (some b3),.map (some b4),.map (some b5)] 103:=
 (zeF h1 h2 h.box.lt (fun e=>h.apart B e.symm (by simp))).trans h.box
theorem Ldg.laid {o1 o2:Obj} (h:Ldg w lo B s k k x ce v b1 b2 b3 b4 b5) (g1:(w.alloc o1).grownBy w1 v.ownBlock) (O1:w1.ownsRow lo 107 1 v' (k+1) (entL x ce k++[entV (x k).kind (ce k)])) (hloc:v'.ownBlock=v.ownBlock∨v'.ownBlock=some (w.alloc o1).heap.size) :
 Ldg ((w1.setCell ⟨B,9,none⟩ v').alloc o2) lo B s (k+1) k x ce v' b1 b2 b3 b4 b5:=by
 have g0:w.grownBy (w.alloc o1) none:=World.grownBy_alloc _ _ _
 have sz:w.heap.size+1≤w1.heap.size:=by have:=g1.size;simp at this;omega
 have keep:∀ b,b∈[B,b1,b2,b3,b4,b5]→b<w.heap.size→w1.heap[b]?=w.heap[b]?:=fun b hb hl=>zeF g0 g1 hl (fun e=>h.apart b e.symm hb)
 have ne:∀ b,b∈[b1,b2,b3,b4,b5]→b≠B:=fun b hb e=>by
  have:=h.nd;rw [List.nodup_cons] at this;exact this.1 (by rw [← e];exact hb)
 have keep2:∀ b,b∈[b1,b2,b3,b4,b5]→b<w.heap.size→((w1.setCell ⟨B,9,none⟩ v').alloc o2).heap[b]?=w.heap[b]?:=fun b hb hl=>by
  rw [Below.heap_alloc _ _ b (by simp;omega),heap_setCell_other w1 ⟨B,9,none⟩ b v' (ne b hb)];exact keep b (List.mem_cons_of_mem _ hb) hl
 have ap:∀ g,v'.ownBlock=some g→g∉[B,b1,b2,b3,b4,b5]:=fun g hg=>by
  rcases hloc with e | e
  ·exact h.apart g (by rw [← e];exact hg)
  ·rw [e] at hg
   cases hg
   have l0:=h.box.lt;have l1:=h.m1.lt;have l2:=h.m2.lt;have l3:=h.m3.lt;have l4:=h.m4.lt;have l5:=h.m5.lt
   simp
   omega
 refine ⟨?_,?_,h.m1.block (keep2 b1 (by simp) h.m1.lt),h.m2.block (keep2 b2 (by simp) h.m2.lt),h.m3.block (keep2 b3 (by simp) h.m3.lt),h.m4.block (keep2 b4 (by simp) h.m4.lt),h.m5.block (keep2 b5 (by simp) h.m5.lt),h.nd,h.low,ap⟩
 ·have X1:Box w1 B #[.int .i64 (s 0),.int .i64 (s 1),.int .i64 (s 2),.int .i64 (s 3),.int .i64 (s 4),.int .i64 (s 5),.int .i64 (s 6),.int .i64 (s 7),.int .i64 (s 8),v,.map (some b1),.map (some b2),.map (some b3),.map (some b4),.map (some b5)] 103:=(keep B (by simp) h.box.lt).trans h.box
  exact (X1.setc 9 v').allocd o2
 ·rw [zjO]
  have O2:(w1.setCell ⟨B,9,none⟩ v').ownsRow lo 107 1 v' (k+1) (entL x ce k++[entV (x k).kind (ce k)]):=by
   refine ⟨O1.1,?_⟩
   rcases O1.2 with hn | ⟨g,cap,cur,rfl,q1,q2,q3⟩
   ·exact .inl hn
   ·exact .inr ⟨g,cap,cur,rfl,q1,(heap_setCell_other w1 ⟨B,9,none⟩ g _ (fun e=>ap g rfl (by rw [show g=B from e];simp))).trans q2,q3⟩
  exact O2.alloc o2
theorem Ldg.drawn (h:Ldg w lo B s m k x ce v b1 b2 b3 b4 b5) (q:Nat):Ldg { w with drawn:=q } lo B s m k x ce v b1 b2 b3 b4 b5:=⟨h.box,h.row,h.m1,h.m2,h.m3,h.m4,h.m5,h.nd,h.low,h.apart⟩
theorem Ldg.next {T:List Nat} (h:Ldg w lo B s (k+1) k x ce v b1 b2 b3 b4 b5) (hb:∀ b,b<w.heap.size→b∉T→w2.heap[b]?=w.heap[b]?) (hT:∀ b,b∈T→b∈[b1,b2,b3,b4,b5])
 (m1:MapV w2 9 b1 (k+1) (newF x ce (k+1))) (m2:MapV w2 2 b2 (k+1) (movF x (k+1))) (m3:MapV w2 150 b3 (k+1) (donF x (k+1))) (m4:MapV w2 2 b4 (k+1) (endF x (k+1))) (m5:MapV w2 153 b5 (k+1) (shaF x (k+1))) :
 Ldg w2 lo B s (k+1) (k+1) x ce v b1 b2 b3 b4 b5:=by
 have nB:B∉T:=fun q=>by
  have:=h.nd;rw [List.nodup_cons] at this;exact this.1 (hT B q)
 refine ⟨(hb B h.box.lt nB).trans h.box,⟨h.row.1,?_⟩,m1,m2,m3,m4,m5,h.nd,h.low,h.apart⟩
 rcases h.row.2 with hn | ⟨g,cap,cur,rfl,q1,q2,q3⟩
 ·exact .inl hn
 ·exact .inr ⟨g,cap,cur,rfl,q1,(hb g (Array.getElem?_eq_some_iff.1 q2).1 (fun q=>h.apart g rfl (List.mem_cons_of_mem _ (hT g q)))).trans q2,q3⟩
end
theorem zcB {w w1:World} {lo B:Nat} {s:Nat→Int} {m k:Nat} {x:Nat→RecD} {ce:Nat→List Value} {v:Value} {b1 b2 b3 b4 b5:Nat} {o1:Obj} (h:Ldg w lo B s m k x ce v b1 b2 b3 b4 b5) (g1:(w.alloc o1).grownBy w1 v.ownBlock) (hlo:lo≤w.heap.size):Below lo w w1:=by
 have g0:w.grownBy (w.alloc o1) none:=World.grownBy_alloc _ _ _;refine ⟨g1.os.trans g0.os,g1.tape.trans g0.tape,g1.output.trans g0.output,Nat.le_trans g0.size g1.size,fun b hb=>zeF g0 g1 (by omega) (fun e=>?_)⟩
 rcases h.row.2 with ⟨rfl,_⟩ | ⟨g,cap,cur,rfl,q1,_⟩
 ·cases e
 ·have:b=g:=by simpa [Value.ownBlock] using e
  omega
theorem zc2 (u:World):(zeroValue 2).run Tryz.prog u=.ok (.int .i64 0) u:=by kernel_rfl
theorem zfn {ops:Array Oper} {o:Oper} {a:Act} {W w':World} {K:Act→World→Prop} {Q:Exit→Act→World→Prop} {F:Prop} (hg:o.guard=none) (t:TypeId) (m x:Operand) (hop:o.op=Op.mapEntry t m x) (b:Nat) (key v:Value) (hm:a.eval m=.map (some b)) (hx:a.eval x=key)
 (hrun:(Instr.mapEntry t (.map (some b)) key).run Tryz.prog W=.ok v w') (hK:K (a.put o.dst v) w'):if Region.wanted o (yielded ops a.tmps)=true then Oper.wp Tryz.prog o a W K Q else F:=by
 have hw:Region.wanted o (yielded ops a.tmps)=true:=by simp [Region.wanted,hg]
 rw [if_pos hw];unfold Oper.wp
 simp [execOp,hop,hm,hx,hrun,Result.andThen]
 exact hK
theorem zeG {ops:Array Oper} {o:Oper} {a:Act} {W w':World} {K:Act→World→Prop} {Q:Exit→Act→World→Prop} {F:Prop} (hg:o.guard=none) (t:TypeId) (m x y:Operand) (hop:o.op=Op.entryStore t m x y) (b:Nat) (st v:Value) (hm:a.eval m=.map (some b)) (hx:a.eval x=st) (hy:a.eval y=v)
 (hrun:(Instr.entryStore t (.map (some b)) st v).run Tryz.prog W=.ok () w') (hK:K (a.put o.dst undef) w'):if Region.wanted o (yielded ops a.tmps)=true then Oper.wp Tryz.prog o a W K Q else F:=by
 have hw:Region.wanted o (yielded ops a.tmps)=true:=by simp [Region.wanted,hg]
 rw [if_pos hw];unfold Oper.wp
 simp [execOp,hop,hm,hx,hy,hrun,Result.andThen]
 exact hK
theorem zk0:Tryz.prog.follows Departure.mixedOrders=true:=by kernel_rfl
def EntQ (w w':World) (v v':Value) (T:List Nat):Prop:=(v'.ownBlock=v.ownBlock∨∃ g,w.heap.size≤g∧v'.ownBlock=some g)∧∀ b,b<w.heap.size→b∉T→v.ownBlock≠some b→w'.heap[b]?=w.heap[b]?
theorem zdi:(Tryz.prog.info? 107).map (fun i=>(i.zero,i.size,i.bytes))=some (some .nilIface,1,16):=by kernel_rfl
theorem ta00 (u:Value) (w:World):(Instr.typeAssert (.iface 146 u) 107 146 true).run Tryz.prog w=.ok (.tuple #[u,.bool true]) w:=by kernel_rfl
theorem ta10 (u:Value) (w:World):(Instr.typeAssert (.iface 147 u) 107 146 true).run Tryz.prog w=.ok (.tuple #[.agg #[.int .i64 0,.int .i64 0,.string ByteArray.empty,.int .i64 0,.int .i64 0,.int .i64 0,.slice none 0 0,.slice none 0 0,.slice none 0 0],.bool false]) w:=by kernel_rfl
theorem ta11 (u:Value) (w:World):(Instr.typeAssert (.iface 147 u) 107 147 true).run Tryz.prog w=.ok (.tuple #[u,.bool true]) w:=by kernel_rfl
theorem ta20 (u:Value) (w:World):(Instr.typeAssert (.iface 148 u) 107 146 true).run Tryz.prog w=.ok (.tuple #[.agg #[.int .i64 0,.int .i64 0,.string ByteArray.empty,.int .i64 0,.int .i64 0,.int .i64 0,.slice none 0 0,.slice none 0 0,.slice none 0 0],.bool false]) w:=by kernel_rfl
theorem ta21 (u:Value) (w:World):(Instr.typeAssert (.iface 148 u) 107 147 true).run Tryz.prog w=.ok (.tuple #[.agg #[.int .i64 0,.int .i64 0,.string ByteArray.empty,.int .i64 0,.int .i64 0,.int .i64 0,.slice none 0 0,.slice none 0 0,.slice none 0 0],.bool false]) w:=by kernel_rfl
theorem ta22 (u:Value) (w:World):(Instr.typeAssert (.iface 148 u) 107 148 true).run Tryz.prog w=.ok (.tuple #[u,.bool true]) w:=by kernel_rfl
theorem ta30 (u:Value) (w:World):(Instr.typeAssert (.iface 151 u) 107 146 true).run Tryz.prog w=.ok (.tuple #[.agg #[.int .i64 0,.int .i64 0,.string ByteArray.empty,.int .i64 0,.int .i64 0,.int .i64 0,.slice none 0 0,.slice none 0 0,.slice none 0 0],.bool false]) w:=by kernel_rfl
theorem ta31 (u:Value) (w:World):(Instr.typeAssert (.iface 151 u) 107 147 true).run Tryz.prog w=.ok (.tuple #[.agg #[.int .i64 0,.int .i64 0,.string ByteArray.empty,.int .i64 0,.int .i64 0,.int .i64 0,.slice none 0 0,.slice none 0 0,.slice none 0 0],.bool false]) w:=by kernel_rfl
theorem ta32 (u:Value) (w:World):(Instr.typeAssert (.iface 151 u) 107 148 true).run Tryz.prog w=.ok (.tuple #[.agg #[.int .i64 0,.int .i64 0,.string ByteArray.empty,.int .i64 0,.int .i64 0,.int .i64 0,.slice none 0 0,.slice none 0 0,.slice none 0 0],.bool false]) w:=by kernel_rfl
theorem ta33 (u:Value) (w:World):(Instr.typeAssert (.iface 151 u) 107 151 true).run Tryz.prog w=.ok (.tuple #[u,.bool true]) w:=by kernel_rfl
end Go.Proofs.YtajibninhikdgaaGreat
namespace Go.Proofs.YtajibninhikdgaaGreat
open Go.RowKit
section
variable {P:Program} {ops:Array Oper} {Q:Exit→Act→World→Prop} {md:Region.Mode} {S:World→Prop} {L:Nat}
def zb6 (P:Program) (md:Region.Mode) (ops:Array Oper) (Q:Exit→Act→World→Prop) (S:World→Prop) (L:Nat):Nat→Array Bool→Act→World→Prop
 | 0,listed,a,w=>Region.ready md ops listed=[]∧Q .normal a w
 | fuel+1,listed,a,w=>
  (Region.ready md ops listed=[]→Q .normal a w)∧
  ∀ i∈Region.ready md ops listed,wpOp P ops Q i (fun a' w'=>(i≠L→S w')∧zb6 P md ops Q S L fuel (listed.setIfInBounds i true) a' w') a w
theorem zfo:∀ (fuel:Nat) (listed:Array Bool) (a:Act) (w:World),zb6 P md ops Q S L fuel listed a w→wpAny P md ops Q fuel listed a w
 | 0,_,_,_,h=>h
 | fuel+1,_,_,_,h=>⟨h.1,fun i hi=>wpOp_mono (fun a' w' h'=>zfo fuel _ a' w' h'.2) (h.2 i hi)⟩
def zc3 (md:Region.Mode) (ops:Array Oper) (listed:Array Bool):Prop:=
 ∀ j oj,ops[j]?=some oj→listed.getD j false=true→∀ e∈oj.after,Region.binds md e=true→listed.getD e.on false=true
def zbJ (md:Region.Mode) (ops:Array Oper) (listed:Array Bool):Bool:=
 (List.range ops.size).all fun j=>!listed.getD j false||((ops[j]?).map (·.after.all fun e=>!Region.binds md e||listed.getD e.on false)).getD false
theorem zdE {listed:Array Bool} (h:zbJ md ops listed=true):zc3 md ops listed:=fun j oj hj hl e he hb=>by
 unfold zbJ at h;have hlt:j<ops.size:=(Array.getElem?_eq_some_iff.1 hj).1;have h1:=List.all_eq_true.1 h j (List.mem_range.2 hlt);rw [hl,hj] at h1
 simp only [Bool.not_true,Bool.false_or,Option.map_some,Option.getD_some,Array.all_eq_true_iff_forall_mem] at h1
 have h2:=h1 e he;rw [hb] at h2
 simpa using h2
theorem zdp {listed:Array Bool} {j:Nat} (h:zc3 md ops listed) (hj:j∈Region.ready md ops listed):zc3 md ops (listed.setIfInBounds j true):=fun k ok hk hl e he hb=>by
 obtain ⟨_,o,ho,hall⟩:=mem_ready.1 hj
 by_cases c:j=k
 ·subst c
  rw [hk] at ho
  cases ho
  exact getD_set_true (hall e he hb)
 ·rw [getD_set_ne false c] at hl
  exact getD_set_true (h k ok hk hl e he hb)
def depB (md:Region.Mode) (ops:Array Oper):Nat→Nat→Nat→Bool
 | 0,l,i=>l==i
 | n+1,l,i=>l==i||((ops[l]?).map (·.after.any fun e=>Region.binds md e&&depB md ops n e.on i)).getD false
theorem zdU {listed:Array Bool} (hc:zc3 md ops listed):∀ (n l i:Nat),depB md ops n l i=true→listed.getD l false=true→listed.getD i false=true
 | 0,l,i,h,hl=>by
  unfold depB at h
  have:l=i:=by simpa using h
  rw [← this];exact hl
 | n+1,l,i,h,hl=>by
  unfold depB at h
  rcases Bool.or_eq_true _ _ ▸ h with h1 | h1
  ·have:l=i:=by simpa using h1
   rw [← this];exact hl
  ·cases ho:ops[l]? with
   | none=>rw [ho] at h1;simp at h1
   | some o=>
    rw [ho] at h1
    simp only [Option.map_some,Option.getD_some] at h1
    obtain ⟨k,hk,hbk⟩:=Array.any_eq_true.1 h1;obtain ⟨hb,hd⟩:=Bool.and_eq_true _ _ ▸ hbk;exact zdU hc n _ i hd (hc l o ho hl _ (Array.getElem_mem hk) hb)
theorem zgA {listed:Array Bool} (hc:zc3 md ops listed) {n i:Nat} (hne:L≠i) (hd:depB md ops n L i=true) (hi:listed.getD i false=false):L∉Region.ready md ops listed:=fun hL=>by
 obtain ⟨_,o,ho,hall⟩:=mem_ready.1 hL
 cases n with
 | zero=>unfold depB at hd;exact hne (by simpa using hd)
 | succ n=>
  unfold depB at hd
  rcases Bool.or_eq_true _ _ ▸ hd with h1 | h1
  ·exact hne (by simpa using h1)
  ·rw [ho] at h1
   simp only [Option.map_some,Option.getD_some] at h1
   obtain ⟨k,hk,hbk⟩:=Array.any_eq_true.1 h1;obtain ⟨hb,hd'⟩:=Bool.and_eq_true _ _ ▸ hbk;have:=zdU hc n _ i hd' (hall _ (Array.getElem_mem hk) hb);rw [hi] at this
   cases this
theorem zbi {listed:Array Bool} {i:Nat} (h:listed.getD i true=false):listed.getD i false=false:=by
 rcases Nat.lt_or_ge i listed.size with h' | h'
 ·simpa [h'] using h
 ·simp [Array.getElem?_eq_none h'] at h
theorem zgB {i:Nat} {oi:Oper} {v:Value} (hi:ops[i]?=some oi) (hsel:∀ (j:Nat) (o:Oper) cs b,ops[j]?=some o→o.op≠.select cs b)
 (hQ:∀ c a w,Q (.panic c) (a.put oi.dst v) w→Q (.panic c) a w) (hLi:L≠i) {n:Nat} (hd:depB md ops n L i=true) :
 ∀ (fuel:Nat) (listed:Array Bool) (a:Act) (w:World),zc3 md ops listed→
  (∀ j oj,ops[j]?=some oj→j≠i→listed.getD j true=false→(∀ e∈oj.after,Region.binds md e=true→e.on≠i)→oi.apart ops oj=true)→
  i∈Region.ready md ops listed→YieldsIf P ops S oi v a→S w→
  zb6 P md ops Q S L fuel (listed.setIfInBounds i true) (a.put oi.dst v) w→zb6 P md ops Q S L (fuel+1) listed a w:=by
 intro fuel
 induction fuel with
 | zero=>
  intro listed a w _ _ hr hy hS H;refine ⟨fun h=>(by rw [h] at hr;cases hr),fun j hj=>?_⟩
  by_cases hji:j=i
  ·subst hji;exact hy.wpOp hi hS ⟨fun _=>hS,H⟩
  ·have:=ready_mono hj hji
   rw [H.1] at this
   cases this
 | succ fuel ih=>
  intro listed a w hcl hfree hr hy hS H;refine ⟨fun h=>(by rw [h] at hr;cases hr),fun j hj=>?_⟩
  by_cases hji:j=i
  ·subst hji;exact hy.wpOp hi hS ⟨fun _=>hS,H⟩
  ·have hjL:j≠L:=fun h=>by
    subst h;exact zgA hcl hLi hd (zbi (mem_ready.1 hr).1) hj
   have h1:=H.2 j (ready_mono hj hji);obtain ⟨hjun,oj,hoj,hall⟩:=mem_ready.1 hj
   have hnot:∀ e∈oj.after,Region.binds md e=true→e.on≠i:=fun e he hb heq=>by
    have h1:=hall e he hb;have h0:=zbi (mem_ready.1 hr).1;rw [heq,h0] at h1
    cases h1
   have h2:=wpOp_putIf hoj (hfree j oj hoj hji hjun hnot) (fun cs b=>hsel i oi cs b hi) (fun cs b=>hsel j oj cs b hoj) hQ hy h1
   have hfree':∀ k ok,ops[k]?=some ok→k≠i→(listed.setIfInBounds j true).getD k true=false→
    (∀ e∈ok.after,Region.binds md e=true→e.on≠i)→oi.apart ops ok=true:=fun k ok hk hki hun hno=>by
    refine hfree k ok hk hki ?_ hno
    by_cases hjk:j=k
    ·subst hjk;exact hjun
    ·rw [getD_set_ne true hjk] at hun;exact hun
   refine wpOp_mono (fun a' w' h3=>⟨h3.2.1,ih (listed.setIfInBounds j true) a' w' (zdp hcl hj) hfree' (ready_mono hr (Ne.symm hji)) h3.1 (h3.2.1 hjL) ?_⟩) h2;rw [Array.setIfInBounds_comm _ _ hji];exact h3.2.2
theorem zaI {i:Nat} {oi:Oper} {v:Value} {fuel:Nat} {listed:Array Bool} {a:Act} {w:World} (n:Nat) (hi:ops[i]?=some oi)
 (hs:(Region.noSelect ops&&Region.free md ops listed i&&(Region.ready md ops listed).contains i&&!(L==i)&&depB md ops n L i&&zbJ md ops listed)=true)
 (hQ:∀ c a w,Q (.panic c) (a.put oi.dst v) w→Q (.panic c) a w) (hy:YieldsIf P ops S oi v a) (hS:S w)
 (h:zb6 P md ops Q S L fuel (listed.setIfInBounds i true) (a.put oi.dst v) w):zb6 P md ops Q S L (fuel+1) listed a w:=by
 simp only [Bool.and_eq_true,Bool.not_eq_true',beq_eq_false_iff_ne] at hs
 obtain ⟨⟨⟨⟨⟨h1,h2⟩,h3⟩,h4⟩,h5⟩,h6⟩:=hs;exact zgB hi (Region.noSelect_spec h1) hQ h4 h5 fuel listed a w (zdE h6) (Region.free_spec hi h2) (by simpa using h3) hy hS h
theorem zlJ (i:Nat) {oi:Oper} {v:Value} {fuel:Nat} {listed:Array Bool} {a:Act} {w:World} (hi:ops[i]?=some oi) (hy:∀ w,S w→(execOp a.eval oi).run P w=.ok (.value v) w) (h:zb6 P md ops Q S L fuel (listed.setIfInBounds i true) (a.put oi.dst v) w) (hs:(Region.noSelect ops && Region.free md ops listed i && (Region.ready md ops listed).contains i && !(L==i) && depB md ops 16 L i && zbJ md ops listed)=true:=by kernel_rfl) (hQ:∀ c a w,Q (.panic c) (a.put oi.dst v) w→Q (.panic c) a w:=by exact fun _ _ _ h=>h) (hw:Region.wanted oi (yielded ops a.tmps)=true:=by first | rfl | kernel_rfl) (hS:S w:=by assumption):zb6 P md ops Q S L (fuel+1) listed a w:=zaI 16 hi hs hQ (Or.inl ⟨hw,hy⟩) hS h
theorem zlK (i:Nat) {oi:Oper} {v:Value} {fuel:Nat} {listed:Array Bool} {a:Act} {w:World} (hi:ops[i]?=some oi) (h:zb6 P md ops Q S L fuel (listed.setIfInBounds i true) (a.put oi.dst v) w) (hy:∀ w,S w→(execOp a.eval oi).run P w=.ok (.value v) w:=by intro w' hSw;(try dsimp only at hSw);(repeat (have _q:=And.left hSw;replace hSw:=And.right hSw));go_simp;try with_reducible rfl) (hs:(Region.noSelect ops && Region.free md ops listed i && (Region.ready md ops listed).contains i && !(L==i) && depB md ops 16 L i && zbJ md ops listed)=true:=by kernel_rfl) (hQ:∀ c a w,Q (.panic c) (a.put oi.dst v) w→Q (.panic c) a w:=by exact fun _ _ _ h=>h) (hw:Region.wanted oi (yielded ops a.tmps)=true:=by first | kernel_rfl | rfl) (hS:S w:=by assumption):zb6 P md ops Q S L (fuel+1) listed a w:=zaI 16 hi hs hQ (Or.inl ⟨hw,hy⟩) hS h
theorem zbQ {i:Nat} {o:Oper} {fuel:Nat} {listed:Array Bool} {a:Act} {w:World} (ho:ops[i]?=some o) (hr:Region.ready md ops listed=[i])
 (h:∀ K':Act→World→Prop,Shut (∀ a w,S w→(S w→zb6 P md ops Q S L fuel (listed.setIfInBounds i true) a w)→K' a w)→if Region.wanted o (yielded ops a.tmps)=true then Oper.wp P o a w K' Q else K' (a.put o.dst undef) w):zb6 P md ops Q S L (fuel+1) listed a w:=by
 refine ⟨fun h0=>(by rw [hr] at h0;cases h0),fun j hj=>?_⟩;rw [hr] at hj
 obtain rfl:j=i:=by simpa using hj
 exact wpOp_step ho (fun K' hK=>h K' (fun a w hS hW=>hK a w ⟨fun _=>hS,hW hS⟩))
theorem zeH {o:Oper} {fuel:Nat} {listed:Array Bool} {a:Act} {w:World} (ho:ops[L]?=some o) (hr:Region.ready md ops listed=[L])
 (h:∀ K':Act→World→Prop,Shut (∀ a w,zb6 P md ops Q S L fuel (listed.setIfInBounds L true) a w→K' a w)→if Region.wanted o (yielded ops a.tmps)=true then Oper.wp P o a w K' Q else K' (a.put o.dst undef) w):zb6 P md ops Q S L (fuel+1) listed a w:=by
 refine ⟨fun h0=>(by rw [hr] at h0;cases h0),fun j hj=>?_⟩;rw [hr] at hj
 obtain rfl:j=L:=by simpa using hj
 exact wpOp_step ho (fun K' hK=>h K' (fun a w hW=>hK a w ⟨fun hn=>absurd rfl hn,hW⟩))
theorem zeI {listed:Array Bool} {a:Act} {w:World} (hr:Region.ready md ops listed=[]) (h:Q .normal a w):∀ fuel,zb6 P md ops Q S L fuel listed a w
 | 0=>⟨hr,h⟩
 | _+1=>⟨fun _=>h,by rw [hr];simp⟩
theorem zeJ {id:Nat} {a:Act} {w:World} (L:Nat) (S:World→Prop) (hm:P.follows .mixedOrders=true) (hS:S w.drew)
 (h:S w.drew→zb6 P .any ops Q S L ops.size (Array.replicate ops.size false) a w.drew):(Code.region id ops true).wp P Q a w:=
 wp_region_any hm (zfo _ _ _ _ (h hS))
end
theorem SL {α : Type} : (∀ (l : List α) (i : Nat) (v : α), l.toArray.setIfInBounds i v = (l.set i v).toArray) ∧ (∀ (a : α) (l : List α) (b : α), (a :: l).set 0 b = b :: l) ∧ (∀ (a : α) (l : List α) (n : Nat) (b : α), (a :: l).set (n + 1) b = a :: l.set n b) ∧ (∀ (l : List α) (i : Nat) (h : i < l.toArray.size), l.toArray[i] = l[i]'(by simpa using h)) ∧ (∀ (a : α) (l : List α) (n : Nat) (h : n + 1 < (a :: l).length), (a :: l)[n + 1] = l[n]'(by simpa using h)) ∧ ∀ (a : α) (l : List α) (h : 0 < (a :: l).length), (a :: l)[0] = a := ⟨fun _ _ _ => List.setIfInBounds_toArray .., fun _ _ _ => rfl, fun _ _ _ _ => rfl, fun _ _ _ => rfl, fun _ _ _ _ => rfl, fun _ _ _ => rfl⟩
section
variable {P:Program} {ops:Array Oper} {Q:Exit→Act→World→Prop} {md:Region.Mode} {S:World→Prop} {L:Nat}
def zaU (P:Program) (md:Region.Mode) (ops:Array Oper) (Q:Exit→Act→World→Prop) (S:World→Prop) (L:Nat):Nat→Array Bool→Act→World→Prop
 | 0,listed,a,w=>Region.ready md ops listed=[]∧Q .normal a w
 | fuel+1,listed,a,w=>
  (Region.ready md ops listed=[]→Q .normal a w)∧
  ∀ i∈Region.ready md ops listed,wpOp P ops Q i (fun a' w'=>((listed.setIfInBounds i true).getD L false=false→S w')∧zaU P md ops Q S L fuel (listed.setIfInBounds i true) a' w') a w
theorem zfp:∀ (fuel:Nat) (listed:Array Bool) (a:Act) (w:World),zaU P md ops Q S L fuel listed a w→wpAny P md ops Q fuel listed a w
 | 0,_,_,_,h=>h
 | fuel+1,_,_,_,h=>⟨h.1,fun i hi=>wpOp_mono (fun a' w' h'=>zfp fuel _ a' w' h'.2) (h.2 i hi)⟩
theorem zgC {i:Nat} {oi:Oper} {v:Value} (hi:ops[i]?=some oi) (hsel:∀ (j:Nat) (o:Oper) cs b,ops[j]?=some o→o.op≠.select cs b)
 (hQ:∀ c a w,Q (.panic c) (a.put oi.dst v) w→Q (.panic c) a w) (hLi:L≠i) {n:Nat} (hd:depB md ops n L i=true) :
 ∀ (fuel:Nat) (listed:Array Bool) (a:Act) (w:World),zc3 md ops listed→
  (∀ j oj,ops[j]?=some oj→j≠i→listed.getD j true=false→(∀ e∈oj.after,Region.binds md e=true→e.on≠i)→oi.apart ops oj=true)→
  i∈Region.ready md ops listed→YieldsIf P ops S oi v a→S w→
  zaU P md ops Q S L fuel (listed.setIfInBounds i true) (a.put oi.dst v) w→zaU P md ops Q S L (fuel+1) listed a w:=by
 intro fuel
 induction fuel with
 | zero=>
  intro listed a w _ _ hr hy hS H;refine ⟨fun h=>(by rw [h] at hr;cases hr),fun j hj=>?_⟩
  by_cases hji:j=i
  ·subst hji;exact hy.wpOp hi hS ⟨fun _=>hS,H⟩
  ·have:=ready_mono hj hji
   rw [H.1] at this
   cases this
 | succ fuel ih=>
  intro listed a w hcl hfree hr hy hS H;refine ⟨fun h=>(by rw [h] at hr;cases hr),fun j hj=>?_⟩
  by_cases hji:j=i
  ·subst hji;exact hy.wpOp hi hS ⟨fun _=>hS,H⟩
  ·have hjL:j≠L:=fun h=>by
    subst h;exact zgA hcl hLi hd (zbi (mem_ready.1 hr).1) hj
   have h1:=H.2 j (ready_mono hj hji);obtain ⟨hjun,oj,hoj,hall⟩:=mem_ready.1 hj
   have hnot:∀ e∈oj.after,Region.binds md e=true→e.on≠i:=fun e he hb heq=>by
    have h1:=hall e he hb;have h0:=zbi (mem_ready.1 hr).1;rw [heq,h0] at h1
    cases h1
   have h2:=wpOp_putIf hoj (hfree j oj hoj hji hjun hnot) (fun cs b=>hsel i oi cs b hi) (fun cs b=>hsel j oj cs b hoj) hQ hy h1
   have hfree':∀ k ok,ops[k]?=some ok→k≠i→(listed.setIfInBounds j true).getD k true=false→
    (∀ e∈ok.after,Region.binds md e=true→e.on≠i)→oi.apart ops ok=true:=fun k ok hk hki hun hno=>by
    refine hfree k ok hk hki ?_ hno
    by_cases hjk:j=k
    ·subst hjk;exact hjun
    ·rw [getD_set_ne true hjk] at hun;exact hun
   have hLn:(listed.setIfInBounds j true).getD L false=false:=by
    rw [getD_set_ne false hjL]
    cases hg:listed.getD L false with
    | false=>rfl
    | true=>have:=zdU hcl n L i hd hg;rw [zbi (mem_ready.1 hr).1] at this;cases this
   have hLn2:((listed.setIfInBounds i true).setIfInBounds j true).getD L false=false:=by
    rw [← Array.setIfInBounds_comm _ _ hji,getD_set_ne false (Ne.symm hLi)];exact hLn
   refine wpOp_mono (fun a' w' h3=>⟨fun _=>h3.2.1 hLn2,ih (listed.setIfInBounds j true) a' w' (zdp hcl hj) hfree' (ready_mono hr (Ne.symm hji)) h3.1 (h3.2.1 hLn2) ?_⟩) h2;rw [Array.setIfInBounds_comm _ _ hji];exact h3.2.2
theorem zd6 {i:Nat} {oi:Oper} {v:Value} (hi:ops[i]?=some oi) (hsel:∀ (j:Nat) (o:Oper) cs b,ops[j]?=some o→o.op≠.select cs b)
 (hQ:∀ c a w,Q (.panic c) (a.put oi.dst v) w→Q (.panic c) a w) (hLi:L≠i) :
 ∀ (fuel:Nat) (listed:Array Bool) (a:Act) (w:World),zc3 md ops listed→
  (∀ j oj,ops[j]?=some oj→j≠i→listed.getD j true=false→(∀ e∈oj.after,Region.binds md e=true→e.on≠i)→oi.apart ops oj=true)→
  i∈Region.ready md ops listed→YieldsIf P ops (fun _=>True) oi v a→((listed.setIfInBounds i true).getD L false=false→S w)→
  zaU P md ops Q S L fuel (listed.setIfInBounds i true) (a.put oi.dst v) w→zaU P md ops Q S L (fuel+1) listed a w:=by
 intro fuel
 induction fuel with
 | zero=>
  intro listed a w _ _ hr hy hS H;refine ⟨fun h=>(by rw [h] at hr;cases hr),fun j hj=>?_⟩
  by_cases hji:j=i
  ·subst hji;exact hy.wpOp hi trivial ⟨hS,H⟩
  ·have:=ready_mono hj hji
   rw [H.1] at this
   cases this
 | succ fuel ih=>
  intro listed a w hcl hfree hr hy hS H;refine ⟨fun h=>(by rw [h] at hr;cases hr),fun j hj=>?_⟩
  by_cases hji:j=i
  ·subst hji;exact hy.wpOp hi trivial ⟨hS,H⟩
  ·skip
   have h1:=H.2 j (ready_mono hj hji);obtain ⟨hjun,oj,hoj,hall⟩:=mem_ready.1 hj
   have hnot:∀ e∈oj.after,Region.binds md e=true→e.on≠i:=fun e he hb heq=>by
    have h1:=hall e he hb;have h0:=zbi (mem_ready.1 hr).1;rw [heq,h0] at h1
    cases h1
   have h2:=wpOp_putIf hoj (hfree j oj hoj hji hjun hnot) (fun cs b=>hsel i oi cs b hi) (fun cs b=>hsel j oj cs b hoj) hQ hy h1
   have hfree':∀ k ok,ops[k]?=some ok→k≠i→(listed.setIfInBounds j true).getD k true=false→
    (∀ e∈ok.after,Region.binds md e=true→e.on≠i)→oi.apart ops ok=true:=fun k ok hk hki hun hno=>by
    refine hfree k ok hk hki ?_ hno
    by_cases hjk:j=k
    ·subst hjk;exact hjun
    ·rw [getD_set_ne true hjk] at hun;exact hun
   refine wpOp_mono (fun a' w' h3=>?_) h2;have hk:((listed.setIfInBounds j true).setIfInBounds i true).getD L false=false→S w':=fun hn=>h3.2.1 (by rw [Array.setIfInBounds_comm _ _ (Ne.symm hji)];exact hn);refine ⟨fun hn=>?_,ih (listed.setIfInBounds j true) a' w' (zdp hcl hj) hfree' (ready_mono hr (Ne.symm hji)) h3.1 hk ?_⟩
   ·exact hk (by rw [getD_set_ne false (Ne.symm hLi)];exact hn)
   ·rw [Array.setIfInBounds_comm _ _ hji]
    exact h3.2.2
theorem zaa {i:Nat} {oi:Oper} {v:Value} {fuel:Nat} {listed:Array Bool} {a:Act} {w:World} (hi:ops[i]?=some oi)
 (hs:(Region.noSelect ops&&Region.free md ops listed i&&(Region.ready md ops listed).contains i&&!(L==i)&&zbJ md ops listed)=true)
 (hQ:∀ c a w,Q (.panic c) (a.put oi.dst v) w→Q (.panic c) a w) (hy:YieldsIf P ops (fun _=>True) oi v a) (hS:S w)
 (h:zaU P md ops Q S L fuel (listed.setIfInBounds i true) (a.put oi.dst v) w):zaU P md ops Q S L (fuel+1) listed a w:=by
 simp only [Bool.and_eq_true,Bool.not_eq_true',beq_eq_false_iff_ne] at hs
 obtain ⟨⟨⟨⟨h1,h2⟩,h3⟩,h4⟩,h6⟩:=hs;exact zd6 hi (Region.noSelect_spec h1) hQ h4 fuel listed a w (zdE h6) (Region.free_spec hi h2) (by simpa using h3) hy (fun _=>hS) h
theorem zai {i:Nat} {oi:Oper} {v:Value} {fuel:Nat} {listed:Array Bool} {a:Act} {w:World} (hi:ops[i]?=some oi)
 (hs:(Region.noSelect ops&&Region.free md ops listed i&&(Region.ready md ops listed).contains i&&!(L==i)&&zbJ md ops listed&&listed.getD L false)=true)
 (hQ:∀ c a w,Q (.panic c) (a.put oi.dst v) w→Q (.panic c) a w) (hy:YieldsIf P ops (fun _=>True) oi v a)
 (h:zaU P md ops Q S L fuel (listed.setIfInBounds i true) (a.put oi.dst v) w):zaU P md ops Q S L (fuel+1) listed a w:=by
 simp only [Bool.and_eq_true,Bool.not_eq_true',beq_eq_false_iff_ne] at hs
 obtain ⟨⟨⟨⟨⟨h1,h2⟩,h3⟩,h4⟩,h6⟩,h7⟩:=hs;exact zd6 hi (Region.noSelect_spec h1) hQ h4 fuel listed a w (zdE h6) (Region.free_spec hi h2) (by simpa using h3) hy (fun hn=>by rw [getD_set_ne false (Ne.symm h4),h7] at hn;cases hn) h
theorem zaf {i:Nat} {oi:Oper} {v:Value} {fuel:Nat} {listed:Array Bool} {a:Act} {w:World} (n:Nat) (hi:ops[i]?=some oi)
 (hs:(Region.noSelect ops&&Region.free md ops listed i&&(Region.ready md ops listed).contains i&&!(L==i)&&depB md ops n L i&&zbJ md ops listed)=true)
 (hQ:∀ c a w,Q (.panic c) (a.put oi.dst v) w→Q (.panic c) a w) (hy:YieldsIf P ops S oi v a) (hS:S w)
 (h:zaU P md ops Q S L fuel (listed.setIfInBounds i true) (a.put oi.dst v) w):zaU P md ops Q S L (fuel+1) listed a w:=by
 simp only [Bool.and_eq_true,Bool.not_eq_true',beq_eq_false_iff_ne] at hs
 obtain ⟨⟨⟨⟨⟨h1,h2⟩,h3⟩,h4⟩,h5⟩,h6⟩:=hs;exact zgC hi (Region.noSelect_spec h1) hQ h4 h5 fuel listed a w (zdE h6) (Region.free_spec hi h2) (by simpa using h3) hy hS h
theorem zlL (i:Nat) {oi:Oper} {v:Value} {fuel:Nat} {listed:Array Bool} {a:Act} {w:World} (hi:ops[i]?=some oi) (hy:∀ w,True→(execOp a.eval oi).run P w=.ok (.value v) w) (h:zaU P md ops Q S L fuel (listed.setIfInBounds i true) (a.put oi.dst v) w) (hs:(Region.noSelect ops && Region.free md ops listed i && (Region.ready md ops listed).contains i && !(L==i) && zbJ md ops listed)=true:=by kernel_rfl) (hQ:∀ c a w,Q (.panic c) (a.put oi.dst v) w→Q (.panic c) a w:=by exact fun _ _ _ h=>h) (hw:Region.wanted oi (yielded ops a.tmps)=true:=by first | kernel_rfl | rfl) (hS:S w:=by assumption):zaU P md ops Q S L (fuel+1) listed a w:=zaa hi hs hQ (Or.inl ⟨hw,hy⟩) hS h
theorem zlz (i:Nat) {oi:Oper} {v:Value} {fuel:Nat} {listed:Array Bool} {a:Act} {w:World} (hi:ops[i]?=some oi) (hy:∀ w,True→(execOp a.eval oi).run P w=.ok (.value v) w) (h:zaU P md ops Q S L fuel (listed.setIfInBounds i true) (a.put oi.dst v) w) (hs:(Region.noSelect ops && Region.free md ops listed i && (Region.ready md ops listed).contains i && !(L==i) && zbJ md ops listed && listed.getD L false)=true:=by kernel_rfl) (hQ:∀ c a w,Q (.panic c) (a.put oi.dst v) w→Q (.panic c) a w:=by exact fun _ _ _ h=>h) (hw:Region.wanted oi (yielded ops a.tmps)=true:=by first | kernel_rfl | rfl):zaU P md ops Q S L (fuel+1) listed a w:=zai hi hs hQ (Or.inl ⟨hw,hy⟩) h
theorem zlM (i:Nat) {oi:Oper} {v:Value} {fuel:Nat} {listed:Array Bool} {a:Act} {w:World} (hi:ops[i]?=some oi) (hy:∀ w,S w→(execOp a.eval oi).run P w=.ok (.value v) w) (h:zaU P md ops Q S L fuel (listed.setIfInBounds i true) (a.put oi.dst v) w) (hs:(Region.noSelect ops && Region.free md ops listed i && (Region.ready md ops listed).contains i && !(L==i) && depB md ops 16 L i && zbJ md ops listed)=true:=by kernel_rfl) (hQ:∀ c a w,Q (.panic c) (a.put oi.dst v) w→Q (.panic c) a w:=by exact fun _ _ _ h=>h) (hw:Region.wanted oi (yielded ops a.tmps)=true:=by first | kernel_rfl | rfl) (hS:S w:=by assumption):zaU P md ops Q S L (fuel+1) listed a w:=zaf 16 hi hs hQ (Or.inl ⟨hw,hy⟩) hS h
theorem zlN (i:Nat) {oi:Oper} {v:Value} {fuel:Nat} {listed:Array Bool} {a:Act} {w:World} (hi:ops[i]?=some oi) (h:zaU P md ops Q S L fuel (listed.setIfInBounds i true) (a.put oi.dst v) w) (hy:∀ w,True→(execOp a.eval oi).run P w=.ok (.value v) w:=by intro w' hSw;go_simp;try with_reducible rfl) (hs:(Region.noSelect ops && Region.free md ops listed i && (Region.ready md ops listed).contains i && !(L==i) && zbJ md ops listed)=true:=by kernel_rfl) (hQ:∀ c a w,Q (.panic c) (a.put oi.dst v) w→Q (.panic c) a w:=by exact fun _ _ _ h=>h) (hw:Region.wanted oi (yielded ops a.tmps)=true:=by first | kernel_rfl | rfl) (hS:S w:=by assumption):zaU P md ops Q S L (fuel+1) listed a w:=zaa hi hs hQ (Or.inl ⟨hw,hy⟩) hS h
theorem zlO (i:Nat) {oi:Oper} {v:Value} {fuel:Nat} {listed:Array Bool} {a:Act} {w:World} (hi:ops[i]?=some oi) (h:zaU P md ops Q S L fuel (listed.setIfInBounds i true) (a.put oi.dst v) w) (hy:∀ w,S w→(execOp a.eval oi).run P w=.ok (.value v) w:=by intro w' hSw;(try dsimp only at hSw);(repeat (have _q:=And.left hSw;replace hSw:=And.right hSw));go_simp;try with_reducible rfl) (hs:(Region.noSelect ops && Region.free md ops listed i && (Region.ready md ops listed).contains i && !(L==i) && depB md ops 16 L i && zbJ md ops listed)=true:=by kernel_rfl) (hQ:∀ c a w,Q (.panic c) (a.put oi.dst v) w→Q (.panic c) a w:=by exact fun _ _ _ h=>h) (hw:Region.wanted oi (yielded ops a.tmps)=true:=by first | kernel_rfl | rfl) (hS:S w:=by assumption):zaU P md ops Q S L (fuel+1) listed a w:=zaf 16 hi hs hQ (Or.inl ⟨hw,hy⟩) hS h
theorem zlP (i:Nat) {oi:Oper} {fuel:Nat} {listed:Array Bool} {a:Act} {w:World} (hi:ops[i]?=some oi) (h:zaU P md ops Q S L fuel (listed.setIfInBounds i true) (a.put oi.dst undef) w) (hs:(Region.noSelect ops && Region.free md ops listed i && (Region.ready md ops listed).contains i && !(L==i) && zbJ md ops listed)=true:=by kernel_rfl) (hQ:∀ c a w,Q (.panic c) (a.put oi.dst undef) w→Q (.panic c) a w:=by exact fun _ _ _ h=>h) (hw:Region.wanted oi (yielded ops a.tmps)=false:=by kernel_rfl) (hS:S w:=by assumption):zaU P md ops Q S L (fuel+1) listed a w:=zaa hi hs hQ (Or.inr ⟨hw,rfl⟩) hS h
theorem zar {i:Nat} {o:Oper} {fuel:Nat} {listed:Array Bool} {a:Act} {w:World} (ho:ops[i]?=some o) (hr:Region.ready md ops listed=[i]) (hL:(listed.setIfInBounds i true).getD L false=true)
 (h:∀ K':Act→World→Prop,Shut (∀ a w,zaU P md ops Q S L fuel (listed.setIfInBounds i true) a w→K' a w)→if Region.wanted o (yielded ops a.tmps)=true then Oper.wp P o a w K' Q else K' (a.put o.dst undef) w):zaU P md ops Q S L (fuel+1) listed a w:=by
 refine ⟨fun h0=>(by rw [hr] at h0;cases h0),fun j hj=>?_⟩;rw [hr] at hj
 obtain rfl:j=i:=by simpa using hj
 exact wpOp_step ho (fun K' hK=>h K' (fun a w hW=>hK a w ⟨fun hn=>(by rw [hL] at hn;cases hn),hW⟩))
theorem zas {listed:Array Bool} {a:Act} {w:World} (hr:Region.ready md ops listed=[]) (h:Q .normal a w):∀ fuel,zaU P md ops Q S L fuel listed a w
 | 0=>⟨hr,h⟩
 | _+1=>⟨fun _=>h,by rw [hr];simp⟩
theorem zax {id:Nat} {a:Act} {w:World} (L:Nat) (S:World→Prop) (hm:P.follows .mixedOrders=true) (hS:S w.drew)
 (h:S w.drew→zaU P .any ops Q S L ops.size (Array.replicate ops.size false) a w.drew):(Code.region id ops true).wp P Q a w:=
 wp_region_any hm (zfp _ _ _ _ (h hS))
theorem zbc {i:Nat} {o:Oper} {fuel:Nat} {listed:Array Bool} {a:Act} {w:World} (ho:ops[i]?=some o) (hr:Region.ready md ops listed=[i]) (hL:(listed.setIfInBounds i true).getD L false=true) (hg:o.guard=none) (hd:o.dst=none) (T:TypeId) (x y:Operand) (hop:o.op=.store T x y)
 (b off:Nat) (cells:List Value) (hx:a.eval x=.pointer (some ⟨b,off,none⟩)) (hy:a.eval y=.agg cells.toArray) (ht:w.there b off cells.length) (hi:(P.info? T).map (·.size)=some cells.length) (h1:∀ v,v∈cells→v.oneCell'=true)
 (h:zaU P md ops Q S L fuel (listed.setIfInBounds i true) a (w.setCells b off cells)):zaU P md ops Q S L (fuel+1) listed a w:=by
 refine zar ho hr hL (fun KC hKC=>?_)
 have hw:Region.wanted o (yielded ops a.tmps)=true:=by simp [Region.wanted,hg]
 rw [if_pos hw];refine wp_store_mid T x y hop b off cells.toArray hx hy (by simpa using ht) (by simpa using hi) (by simpa using h1) ?_
 have e:a.put o.dst undef=a:=by rw [hd];rfl
 rw [e];exact hKC _ _ h
end
end Go.Proofs.YtajibninhikdgaaGreat
namespace Go.Proofs.YtajibninhikdgaaGreat
open Go.RowKit F256
theorem OwnI.full {w:World} {lo hi g n:Nat} {f:Nat→Int} (h:OwnI w lo hi (.slice (some ⟨g,0,none⟩) n n) n f):w.heap[g]?=some (.cells (za2 n f).toArray 2 (0,0)):=by
 rcases h.1.2 with ⟨h',_⟩ | ⟨g',cap',cur,h',_,hg,_,_,hcs,htake⟩
 ·simp at h'
 ·simp only [Value.slice.injEq,Option.some.injEq,Addr.mk.injEq,and_true,true_and] at h'
  obtain ⟨rfl,rfl⟩:=h'
  have:cur=(za2 n f).toArray:=by
   rw [← htake,List.take_of_length_le (by simp;omega)]
  rw [← this];exact hg
theorem zgD {w:World} {lo g n:Nat} {f:Nat→Int} (hg:w.heap[g]?=some (.cells (za2 n f).toArray 2 (0,0))) (hlo:lo≤g) (hm:n≤maxLen):OwnI w lo w.heap.size (.slice (some ⟨g,0,none⟩) n n) n f:=
 ⟨⟨by rw [zav];omega,.inr ⟨g,n,_,rfl,hlo,hg,Nat.le_refl _,hm,by simp [zav],by simp [List.take_of_length_le,zav]⟩⟩,fun k hk=>by
  simp [Value.ownBlock] at hk
  subst hk
  exact (Array.getElem?_eq_some_iff.1 hg).1⟩
theorem zhx (N off m:Nat) (f t h:Nat→Int) (hm:off+m≤N) (hh:∀ i,i<N→h i=if off≤i∧i<off+m then t (i-off) else f i):splice (za2 N f) off (za2 m t)=za2 N h:=by
 unfold splice
 apply List.ext_getElem?
 intro i
 by_cases hi:i<N
 ·rw [za8 N h i hi,hh i hi]
  by_cases h1:i<off
  ·have e1:¬ (off≤i∧i<off+m):=by omega
   rw [if_neg e1,List.getElem?_append_left (by rw [List.length_take,zav];omega),List.getElem?_take,if_pos h1,za8 N f i hi]
  ·rw [List.getElem?_append_right (by rw [List.length_take,zav];omega)]
   have e0:(List.take off (za2 N f)).length=off:=by rw [List.length_take,zav];omega
   rw [e0]
   by_cases h2:i<off+m
   ·rw [if_pos ⟨by omega,h2⟩,List.getElem?_append_left (by rw [zav];omega),za8 m t _ (by omega)]
   ·have e1:¬ (off≤i∧i<off+m):=by omega
    rw [if_neg e1,List.getElem?_append_right (by rw [zav];omega),zav,List.getElem?_drop,show off+m+(i-off-m)=i by omega,za8 N f i hi]
 ·rw [List.getElem?_eq_none (by simp [zav];omega),List.getElem?_eq_none (by rw [zav];omega)]
theorem zgE {w:World} {hi n cap:Nat} {ao:Option Addr} {f:Nat→Int} (r:RdI w hi (.slice ao n cap) n f) (h:0<(za2 n f).length):∃ ad,ao=some ad∧∀ j v,(za2 n f)[j]?=some v→w.cell? (ad.add j)=some v:=by
 rw [zav] at h;obtain ⟨ao',cap',he,_,hc⟩:=r
 simp only [Value.slice.injEq,true_and] at he
 obtain ⟨rfl,rfl⟩:=he;obtain ⟨b,off,rfl,_,hcell⟩:=hc (by omega);refine ⟨_,rfl,fun j v hj=>?_⟩
 by_cases hjn:j<n
 ·rw [za8 n f j hjn] at hj
  rw [add_none',hcell j hjn];exact hj
 ·rw [List.getElem?_eq_none (by rw [zav];omega)] at hj
  cases hj
theorem zfq (n:Nat) (f:Nat→Int):∀ v∈za2 n f,v.oneCell'=true:=fun v hv=>by
 simp only [za2,List.mem_map] at hv
 obtain ⟨i,_,rfl⟩:=hv;rfl
theorem zkC:(Tryz.prog.info? 2).map (·.size)=some 1:=by kernel_rfl
theorem zk1 {w:World} {lo hi n:Nat} {v:Value} {f:Nat→Int} (h:OwnI w lo hi v n f) (hh:hi≤w.heap.size) (kf:∀ i,-9223372036854775808≤f i∧f i≤9223372036854775807):OwnT zaj w lo hi (n,f) [v]:=by
 refine ⟨v.ownBlock.toList,⟨v,rfl,rfl,h.weaken (Nat.zero_le _) hh,kf⟩,?_,fun b hb=>?_⟩
 ·cases v.ownBlock<;>simp
 ·have hb':v.ownBlock=some b:=by simpa using hb
  exact ⟨(h.1.lt b hb').1,h.2 b hb'⟩
def ToF {α:Type} (A:Lay α) (sz:α→Nat) (fn g:Nat):Prop:=∀ (v:Value) (d:α) (hi:Nat) (w:World),A.rd w hi d [v]→hi≤w.heap.size→sz d≤1048576→
 Calls Tryz.prog fn #[v,.func (.func g) #[] #[]] w fun e w'=>∃ v',e=.returned v'∧OwnT A w' w.heap.size w'.heap.size d [v']∧Below w.heap.size w w'
theorem zd7:ToS zac lenD 103:=fun v d hi w h hhi hn=>by
 obtain ⟨n,f⟩:=d;obtain ⟨v',e1,r1,kf⟩:=h
 cases e1
 simp only at r1 kf
 skip
 have hn':n≤1048576:=hn;clear hn;have R1:=fun (w1:World) (hb:Below w.heap.size w w1)=>r1.below hb hhi;obtain ⟨ao,cap,rfl,hm1,hc1⟩:=r1;clear hc1;have HS:Hid (splice (cellsOf n fun _=>0) 0 (cellsOf n f)=cellsOf n f):=zgm n 0 n _ f f (by omega) (fun i hi=>by simp [hi])
 have L1:(cellsOf n f).length=Nat.min n n:=by rw [zaq];exact (Nat.min_self n).symm
 have L2:0+(cellsOf n f).length≤(cellsOf n fun _=>0).length:=by simp [zaq]
 have HL1:=hid L1;have HL2:=hid L2;clear L1 L2
 go_enter Tryz.func103,Tryz.ntmps103
 go_wp2_with (first | (at_make;refine zhY _ rfl _ _ rfl _ _ n rfl rfl (by simp) (by simp) (by omega) ?_;intro w1 hown1 hb1 hz1) | (refine wpList_copy_splice rfl (.tmp 7) (.tmp 8) 81 81 rfl 5 Tryz.underlying81 zlb (some ⟨w.heap.size,0,none⟩) ao n n n cap rfl rfl w.heap.size 0 (cellsOf n fun _=>0) 5 hown1.full (cellsOf n f) HL1.out (fun hp=>⟨rfl,zh7 (R1 w1 hb1) hp⟩) HL2.out (zeA n f) w.heap.size w hb1 (Nat.le_refl _) ?_;intro w2 hF2 hb2))
 go_ret;have F2:=hF2.out;rw [HS.out] at F2;exact ⟨_,rfl,zkY (zhg F2 (Nat.le_refl _) (by unfold maxLen;omega)) (Nat.le_refl _) kf,hb2⟩
theorem zhy:ToS zaj lenD 102:=fun v d hi w h hhi hn=>by
 obtain ⟨n,f⟩:=d;obtain ⟨v',e1,r1,kf⟩:=h
 cases e1
 simp only at r1 kf
 replace r1:=r1.1;have hn':n≤1048576:=hn;clear hn;have R1:=fun (w1:World) (hb:Below w.heap.size w w1)=>r1.below hb hhi;obtain ⟨ao,cap,rfl,hm1,hc1⟩:=r1;clear hc1;have HS:Hid (splice (za2 n fun _=>0) 0 (za2 n f)=za2 n f):=zhx n 0 n _ f f (by omega) (fun i hi=>by simp [hi])
 have L1:(za2 n f).length=Nat.min n n:=by rw [zav];exact (Nat.min_self n).symm
 have L2:0+(za2 n f).length≤(za2 n fun _=>0).length:=by simp [zav]
 have HL1:=hid L1;have HL2:=hid L2;clear L1 L2
 go_enter Tryz.func102,Tryz.ntmps102
 go_wp2_with (first | (at_make;refine zh0 _ rfl _ _ rfl _ _ n rfl rfl (by simp) (by simp) (by omega) ?_;intro w1 hown1 hb1 hz1) | (refine wpList_copy_splice rfl (.tmp 7) (.tmp 8) 25 25 rfl 2 Tryz.underlying25 zkC (some ⟨w.heap.size,0,none⟩) ao n n n cap rfl rfl w.heap.size 0 (za2 n fun _=>0) 2 hown1.full (za2 n f) HL1.out (fun hp=>⟨rfl,zgE (R1 w1 hb1) hp⟩) HL2.out (zfq n f) w.heap.size w hb1 (Nat.le_refl _) ?_;intro w2 hF2 hb2))
 go_ret;have F2:=hF2.out;rw [HS.out] at F2;exact ⟨_,rfl,zk1 (zgD F2 (Nat.le_refl _) (by unfold maxLen;omega)) (Nat.le_refl _) kf,hb2⟩
theorem run_append_none' {P:Program} (w:World) (base:Nat) (t ty e:TypeId) (i:TypeInfo) (size:Nat) (ht:P.underlying t=some (.slice e)) (hi:P.info? e=some i) (v:Value) (n c:Nat) (xs:List Value) (hown:w.ownsRow base e size v n xs) :
 (Builtin.append_ #[t,t] ty #[v,.slice none 0 c]).run P w=.ok v w:=by
 rcases hown.2 with ⟨rfl,rfl⟩ | ⟨g,cap,cur,rfl,_,_,hnc,_⟩
 ·simp [Builtin.append_,run_underlying ht,sizeOf,typeInfo,hi,Builtin.lenOf,Builtin.firstCells]
 ·simp [Builtin.append_,run_underlying ht,sizeOf,typeInfo,hi,Builtin.lenOf,Builtin.firstCells,hnc,storeCells]
theorem zhz (w:World) (e:TypeId):(w.alloc (.cells #[] e)).ownsRow w.heap.size e 1 (.slice (some ⟨w.heap.size,0,none⟩) 0 0) 0 []:=World.ownsRow_lit (base:=w.heap.size) (e:=e) (size:=1) w #[] 0 (Nat.le_refl _) (Nat.zero_le _) rfl
theorem zeK {T e:TypeId} {z:Value} {by_:Nat} (hu:Tryz.prog.underlying T=some (.slice e)) (hi:(Tryz.prog.info? e).map (fun i=>(i.zero,i.size,i.bytes))=some (some z,1,by_)) (hz:z.cells.size=1) (hby:by_≤100) (ty:TypeId) (W:World) (p:Nat) (hown:W.ownsRow p e 1 (.slice (some ⟨p,0,none⟩) 0 0) 0 [])
 (ao:Option Addr) (m cap:Nat) (cs:List Value) (hl:cs.length=m) (hsrc:0<cs.length→∃ ad,ao=some ad∧∀ j v,cs[j]?=some v→W.cell? (ad.add j)=some v) (h1:∀ v∈cs,v.oneCell'=true) (hm:m≤10000000) :
 ∃ v' w',(Builtin.append_ #[T,T] ty #[.slice (some ⟨p,0,none⟩) 0 0,.slice ao m cap]).run Tryz.prog W=.ok v' w'∧w'.ownsRow p e 1 v' m cs∧Below p W w':=by
 obtain ⟨i0,hi0,hz0,hz1,hz2⟩:=info_parts hi;have hlo:p≤W.heap.size:=Nat.le_of_lt (hown.lt p rfl).2
 have big:∀ ad,ao=some ad→(∀ j v,cs[j]?=some v→W.cell? (ad.add j)=some v)→∃ v' w',(Builtin.append_ #[T,T] ty #[.slice (some ⟨p,0,none⟩) 0 0,.slice ao m cap]).run Tryz.prog W=.ok v' w'∧w'.ownsRow p e 1 v' m cs∧Below p W w':=fun ad ha hc=>by
  subst ha
  have hb2:(0+m)*by_≤140737488355328:=by
   have:(0+m)*by_≤10000000*100:=Nat.mul_le_mul (by omega) hby;omega
  obtain ⟨v',w',hr,r1,r2,_⟩:=run_append_own_at (P:=Tryz.prog) W p T ty e i0 z 1 by_ hu hi0 hz0 hz1 hz2 hz (by decide) _ 0 [] hown ad m cap cs (by omega) hc h1 (by unfold maxLen;omega) hb2 hlo;refine ⟨v',w',hr,?_,(Below.refl _ _).grown r2 hlo (fun k hk=>(hown.lt k hk).1)⟩;rw [Nat.zero_add,List.nil_append] at r1;exact r1
 by_cases h0:0<cs.length
 ·obtain ⟨ad,ha,hc⟩:=hsrc h0
  exact big ad ha hc
 ·have hcs:cs=[]:=List.eq_nil_of_length_eq_zero (by omega)
  subst hcs
  cases ao with
  | some ad=>exact big ad rfl (fun j v hj=>by simp at hj)
  | none=>
   have hm0:m=0:=by simpa using hl.symm
   subst hm0;exact ⟨_,W,run_append_none' W p T ty e i0 1 hu hi0 _ 0 cap _ hown,hown,Below.refl _ _⟩
theorem one_i:(Value.int .i64 0).cells.size=1:=rfl
theorem one_b:(Value.int .u8 0).cells.size=1:=rfl
theorem zgF (ty:TypeId) (W:World) (p:Nat) (hown:W.ownsRow p 2 1 (.slice (some ⟨p,0,none⟩) 0 0) 0 []) {hi m cap:Nat} {ao:Option Addr} {f:Nat→Int} (r:zaj.rd W hi (m,f) [.slice ao m cap]) (hm:m≤10000000) :
 ∃ v' w',(Builtin.append_ #[25,25] ty #[.slice (some ⟨p,0,none⟩) 0 0,.slice ao m cap]).run Tryz.prog W=.ok v' w'∧OwnT zaj w' p w'.heap.size (m,f) [v']∧Below p W w':=by
 obtain ⟨v,e,⟨r1,_⟩,kf⟩:=r
 cases e
 obtain ⟨v',w',hr,h2,h3⟩:=zeK Tryz.underlying25 zhZ one_i (by decide) ty W p hown ao m cap (za2 m f) (zav m f) (fun hp=>zgE r1 hp) (zfq m f) hm;exact ⟨v',w',hr,zk1 ⟨h2,fun k hk=>(h2.lt k hk).2⟩ (Nat.le_refl _) kf,h3⟩
theorem zd8 (ty:TypeId) (W:World) (p:Nat) (hown:W.ownsRow p 5 1 (.slice (some ⟨p,0,none⟩) 0 0) 0 []) {hi m cap:Nat} {ao:Option Addr} {f:Nat→Nat} (r:zac.rd W hi (m,f) [.slice ao m cap]) (hm:m≤10000000) :
 ∃ v' w',(Builtin.append_ #[81,81] ty #[.slice (some ⟨p,0,none⟩) 0 0,.slice ao m cap]).run Tryz.prog W=.ok v' w'∧OwnT zac w' p w'.heap.size (m,f) [v']∧Below p W w':=by
 obtain ⟨v,e,r1,kf⟩:=r
 cases e
 obtain ⟨v',w',hr,h2,h3⟩:=zeK Tryz.underlying81 zji one_b (by decide) ty W p hown ao m cap (cellsOf m f) (zaq m f) (fun hp=>zh7 r1 hp) (zeA m f) hm;exact ⟨v',w',hr,zkY ⟨h2,fun k hk=>(h2.lt k hk).2⟩ (Nat.le_refl _) kf,h3⟩
theorem zcC {ops:Array Oper} {rest:List Oper} {o:Oper} {a:Act} {W w':World} {Q:Exit→Act→World→Prop} {T:TypeId} {v' x1 x2:Value} (hg:o.guard=none) (s y:Operand) (hop:o.op=Op.call { callee:=Callee.builtin Builtin.append,args:=#[s,y],argTypes:=#[T,T] })
 (h1:a.eval s=x1) (h2:a.eval y=x2) (hrun:(Builtin.append_ #[T,T] o.type #[x1,x2]).run Tryz.prog W=.ok v' w') (hK:wpList Tryz.prog ops Q rest (a.put o.dst v') w'):wpList Tryz.prog ops Q (o::rest) a W:=by
 refine wpList_plain hg fun K hK'=>?_;unfold Oper.wp
 simp [execOp,hop,resolve,invoke,builtin,h1,h2,hrun,Result.andThen]
 exact hK' _ _ hK
theorem zaQ {ops:Array Oper} {o:Oper} {a:Act} {W w':World} {K:Act→World→Prop} {Q:Exit→Act→World→Prop} {F:Prop} {T:TypeId} {v' x1 x2:Value} (hg:o.guard=none) (s y:Operand) (hop:o.op=Op.call { callee:=Callee.builtin Builtin.append,args:=#[s,y],argTypes:=#[T,T] })
 (h1:a.eval s=x1) (h2:a.eval y=x2) (hrun:(Builtin.append_ #[T,T] o.type #[x1,x2]).run Tryz.prog W=.ok v' w') (hK:K (a.put o.dst v') w'):if Region.wanted o (yielded ops a.tmps)=true then Oper.wp Tryz.prog o a W K Q else F:=by
 have hw:Region.wanted o (yielded ops a.tmps)=true:=by simp [Region.wanted,hg]
 rw [if_pos hw];unfold Oper.wp
 simp [execOp,hop,resolve,invoke,builtin,h1,h2,hrun,Result.andThen]
 exact hK
end Go.Proofs.YtajibninhikdgaaGreat
namespace Go.Proofs.YtajibninhikdgaaGreat
open Go.RowKit
section
variable {P:Program} {ops:Array Oper} {Q:Exit→Act→World→Prop} {md:Region.Mode} {S:World→Prop} {L:Nat}
theorem za3 {i:Nat} {o:Oper} {fuel:Nat} {listed:Array Bool} {a:Act} {w:World} (ho:ops[i]?=some o) (hr:Region.ready md ops listed=[i])
 (h:∀ K':Act→World→Prop,Shut (∀ a w,S w→zaU P md ops Q S L fuel (listed.setIfInBounds i true) a w→K' a w)→if Region.wanted o (yielded ops a.tmps)=true then Oper.wp P o a w K' Q else K' (a.put o.dst undef) w):zaU P md ops Q S L (fuel+1) listed a w:=by
 refine ⟨fun h0=>(by rw [hr] at h0;cases h0),fun j hj=>?_⟩;rw [hr] at hj
 obtain rfl:j=i:=by simpa using hj
 exact wpOp_step ho (fun K' hK=>h K' (fun a w hS hW=>hK a w ⟨fun _=>hS,hW⟩))
theorem zcD {i j:Nat} {o o':Oper} {fuel:Nat} {listed:Array Bool} {a:Act} {w:World} (ho:ops[i]?=some o) (ho':ops[j]?=some o') (hr:Region.ready md ops listed=[i,j])
 (h:∀ K':Act→World→Prop,Shut (∀ a w,S w→zaU P md ops Q S L fuel (listed.setIfInBounds i true) a w→K' a w)→if Region.wanted o (yielded ops a.tmps)=true then Oper.wp P o a w K' Q else K' (a.put o.dst undef) w)
 (h':∀ K':Act→World→Prop,Shut (∀ a w,S w→zaU P md ops Q S L fuel (listed.setIfInBounds j true) a w→K' a w)→if Region.wanted o' (yielded ops a.tmps)=true then Oper.wp P o' a w K' Q else K' (a.put o'.dst undef) w):zaU P md ops Q S L (fuel+1) listed a w:=by
 refine ⟨fun h0=>(by rw [hr] at h0;cases h0),fun k hk=>?_⟩;rw [hr] at hk
 simp only [List.mem_cons,List.not_mem_nil,or_false] at hk
 rcases hk with rfl | rfl
 ·exact wpOp_step ho (fun K' hK=>h K' (fun a w hS hW=>hK a w ⟨fun _=>hS,hW⟩))
 ·exact wpOp_step ho' (fun K' hK=>h' K' (fun a w hS hW=>hK a w ⟨fun _=>hS,hW⟩))
end
theorem zcE {ops:Array Oper} {o:Oper} {a:Act} {W:World} {K:Act→World→Prop} {Q:Exit→Act→World→Prop} {F:Prop} (hg:o.guard=none) (hop:o.op=Op.buildSlice 30 0 #[])
 (hK:K (a.put o.dst (.slice (some ⟨W.heap.size,0,none⟩) 0 0)) (W.alloc (.cells #[] 83))):if Region.wanted o (yielded ops a.tmps)=true then Oper.wp Tryz.prog o a W K Q else F:=by
 have hw:Region.wanted o (yielded ops a.tmps)=true:=by simp [Region.wanted,hg]
 rw [if_pos hw];unfold Oper.wp execOp
 simp only [hop]
 go_simp;exact hK
theorem zhA {ops:Array Oper} {o:Oper} {a:Act} {W:World} {K:Act→World→Prop} {Q:Exit→Act→World→Prop} {F:Prop} (hg:o.guard=none) (x:Operand) (hop:o.op=Op.buildSlice 30 1 #[(0,x)]) (r:RecD) (b6 b7 b8:Option Addr) (bk6 bk7 bk8:Nat) (hx:a.eval x=.agg #[.int .i64 r.kind,.int .i64 r.seq,.string r.name,.int .i64 r.length,.int .i64 r.group,.int .i64 r.row,.slice b6 r.rows.1 bk6,.slice b7 r.data.1 bk7,.slice b8 r.delta.1 bk8])
 (hK:K (a.put o.dst (.slice (some ⟨W.heap.size,0,none⟩) 1 1)) (W.alloc (.cells #[.int .i64 r.kind,.int .i64 r.seq,.string r.name,.int .i64 r.length,.int .i64 r.group,.int .i64 r.row,.slice b6 r.rows.1 bk6,.slice b7 r.data.1 bk7,.slice b8 r.delta.1 bk8] 83))):if Region.wanted o (yielded ops a.tmps)=true then Oper.wp Tryz.prog o a W K Q else F:=by
 have hw:Region.wanted o (yielded ops a.tmps)=true:=by simp [Region.wanted,hg]
 rw [if_pos hw];unfold Oper.wp execOp
 simp only [hop,List.map_toArray,List.map_cons,List.map_nil,hx]
 go_simp;exact hK
theorem zbB {ops:Array Oper} {o:Oper} {a:Act} {W:World} {K:Act→World→Prop} {Q:Exit→Act→World→Prop} {F:Prop} (hg:o.guard=none) (x:Operand) (hop:o.op=Op.buildSlice 30 1 #[(0,x)]) {w0:World} {hi0:Nat} {r:RecD} {cs:List Value} (hr:zab.rd w0 hi0 r cs) (hx:a.eval x=.agg cs.toArray)
 (hK:K (a.put o.dst (.slice (some ⟨W.heap.size,0,none⟩) 1 1)) (W.alloc (.cells cs.toArray 83))):if Region.wanted o (yielded ops a.tmps)=true then Oper.wp Tryz.prog o a W K Q else F:=by
 obtain ⟨b6,bk6,b7,bk7,b8,bk8,rfl,-⟩:=zaw hr;exact zhA hg x hop r b6 b7 b8 bk6 bk7 bk8 hx hK
end Go.Proofs.YtajibninhikdgaaGreat
