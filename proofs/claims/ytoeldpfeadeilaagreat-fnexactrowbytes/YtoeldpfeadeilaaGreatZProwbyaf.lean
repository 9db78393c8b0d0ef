/- Walk of the specification's RecFault. -/
import Derived.Deep.Cut
import Derived.Laws.Tables
import Derived.Laws.Rows
import Derived.StillTailTactics
import Derived.Lib.MinMax
import Derived.Laws.StructEq
import Derived.Test.YtoeldpfeadeilaaGreatZProwbyae
set_option linter.unusedVariables false
set_option linter.unusedSimpArgs false
set_option maxHeartbeats 16000000
namespace Go.Proofs.YtoeldpfeadeilaaGreat
open Go.RowKit F256
def zfC (s:Nat→Int) (r:RecD) (w:World) (e:Ending) (w':World):Prop:=∃ x,e=.returned (.int .i64 x)∧RecAns s r x∧Below w.heap.size w w'
theorem recP {s:Nat→Int} {r:RecD} {w:World} {e:Ending} {w':World} {x:Int} (he:e=.returned (.int .i64 x)) (h:RecAns s r x) (hb:Below w.heap.size w w'):zfC s r w e w':=⟨x,he,h,hb⟩
theorem exBT {P:Prop} (h:P):true=true↔P:=⟨fun _=>h,fun _=>rfl⟩
theorem exBF {P:Prop} (h:¬ P):false=true↔P:=⟨fun h=>(by cases h),fun hh=>absurd hh h⟩
set_option maxRecDepth 20000 in
theorem zhv (s:Nat→Int) (r:RecD) (cs:List Value) (hi:Nat) (w:World) (h:zad.rd w hi r cs) (hhi:hi≤w.heap.size) (hnm:r.name.size≤1048576) :
 Calls Tryz.prog 78 #[zaf s,.agg cs.toArray] w (zfC s r w):=by
 obtain ⟨kind,seq,name,length,group,row,rows,data,delta⟩:=r;obtain ⟨ao6,cap6,ao7,cap7,ao8,cap8,rfl,g6,g7,g8,k0,k1,k2,k3,k4,k5⟩:=zbL h;have HRD:=hid h;obtain ⟨v6,e6,⟨h6,hcp6⟩,_⟩:=g6
 cases e6
 have H6:=hid h6;have hm6:rows.1≤maxLen:=h6.mx;obtain ⟨v7,e7,⟨_,_,e7',hm7,_⟩,_⟩:=g7
 cases e7
 cases e7'
 obtain ⟨v8,e8,⟨_,_,e8',hm8,_⟩,_⟩:=g8
 cases e8
 cases e8'
 unfold maxLen at hm6 hm7 hm8
 simp only at k0 k1 k2 k3 k4 k5 hm6 hm7 hm8 hnm
 clear h h6 hcp6;have T0:=zaI w (rwS s).toArray #[.int .i64 kind,.int .i64 seq,.string name,.int .i64 length,.int .i64 group,.int .i64 row,.slice ao6 rows.1 cap6,.slice ao7 data.1 cap7,.slice ao8 delta.1 cap8] 34 113;have CSh:=fun w'=>zba s w';unfold zaf at CSh ⊢
 go_enter Tryz.func78,Tryz.ntmps78
 go_wp2_with fail
 refine (CSh _).mono ?_;rintro e w1 ⟨x,rfl,hx,b1⟩;have T1:Two w w1 (rwS s).toArray #[.int .i64 kind,.int .i64 seq,.string name,.int .i64 length,.int .i64 group,.int .i64 row,.slice ao6 rows.1 cap6,.slice ao7 data.1 cap7,.slice ao8 delta.1 cap8] 34 113:=T0.call b1;have HT1:=hid T1;have z1:w.heap.size+1<w1.heap.size:=T1.b2.lt;clear b1 T0 CSh;have x1_0:w1.cell? ⟨w.heap.size,0,none⟩=some (.int .i64 (s 0)):=T1.b1.cell 0;have x1_1:w1.cell? ⟨w.heap.size,1,none⟩=some (.int .i64 (s 1)):=T1.b1.cell 1;have x1_2:w1.cell? ⟨w.heap.size,2,none⟩=some (.int .i64 (s 2)):=T1.b1.cell 2;have x1_3:w1.cell? ⟨w.heap.size,3,none⟩=some (.int .i64 (s 3)):=T1.b1.cell 3;have x1_4:w1.cell? ⟨w.heap.size,4,none⟩=some (.int .i64 (s 4)):=T1.b1.cell 4;have x1_5:w1.cell? ⟨w.heap.size,5,none⟩=some (.int .i64 (s 5)):=T1.b1.cell 5;have x1_6:w1.cell? ⟨w.heap.size,6,none⟩=some (.int .i64 (s 6)):=T1.b1.cell 6;have x1_7:w1.cell? ⟨w.heap.size,7,none⟩=some (.int .i64 (s 7)):=T1.b1.cell 7;have x1_8:w1.cell? ⟨w.heap.size,8,none⟩=some (.int .i64 (s 8)):=T1.b1.cell 8;have y1_0:w1.cell? ⟨w.heap.size+1,0,none⟩=some (.int .i64 kind):=T1.b2.cell 0;have y1_1:w1.cell? ⟨w.heap.size+1,1,none⟩=some (.int .i64 seq):=T1.b2.cell 1;have y1_2:w1.cell? ⟨w.heap.size+1,2,none⟩=some (.string name):=T1.b2.cell 2;have y1_3:w1.cell? ⟨w.heap.size+1,3,none⟩=some (.int .i64 length):=T1.b2.cell 3;have y1_4:w1.cell? ⟨w.heap.size+1,4,none⟩=some (.int .i64 group):=T1.b2.cell 4;have y1_5:w1.cell? ⟨w.heap.size+1,5,none⟩=some (.int .i64 row):=T1.b2.cell 5;have y1_6:w1.cell? ⟨w.heap.size+1,6,none⟩=some (.slice ao6 rows.1 cap6):=T1.b2.cell 6;have y1_7:w1.cell? ⟨w.heap.size+1,7,none⟩=some (.slice ao7 data.1 cap7):=T1.b2.cell 7;have y1_8:w1.cell? ⟨w.heap.size+1,8,none⟩=some (.slice ao8 delta.1 cap8):=T1.b2.cell 8;clear T1
 rcases hx with ⟨rfl,hno⟩ | ⟨rfl,hok⟩
 ·go_wp2
  go_ret;exact recP rfl (Stair.fall hno) HT1.out.bel
 have HOK:=hid hok
 have hsb:1≤s 0∧s 0≤4∧0≤s 1∧s 1≤2∧1≤s 2∧s 2≤3∧1≤s 4∧s 4≤6:=by
  obtain ⟨h1,h2,h3,_⟩:=hok;unfold Shp3 at h1;unfold Shp at h2;omega
 clear hok
 by_cases hk:InP kind 1 4
 ·go_wp2_with fail
  refine (zbV (t:=true) (exBT hk) _).mono ?_;rintro e w' ⟨rfl,hw'⟩;obtain rfl:=hw'.symm
  by_cases hq:InP seq 1 1000000000
  ·go_wp2_with fail
   refine (zbV (t:=true) (exBT hq) _).mono ?_;rintro e w' ⟨rfl,hw'⟩;obtain rfl:=hw'.symm;have HK:=hid hk;have HQ:=hid hq
   go_upto_region 9 with fail
   have bA:=bAl w1 (.cells #[.int .i64 kind,.int .i64 seq,.string name,.int .i64 length,.int .i64 group,.int .i64 row,.slice ao6 rows.1 cap6,.slice ao7 data.1 cap7,.slice ao8 delta.1 cap8] 113);have T2:Two w (w1.alloc (.cells #[.int .i64 kind,.int .i64 seq,.string name,.int .i64 length,.int .i64 group,.int .i64 row,.slice ao6 rows.1 cap6,.slice ao7 data.1 cap7,.slice ao8 delta.1 cap8] 113)) (rwS s).toArray #[.int .i64 kind,.int .i64 seq,.string name,.int .i64 length,.int .i64 group,.int .i64 row,.slice ao6 rows.1 cap6,.slice ao7 data.1 cap7,.slice ao8 delta.1 cap8] 34 113:=HT1.out.call bA;have X2:=zaC w1 #[.int .i64 kind,.int .i64 seq,.string name,.int .i64 length,.int .i64 group,.int .i64 row,.slice ao6 rows.1 cap6,.slice ao7 data.1 cap7,.slice ao8 delta.1 cap8] 113;obtain ⟨W2,hW2⟩:∃ W2,W2=w1.alloc (.cells #[.int .i64 kind,.int .i64 seq,.string name,.int .i64 length,.int .i64 group,.int .i64 row,.slice ao6 rows.1 cap6,.slice ao7 data.1 cap7,.slice ao8 delta.1 cap8] 113):=⟨_,rfl⟩;rw [← hW2] at T2 X2 ⊢;have HT2:=hid T2;have HX2:=hid X2;clear bA hW2 x1_0 y1_0 x1_1 y1_1 x1_2 y1_2 x1_3 y1_3 x1_4 y1_4 x1_5 y1_5 x1_6 y1_6 x1_7 y1_7 x1_8 y1_8;have x2_0:W2.cell? ⟨w.heap.size,0,none⟩=some (.int .i64 (s 0)):=T2.b1.cell 0;have kx2_0:=cell_regrown x2_0;have x2_1:W2.cell? ⟨w.heap.size,1,none⟩=some (.int .i64 (s 1)):=T2.b1.cell 1;have kx2_1:=cell_regrown x2_1;have x2_2:W2.cell? ⟨w.heap.size,2,none⟩=some (.int .i64 (s 2)):=T2.b1.cell 2;have kx2_2:=cell_regrown x2_2;have x2_3:W2.cell? ⟨w.heap.size,3,none⟩=some (.int .i64 (s 3)):=T2.b1.cell 3;have kx2_3:=cell_regrown x2_3;have x2_4:W2.cell? ⟨w.heap.size,4,none⟩=some (.int .i64 (s 4)):=T2.b1.cell 4;have kx2_4:=cell_regrown x2_4;have x2_5:W2.cell? ⟨w.heap.size,5,none⟩=some (.int .i64 (s 5)):=T2.b1.cell 5;have kx2_5:=cell_regrown x2_5;have x2_6:W2.cell? ⟨w.heap.size,6,none⟩=some (.int .i64 (s 6)):=T2.b1.cell 6;have kx2_6:=cell_regrown x2_6
   have x2_7:W2.cell? ⟨w.heap.size,7,none⟩=some (.int .i64 (s 7)):=T2.b1.cell 7;have kx2_7:=cell_regrown x2_7;have x2_8:W2.cell? ⟨w.heap.size,8,none⟩=some (.int .i64 (s 8)):=T2.b1.cell 8;have kx2_8:=cell_regrown x2_8;have y2_0:W2.cell? ⟨w.heap.size+1,0,none⟩=some (.int .i64 kind):=T2.b2.cell 0;have ky2_0:=cell_regrown y2_0;have y2_1:W2.cell? ⟨w.heap.size+1,1,none⟩=some (.int .i64 seq):=T2.b2.cell 1;have ky2_1:=cell_regrown y2_1;have y2_2:W2.cell? ⟨w.heap.size+1,2,none⟩=some (.string name):=T2.b2.cell 2;have ky2_2:=cell_regrown y2_2;have y2_3:W2.cell? ⟨w.heap.size+1,3,none⟩=some (.int .i64 length):=T2.b2.cell 3;have ky2_3:=cell_regrown y2_3;have y2_4:W2.cell? ⟨w.heap.size+1,4,none⟩=some (.int .i64 group):=T2.b2.cell 4;have ky2_4:=cell_regrown y2_4;have y2_5:W2.cell? ⟨w.heap.size+1,5,none⟩=some (.int .i64 row):=T2.b2.cell 5;have ky2_5:=cell_regrown y2_5;have y2_6:W2.cell? ⟨w.heap.size+1,6,none⟩=some (.slice ao6 rows.1 cap6):=T2.b2.cell 6;have ky2_6:=cell_regrown y2_6;have y2_7:W2.cell? ⟨w.heap.size+1,7,none⟩=some (.slice ao7 data.1 cap7):=T2.b2.cell 7;have ky2_7:=cell_regrown y2_7;have y2_8:W2.cell? ⟨w.heap.size+1,8,none⟩=some (.slice ao8 delta.1 cap8):=T2.b2.cell 8;have ky2_8:=cell_regrown y2_8;have z2_0:W2.cell? ⟨w1.heap.size,0,none⟩=some (.int .i64 kind):=X2.cell 0;have f2_0:W2.frozen? ⟨w1.heap.size,0,none⟩=false:=X2.frozen 0;have z2_1:W2.cell? ⟨w1.heap.size,1,none⟩=some (.int .i64 seq):=X2.cell 1;have f2_1:W2.frozen? ⟨w1.heap.size,1,none⟩=false:=X2.frozen 1;have z2_2:W2.cell? ⟨w1.heap.size,2,none⟩=some (.string name):=X2.cell 2;have f2_2:W2.frozen? ⟨w1.heap.size,2,none⟩=false:=X2.frozen 2;have z2_3:W2.cell? ⟨w1.heap.size,3,none⟩=some (.int .i64 length):=X2.cell 3;have f2_3:W2.frozen? ⟨w1.heap.size,3,none⟩=false:=X2.frozen 3;have z2_4:W2.cell? ⟨w1.heap.size,4,none⟩=some (.int .i64 group):=X2.cell 4;have f2_4:W2.frozen? ⟨w1.heap.size,4,none⟩=false:=X2.frozen 4;have z2_5:W2.cell? ⟨w1.heap.size,5,none⟩=some (.int .i64 row):=X2.cell 5;have f2_5:W2.frozen? ⟨w1.heap.size,5,none⟩=false:=X2.frozen 5;have z2_6:W2.cell? ⟨w1.heap.size,6,none⟩=some (.slice ao6 rows.1 cap6):=X2.cell 6;have f2_6:W2.frozen? ⟨w1.heap.size,6,none⟩=false:=X2.frozen 6;have z2_7:W2.cell? ⟨w1.heap.size,7,none⟩=some (.slice ao7 data.1 cap7):=X2.cell 7;have f2_7:W2.frozen? ⟨w1.heap.size,7,none⟩=false:=X2.frozen 7;have z2_8:W2.cell? ⟨w1.heap.size,8,none⟩=some (.slice ao8 delta.1 cap8):=X2.cell 8;have f2_8:W2.frozen? ⟨w1.heap.size,8,none⟩=false:=X2.frozen 8;clear T2 X2
   have hk4:kind=1∨kind=2∨kind=3∨kind=4:=by unfold InP at hk;omega
   have ws0:IntKind.i64.wrap (s 0-1)=s 0-1:=by rw [IntKind.wrap_i64];omega
   have ws4:IntKind.i64.wrap (s 4-1)=s 4-1:=by rw [IntKind.wrap_i64];omega
   have wsA:IntKind.i64.wrap (s 0+s 1-1)=s 0+s 1-1:=by rw [IntKind.wrap_i64];omega
   clear hk hq
   rcases hk4 with rfl | rfl | rfl | rfl
   ·go_wp2_with fail
    refine (zgu name hnm _).mono ?_;rintro e w' ⟨x,rfl,hx,hw'⟩;obtain rfl:=hw'.symm
    rcases hx with ⟨rfl,hno⟩ | ⟨rfl,hyes⟩
    ·go_wp2
     go_ret;exact recP rfl (Stair.pass HOK.out (Stair.pass HK.out (Stair.pass HQ.out (Stair.fall (fun h=>hno (h rfl)))))) HT2.out.bel
    ·have HN:Hid (zdF ⟨1,seq,name,length,group,row,rows,data,delta⟩):=fun _=>hyes
     clear hyes;obtain ⟨t3,h3⟩:=exB (zbp s ⟨1,seq,name,length,group,row,rows,data,delta⟩);have CI:=zbx (ziP s HOK.out ⟨1,seq,name,length,group,row,rows,data,delta⟩ _ hi W2 (zad.rd_below HRD.out HT2.out.bel hhi) (Nat.le_trans hhi HT2.out.bel.size)) h3;unfold zaf at CI
     go_wp2_with fail
     refine CI.mono ?_;rintro e w3 ⟨rfl,b3⟩;have X3:Box w3 w1.heap.size #[.int .i64 1,.int .i64 seq,.string name,.int .i64 length,.int .i64 group,.int .i64 row,.slice ao6 rows.1 cap6,.slice ao7 data.1 cap7,.slice ao8 delta.1 cap8] 113:=HX2.out.call b3;have HB3:Hid (Below w.heap.size w w3):=(HT2.out.call b3).bel;have z3_0:w3.cell? ⟨w1.heap.size,0,none⟩=some (.int .i64 1):=X3.cell 0;have f3_0:w3.frozen? ⟨w1.heap.size,0,none⟩=false:=X3.frozen 0;have z3_1:w3.cell? ⟨w1.heap.size,1,none⟩=some (.int .i64 seq):=X3.cell 1;have f3_1:w3.frozen? ⟨w1.heap.size,1,none⟩=false:=X3.frozen 1;have z3_2:w3.cell? ⟨w1.heap.size,2,none⟩=some (.string name):=X3.cell 2;have f3_2:w3.frozen? ⟨w1.heap.size,2,none⟩=false:=X3.frozen 2;have z3_3:w3.cell? ⟨w1.heap.size,3,none⟩=some (.int .i64 length):=X3.cell 3;have f3_3:w3.frozen? ⟨w1.heap.size,3,none⟩=false:=X3.frozen 3;have z3_4:w3.cell? ⟨w1.heap.size,4,none⟩=some (.int .i64 group):=X3.cell 4;have f3_4:w3.frozen? ⟨w1.heap.size,4,none⟩=false:=X3.frozen 4;have z3_5:w3.cell? ⟨w1.heap.size,5,none⟩=some (.int .i64 row):=X3.cell 5;have f3_5:w3.frozen? ⟨w1.heap.size,5,none⟩=false:=X3.frozen 5;have z3_6:w3.cell? ⟨w1.heap.size,6,none⟩=some (.slice ao6 rows.1 cap6):=X3.cell 6;have f3_6:w3.frozen? ⟨w1.heap.size,6,none⟩=false:=X3.frozen 6;have z3_7:w3.cell? ⟨w1.heap.size,7,none⟩=some (.slice ao7 data.1 cap7):=X3.cell 7;have f3_7:w3.frozen? ⟨w1.heap.size,7,none⟩=false:=X3.frozen 7;have z3_8:w3.cell? ⟨w1.heap.size,8,none⟩=some (.slice ao8 delta.1 cap8):=X3.cell 8;have f3_8:w3.frozen? ⟨w1.heap.size,8,none⟩=false:=X3.frozen 8;clear X3 b3;clear x2_0 kx2_0 y2_0 ky2_0 z2_0 f2_0 x2_1 kx2_1 y2_1 ky2_1 z2_1 f2_1 x2_2 kx2_2 y2_2 ky2_2 z2_2 f2_2 x2_3 kx2_3 y2_3 ky2_3 z2_3 f2_3 x2_4 kx2_4 y2_4 ky2_4 z2_4 f2_4 x2_5 kx2_5 y2_5 ky2_5 z2_5 f2_5 x2_6 kx2_6 y2_6 ky2_6 z2_6 f2_6 x2_7 kx2_7 y2_7 ky2_7 z2_7 f2_7 x2_8 kx2_8 y2_8 ky2_8 z2_8 f2_8 CI;have H3:=hid h3;clear h3
     cases t3 with
     | false=>
      go_wp2;go_ret
      exact recP rfl (Stair.pass HOK.out (Stair.pass HK.out (Stair.pass HQ.out (Stair.pass HN.out (Stair.fall (fun h=>by
       have:zbp s ⟨1,seq,name,length,group,row,rows,data,delta⟩:=by
        unfold za1 at h
        simpa using h
       have:=H3.out.2 this
       simp at this)))))) HB3.out
     | true=>
      have HKP:Hid (za1 s ⟨1,seq,name,length,group,row,rows,data,delta⟩):=.inl ⟨rfl,H3.out.1 (by simp)⟩
      go_wp2_with fail
      refine (zcv _ _ _ _ _ _ _ _ _ _ _ _ _ _ _ _).mono ?_;rintro e w9 ⟨t9,rfl,ht9,b9⟩
      have HB9:Hid (Below w.heap.size w w9):=by
       show Below w.heap.size w w9
       refine Below.trans ?_ (b9.mono ?_)
       ·repeat (refine zdA ?_ (by omega))
        exact HB3.out
       ·simp
        exact HB3.out.size
      clear b9
      have HT9:Hid (t9=true↔zaW ⟨1,seq,name,length,group,row,rows,data,delta⟩):=by
       show t9=true↔zaW ⟨1,seq,name,length,group,row,rows,data,delta⟩
       rw [ht9];unfold zch zaW zcX
       simp [and_assoc]
       try (intros;rfl)
      clear ht9
      cases t9 with
      | false=>
       go_wp2;go_ret;exact recP rfl (Stair.pass HOK.out (Stair.pass HK.out (Stair.pass HQ.out (Stair.pass HN.out (Stair.pass HKP.out (Stair.fall (fun h=>by have:=HT9.out.2 h;simp at this))))))) HB9.out
      | true=>
       go_wp2;go_ret;exact recP rfl (Stair.pass HOK.out (Stair.pass HK.out (Stair.pass HQ.out (Stair.pass HN.out (Stair.pass HKP.out (Stair.pass (HT9.out.1 (by simp)) (Stair.last rfl))))))) HB9.out
   ·have HN:Hid (zdF ⟨2,seq,name,length,group,row,rows,data,delta⟩):=fun h=>by simp at h
    obtain ⟨t1,h1⟩:=exB (InP group 0 (s 0-1));obtain ⟨t2,h2⟩:=exB (InP row 0 (s 4-1));obtain ⟨b3',h3⟩:∃ b,((data.1:Int) != s 2*4)=b:=⟨_,rfl⟩;obtain ⟨b4',h4⟩:∃ b,((delta.1:Int) != s 2*4)=b:=⟨_,rfl⟩;have cG:=zfd (W:=W2) (fun w'=>zbV h1 w');have cR:=zfd (W:=W2) (fun w'=>zbV h2 w');have cW:=zaw (W:=W2) (fun w' _=>zc6 s (by omega) (by omega) w');unfold zaf at cW
    have HE:Hid (za1 s ⟨2,seq,name,length,group,row,rows,data,delta⟩↔(t1=true∧t2=true∧b3'=false∧b4'=false)):=by
     show za1 s ⟨2,seq,name,length,group,row,rows,data,delta⟩↔_
     rw [h1,h2,← h3,← h4];unfold za1 zkK
     simp
    have hst:(t1=false)∨(t1=true∧t2=false)∨(t1=true∧t2=true∧b3'=true)∨(t1=true∧t2=true∧b3'=false∧b4'=true)∨(t1=true∧t2=true∧b3'=false∧b4'=false):=by
     clear HE h1 h2 h3 h4 cG cR
     cases t1<;>simp
     cases t2<;>simp
     cases b3'<;>simp
    clear h1 h2;go_wp2
    rcases hst with rfl | ⟨rfl,rfl⟩ | ⟨rfl,rfl,rfl⟩ | ⟨rfl,rfl,rfl,rfl⟩ | ⟨rfl,rfl,rfl,rfl⟩
    all_goals
     refine WQ.region (by kernel_rfl) (by kernel_rfl) ?_
     repeat (first | (apply WQ.skip;(case hw=>rfl);intro K hK;go_simp;apply hK;clear hK K) | (apply WQ.want;(case hw=>rfl);intro K hK;go_simp;first | (apply hK;clear hK K) | (apply Exists.intro;apply And.intro;(case left=>intro p;(first | (go_at_call_of 55 (Value.int .i64 group);exact cG _ _) | (go_at_call_of 55 (Value.int .i64 row);exact cR _ _) | (go_at_call 101;exact cW _ _)));apply hK;clear hK K)))
     refine WQ.nil ?_;intro w3 hw3;have b3:=zaD hw3;have X3:Box w3 w1.heap.size #[.int .i64 2,.int .i64 seq,.string name,.int .i64 length,.int .i64 group,.int .i64 row,.slice ao6 rows.1 cap6,.slice ao7 data.1 cap7,.slice ao8 delta.1 cap8] 113:=HX2.out.call b3;have HB3:Hid (Below w.heap.size w w3):=(HT2.out.call b3).bel;have z3_0:w3.cell? ⟨w1.heap.size,0,none⟩=some (.int .i64 2):=X3.cell 0;have f3_0:w3.frozen? ⟨w1.heap.size,0,none⟩=false:=X3.frozen 0;have z3_1:w3.cell? ⟨w1.heap.size,1,none⟩=some (.int .i64 seq):=X3.cell 1;have f3_1:w3.frozen? ⟨w1.heap.size,1,none⟩=false:=X3.frozen 1;have z3_2:w3.cell? ⟨w1.heap.size,2,none⟩=some (.string name):=X3.cell 2;have f3_2:w3.frozen? ⟨w1.heap.size,2,none⟩=false:=X3.frozen 2;have z3_3:w3.cell? ⟨w1.heap.size,3,none⟩=some (.int .i64 length):=X3.cell 3;have f3_3:w3.frozen? ⟨w1.heap.size,3,none⟩=false:=X3.frozen 3;have z3_4:w3.cell? ⟨w1.heap.size,4,none⟩=some (.int .i64 group):=X3.cell 4;have f3_4:w3.frozen? ⟨w1.heap.size,4,none⟩=false:=X3.frozen 4;have z3_5:w3.cell? ⟨w1.heap.size,5,none⟩=some (.int .i64 row):=X3.cell 5;have f3_5:w3.frozen? ⟨w1.heap.size,5,none⟩=false:=X3.frozen 5;have z3_6:w3.cell? ⟨w1.heap.size,6,none⟩=some (.slice ao6 rows.1 cap6):=X3.cell 6;have f3_6:w3.frozen? ⟨w1.heap.size,6,none⟩=false:=X3.frozen 6;have z3_7:w3.cell? ⟨w1.heap.size,7,none⟩=some (.slice ao7 data.1 cap7):=X3.cell 7;have f3_7:w3.frozen? ⟨w1.heap.size,7,none⟩=false:=X3.frozen 7;have z3_8:w3.cell? ⟨w1.heap.size,8,none⟩=some (.slice ao8 delta.1 cap8):=X3.cell 8;have f3_8:w3.frozen? ⟨w1.heap.size,8,none⟩=false:=X3.frozen 8;clear X3 b3;clear hw3 x2_0 kx2_0 y2_0 ky2_0 z2_0 f2_0 x2_1 kx2_1 y2_1 ky2_1 z2_1 f2_1 x2_2 kx2_2 y2_2 ky2_2 z2_2 f2_2 x2_3 kx2_3 y2_3 ky2_3 z2_3 f2_3 x2_4 kx2_4 y2_4 ky2_4 z2_4 f2_4 x2_5 kx2_5 y2_5 ky2_5 z2_5 f2_5 x2_6 kx2_6 y2_6 ky2_6 z2_6 f2_6 x2_7 kx2_7 y2_7 ky2_7 z2_7 f2_7 x2_8 kx2_8 y2_8 ky2_8 z2_8 f2_8
    ·go_wp2
     go_ret;exact recP rfl (Stair.pass HOK.out (Stair.pass HK.out (Stair.pass HQ.out (Stair.pass HN.out (Stair.fall (fun h=>by have:=HE.out.1 h;simp at this)))))) HB3.out
    ·go_wp2
     go_ret;exact recP rfl (Stair.pass HOK.out (Stair.pass HK.out (Stair.pass HQ.out (Stair.pass HN.out (Stair.fall (fun h=>by have:=HE.out.1 h;simp at this)))))) HB3.out
    ·go_wp2
     go_ret;exact recP rfl (Stair.pass HOK.out (Stair.pass HK.out (Stair.pass HQ.out (Stair.pass HN.out (Stair.fall (fun h=>by have:=HE.out.1 h;simp at this)))))) HB3.out
    ·go_wp2
     go_ret;exact recP rfl (Stair.pass HOK.out (Stair.pass HK.out (Stair.pass HQ.out (Stair.pass HN.out (Stair.fall (fun h=>by have:=HE.out.1 h;simp at this)))))) HB3.out
    ·have HKP:Hid (za1 s ⟨2,seq,name,length,group,row,rows,data,delta⟩):=HE.out.2 (by simp)
     go_wp2_with fail
     refine (zcv _ _ _ _ _ _ _ _ _ _ _ _ _ _ _ _).mono ?_;rintro e w9 ⟨t9,rfl,ht9,b9⟩
     have HB9:Hid (Below w.heap.size w w9):=by
      show Below w.heap.size w w9
      refine Below.trans ?_ (b9.mono ?_)
      ·repeat (refine zdA ?_ (by omega))
       exact HB3.out
      ·simp
       exact HB3.out.size
     clear b9
     have HT9:Hid (t9=true↔zaW ⟨2,seq,name,length,group,row,rows,data,delta⟩):=by
      show t9=true↔zaW ⟨2,seq,name,length,group,row,rows,data,delta⟩
      rw [ht9];unfold zch zaW zcX
      simp [and_assoc]
      try (intros;rfl)
     clear ht9
     cases t9 with
     | false=>
      go_wp2;go_ret;exact recP rfl (Stair.pass HOK.out (Stair.pass HK.out (Stair.pass HQ.out (Stair.pass HN.out (Stair.pass HKP.out (Stair.fall (fun h=>by have:=HT9.out.2 h;simp at this))))))) HB9.out
     | true=>
      go_wp2;go_ret;exact recP rfl (Stair.pass HOK.out (Stair.pass HK.out (Stair.pass HQ.out (Stair.pass HN.out (Stair.pass HKP.out (Stair.pass (HT9.out.1 (by simp)) (Stair.last rfl))))))) HB9.out
   ·have HN:Hid (zdF ⟨3,seq,name,length,group,row,rows,data,delta⟩):=fun h=>by simp at h
    obtain ⟨t1,h1⟩:=exB (InP group 0 (s 0+s 1-1));have cG:=zfd (W:=W2) (fun w'=>zbV h1 w');have cA:=zaw (W:=W2) (fun w' _=>zbt s HOK.out w');unfold zaf at cA
    have HE:Hid (za1 s ⟨3,seq,name,length,group,row,rows,data,delta⟩↔(t1=true)):=by
     show za1 s ⟨3,seq,name,length,group,row,rows,data,delta⟩↔_
     rw [h1];unfold za1 zkL
     simp
    have hst:(t1=false)∨(t1=true):=by
     clear HE h1 cG
     cases t1<;>simp
    clear h1;go_wp2
    rcases hst with rfl | rfl
    all_goals
     refine WQ.region (by kernel_rfl) (by kernel_rfl) ?_
     repeat (first | (apply WQ.skip;(case hw=>rfl);intro K hK;go_simp;apply hK;clear hK K) | (apply WQ.want;(case hw=>rfl);intro K hK;go_simp;first | (apply hK;clear hK K) | (apply Exists.intro;apply And.intro;(case left=>intro p;(first | (go_at_call 55;exact cG _ _) | (go_at_call 56;exact cA _ _)));apply hK;clear hK K)))
     refine WQ.nil ?_;intro w3 hw3;have b3:=zaD hw3;have X3:Box w3 w1.heap.size #[.int .i64 3,.int .i64 seq,.string name,.int .i64 length,.int .i64 group,.int .i64 row,.slice ao6 rows.1 cap6,.slice ao7 data.1 cap7,.slice ao8 delta.1 cap8] 113:=HX2.out.call b3;have HB3:Hid (Below w.heap.size w w3):=(HT2.out.call b3).bel;have z3_0:w3.cell? ⟨w1.heap.size,0,none⟩=some (.int .i64 3):=X3.cell 0;have f3_0:w3.frozen? ⟨w1.heap.size,0,none⟩=false:=X3.frozen 0;have z3_1:w3.cell? ⟨w1.heap.size,1,none⟩=some (.int .i64 seq):=X3.cell 1;have f3_1:w3.frozen? ⟨w1.heap.size,1,none⟩=false:=X3.frozen 1;have z3_2:w3.cell? ⟨w1.heap.size,2,none⟩=some (.string name):=X3.cell 2;have f3_2:w3.frozen? ⟨w1.heap.size,2,none⟩=false:=X3.frozen 2;have z3_3:w3.cell? ⟨w1.heap.size,3,none⟩=some (.int .i64 length):=X3.cell 3;have f3_3:w3.frozen? ⟨w1.heap.size,3,none⟩=false:=X3.frozen 3;have z3_4:w3.cell? ⟨w1.heap.size,4,none⟩=some (.int .i64 group):=X3.cell 4;have f3_4:w3.frozen? ⟨w1.heap.size,4,none⟩=false:=X3.frozen 4;have z3_5:w3.cell? ⟨w1.heap.size,5,none⟩=some (.int .i64 row):=X3.cell 5;have f3_5:w3.frozen? ⟨w1.heap.size,5,none⟩=false:=X3.frozen 5;have z3_6:w3.cell? ⟨w1.heap.size,6,none⟩=some (.slice ao6 rows.1 cap6):=X3.cell 6;have f3_6:w3.frozen? ⟨w1.heap.size,6,none⟩=false:=X3.frozen 6;have z3_7:w3.cell? ⟨w1.heap.size,7,none⟩=some (.slice ao7 data.1 cap7):=X3.cell 7;have f3_7:w3.frozen? ⟨w1.heap.size,7,none⟩=false:=X3.frozen 7;have z3_8:w3.cell? ⟨w1.heap.size,8,none⟩=some (.slice ao8 delta.1 cap8):=X3.cell 8;have f3_8:w3.frozen? ⟨w1.heap.size,8,none⟩=false:=X3.frozen 8;clear X3 b3;clear hw3 x2_0 kx2_0 y2_0 ky2_0 z2_0 f2_0 x2_1 kx2_1 y2_1 ky2_1 z2_1 f2_1 x2_2 kx2_2 y2_2 ky2_2 z2_2 f2_2 x2_3 kx2_3 y2_3 ky2_3 z2_3 f2_3 x2_4 kx2_4 y2_4 ky2_4 z2_4 f2_4 x2_5 kx2_5 y2_5 ky2_5 z2_5 f2_5 x2_6 kx2_6 y2_6 ky2_6 z2_6 f2_6 x2_7 kx2_7 y2_7 ky2_7 z2_7 f2_7 x2_8 kx2_8 y2_8 ky2_8 z2_8 f2_8
    ·go_wp2
     go_ret;exact recP rfl (Stair.pass HOK.out (Stair.pass HK.out (Stair.pass HQ.out (Stair.pass HN.out (Stair.fall (fun h=>by have:=HE.out.1 h;simp at this)))))) HB3.out
    ·have HKP:Hid (za1 s ⟨3,seq,name,length,group,row,rows,data,delta⟩):=HE.out.2 (by simp)
     go_wp2_with fail
     refine (zcv _ _ _ _ _ _ _ _ _ _ _ _ _ _ _ _).mono ?_;rintro e w9 ⟨t9,rfl,ht9,b9⟩
     have HB9:Hid (Below w.heap.size w w9):=by
      show Below w.heap.size w w9
      refine Below.trans ?_ (b9.mono ?_)
      ·repeat (refine zdA ?_ (by omega))
       exact HB3.out
      ·simp
       exact HB3.out.size
     clear b9
     have HT9:Hid (t9=true↔zaW ⟨3,seq,name,length,group,row,rows,data,delta⟩):=by
      show t9=true↔zaW ⟨3,seq,name,length,group,row,rows,data,delta⟩
      rw [ht9];unfold zch zaW zcX
      simp [and_assoc]
      try (intros;rfl)
     clear ht9
     cases t9 with
     | false=>
      go_wp2;go_ret;exact recP rfl (Stair.pass HOK.out (Stair.pass HK.out (Stair.pass HQ.out (Stair.pass HN.out (Stair.pass HKP.out (Stair.fall (fun h=>by have:=HT9.out.2 h;simp at this))))))) HB9.out
     | true=>
      go_wp2;go_ret;exact recP rfl (Stair.pass HOK.out (Stair.pass HK.out (Stair.pass HQ.out (Stair.pass HN.out (Stair.pass HKP.out (Stair.pass (HT9.out.1 (by simp)) (Stair.last rfl))))))) HB9.out
   ·have HN:Hid (zdF ⟨4,seq,name,length,group,row,rows,data,delta⟩):=fun h=>by simp at h
    obtain ⟨t1,h1⟩:=exB (InP group 0 (s 0+s 1-1));obtain ⟨t2,h2⟩:=exB (InP row 0 (s 4-1));obtain ⟨t3,h3⟩:=exB (zcV rows.1 rows.2 (s 0+s 1-1));obtain ⟨b4',h4⟩:∃ b,((data.1:Int) != s 2*4)=b:=⟨_,rfl⟩;obtain ⟨t5,h5⟩:=exB (zfz s ⟨4,seq,name,length,group,row,rows,data,delta⟩);have cG:=zfd (W:=W2) (fun w'=>zbV h1 w');have cR:=zfd (W:=W2) (fun w'=>zbV h2 w');have cA:=zaw (W:=W2) (fun w' _=>zbt s HOK.out w');have cW:=zaw (W:=W2) (fun w' _=>zc6 s (by omega) (by omega) w');have cS:=zaw (W:=W2) (fun w' hw'=>zbx (ziA _ rows.1 rows.2 hi (s 0+s 1-1) w' ((H6.out.below HT2.out.bel hhi).below hw' (Nat.le_trans hhi HT2.out.bel.size))) h3);have cX:t1=true→t3=true→∀ d os,Calls Tryz.prog 103 #[zaf s,.agg #[.int .i64 4,.int .i64 seq,.string name,.int .i64 length,.int .i64 group,.int .i64 row,.slice ao6 rows.1 cap6,.slice ao7 data.1 cap7,.slice ao8 delta.1 cap8]] (Go.Sort.grow (redrawn W2 d) os) fun e w''=>e=.returned (.bool t5)∧∃ p:Regrown,w''=Go.Sort.grow (redrawn W2 p.d) p.os:=fun e1 e3=>zaw (W:=W2) (fun w' hw'=>zbx (zfB s HOK.out ⟨4,seq,name,length,group,row,rows,data,delta⟩ _ hi w' (zad.rd_below (zad.rd_below HRD.out HT2.out.bel hhi) hw' (Nat.le_trans hhi HT2.out.bel.size)) (Nat.le_trans hhi (Nat.le_trans HT2.out.bel.size hw'.size)) (h1.1 e1) (h3.1 e3)) h5);unfold zaf at cW cA cX
    have HE:Hid (za1 s ⟨4,seq,name,length,group,row,rows,data,delta⟩↔(t1=true∧t2=true∧t3=true∧b4'=false∧t5=true)):=by
     show za1 s ⟨4,seq,name,length,group,row,rows,data,delta⟩↔_
     rw [h1,h2,h3,← h4,h5];unfold za1 zib
     simp
    have hst:(t1=false)∨(t1=true∧t2=false)∨(t1=true∧t2=true∧t3=false)∨(t1=true∧t2=true∧t3=true∧b4'=true)∨(t1=true∧t2=true∧t3=true∧b4'=false∧t5=false)∨(t1=true∧t2=true∧t3=true∧b4'=false∧t5=true):=by
     clear HE h1 h2 h3 h4 h5 cG cR cS cX
     cases t1<;>simp
     cases t2<;>simp
     cases t3<;>simp
     cases b4'<;>simp
    clear h1 h2 h3 h5;go_wp2
    rcases hst with rfl | ⟨rfl,rfl⟩ | ⟨rfl,rfl,rfl⟩ | ⟨rfl,rfl,rfl,rfl⟩ | ⟨rfl,rfl,rfl,rfl,rfl⟩ | ⟨rfl,rfl,rfl,rfl,rfl⟩
    all_goals
     refine WQ.region (by kernel_rfl) (by kernel_rfl) ?_
     repeat (first | (apply WQ.skip;(case hw=>rfl);intro K hK;go_simp;apply hK;clear hK K) | (apply WQ.want;(case hw=>rfl);intro K hK;go_simp;first | (apply hK;clear hK K) | (apply Exists.intro;apply And.intro;(case left=>intro p;(first | (go_at_call_of 55 (Value.int .i64 group);exact cG _ _) | (go_at_call_of 55 (Value.int .i64 row);exact cR _ _) | (go_at_call 101;exact cW _ _) | (go_at_call 56;exact cA _ _) | (go_at_call 102;exact cS _ _) | (go_at_call 103;exact cX rfl rfl _ _)));apply hK;clear hK K)))
     refine WQ.nil ?_;intro w3 hw3;have b3:=zaD hw3;have X3:Box w3 w1.heap.size #[.int .i64 4,.int .i64 seq,.string name,.int .i64 length,.int .i64 group,.int .i64 row,.slice ao6 rows.1 cap6,.slice ao7 data.1 cap7,.slice ao8 delta.1 cap8] 113:=HX2.out.call b3;have HB3:Hid (Below w.heap.size w w3):=(HT2.out.call b3).bel;have z3_0:w3.cell? ⟨w1.heap.size,0,none⟩=some (.int .i64 4):=X3.cell 0;have f3_0:w3.frozen? ⟨w1.heap.size,0,none⟩=false:=X3.frozen 0;have z3_1:w3.cell? ⟨w1.heap.size,1,none⟩=some (.int .i64 seq):=X3.cell 1;have f3_1:w3.frozen? ⟨w1.heap.size,1,none⟩=false:=X3.frozen 1;have z3_2:w3.cell? ⟨w1.heap.size,2,none⟩=some (.string name):=X3.cell 2;have f3_2:w3.frozen? ⟨w1.heap.size,2,none⟩=false:=X3.frozen 2;have z3_3:w3.cell? ⟨w1.heap.size,3,none⟩=some (.int .i64 length):=X3.cell 3;have f3_3:w3.frozen? ⟨w1.heap.size,3,none⟩=false:=X3.frozen 3;have z3_4:w3.cell? ⟨w1.heap.size,4,none⟩=some (.int .i64 group):=X3.cell 4;have f3_4:w3.frozen? ⟨w1.heap.size,4,none⟩=false:=X3.frozen 4;have z3_5:w3.cell? ⟨w1.heap.size,5,none⟩=some (.int .i64 row):=X3.cell 5;have f3_5:w3.frozen? ⟨w1.heap.size,5,none⟩=false:=X3.frozen 5;have z3_6:w3.cell? ⟨w1.heap.size,6,none⟩=some (.slice ao6 rows.1 cap6):=X3.cell 6;have f3_6:w3.frozen? ⟨w1.heap.size,6,none⟩=false:=X3.frozen 6;have z3_7:w3.cell? ⟨w1.heap.size,7,none⟩=some (.slice ao7 data.1 cap7):=X3.cell 7;have f3_7:w3.frozen? ⟨w1.heap.size,7,none⟩=false:=X3.frozen 7;have z3_8:w3.cell? ⟨w1.heap.size,8,none⟩=some (.slice ao8 delta.1 cap8):=X3.cell 8;have f3_8:w3.frozen? ⟨w1.heap.size,8,none⟩=false:=X3.frozen 8;clear X3 b3;clear hw3 x2_0 kx2_0 y2_0 ky2_0 z2_0 f2_0 x2_1 kx2_1 y2_1 ky2_1 z2_1 f2_1 x2_2 kx2_2 y2_2 ky2_2 z2_2 f2_2 x2_3 kx2_3 y2_3 ky2_3 z2_3 f2_3 x2_4 kx2_4 y2_4 ky2_4 z2_4 f2_4 x2_5 kx2_5 y2_5 ky2_5 z2_5 f2_5 x2_6 kx2_6 y2_6 ky2_6 z2_6 f2_6 x2_7 kx2_7 y2_7 ky2_7 z2_7 f2_7 x2_8 kx2_8 y2_8 ky2_8 z2_8 f2_8
    ·go_wp2
     go_ret;exact recP rfl (Stair.pass HOK.out (Stair.pass HK.out (Stair.pass HQ.out (Stair.pass HN.out (Stair.fall (fun h=>by have:=HE.out.1 h;simp at this)))))) HB3.out
    ·go_wp2
     go_ret;exact recP rfl (Stair.pass HOK.out (Stair.pass HK.out (Stair.pass HQ.out (Stair.pass HN.out (Stair.fall (fun h=>by have:=HE.out.1 h;simp at this)))))) HB3.out
    ·go_wp2
     go_ret;exact recP rfl (Stair.pass HOK.out (Stair.pass HK.out (Stair.pass HQ.out (Stair.pass HN.out (Stair.fall (fun h=>by have:=HE.out.1 h;simp at this)))))) HB3.out
    ·go_wp2
     go_ret;exact recP rfl (Stair.pass HOK.out (Stair.pass HK.out (Stair.pass HQ.out (Stair.pass HN.out (Stair.fall (fun h=>by have:=HE.out.1 h;simp at this)))))) HB3.out
    ·go_wp2
     go_ret;exact recP rfl (Stair.pass HOK.out (Stair.pass HK.out (Stair.pass HQ.out (Stair.pass HN.out (Stair.fall (fun h=>by have:=HE.out.1 h;simp at this)))))) HB3.out
    ·have HKP:Hid (za1 s ⟨4,seq,name,length,group,row,rows,data,delta⟩):=HE.out.2 (by simp)
     go_wp2_with fail
     refine (zcv _ _ _ _ _ _ _ _ _ _ _ _ _ _ _ _).mono ?_;rintro e w9 ⟨t9,rfl,ht9,b9⟩
     have HB9:Hid (Below w.heap.size w w9):=by
      show Below w.heap.size w w9
      refine Below.trans ?_ (b9.mono ?_)
      ·repeat (refine zdA ?_ (by omega))
       exact HB3.out
      ·simp
       exact HB3.out.size
     clear b9
     have HT9:Hid (t9=true↔zaW ⟨4,seq,name,length,group,row,rows,data,delta⟩):=by
      show t9=true↔zaW ⟨4,seq,name,length,group,row,rows,data,delta⟩
      rw [ht9];unfold zch zaW zcX
      simp [and_assoc]
      try (intros;rfl)
     clear ht9
     cases t9 with
     | false=>
      go_wp2;go_ret;exact recP rfl (Stair.pass HOK.out (Stair.pass HK.out (Stair.pass HQ.out (Stair.pass HN.out (Stair.pass HKP.out (Stair.fall (fun h=>by have:=HT9.out.2 h;simp at this))))))) HB9.out
     | true=>
      go_wp2;go_ret;exact recP rfl (Stair.pass HOK.out (Stair.pass HK.out (Stair.pass HQ.out (Stair.pass HN.out (Stair.pass HKP.out (Stair.pass (HT9.out.1 (by simp)) (Stair.last rfl))))))) HB9.out
  ·go_wp2_with fail
   refine (zbV (t:=false) (exBF hq) _).mono ?_;rintro e w' ⟨rfl,hw'⟩;obtain rfl:=hw'.symm;go_wp2;go_ret;exact recP rfl (Stair.pass HOK.out (Stair.pass hk (Stair.fall hq))) HT1.out.bel
 ·go_wp2_with fail
  refine (zbV (t:=false) (exBF hk) _).mono ?_;rintro e w' ⟨rfl,hw'⟩;obtain rfl:=hw'.symm;go_wp2;go_ret;exact recP rfl (Stair.pass HOK.out (Stair.fall hk)) HT1.out.bel
theorem zc7 {K:Int→Prop} (hK:∃ x,K x):∀ l:List (Prop×Int),∃ x,Stair l K x
 | []=>hK
 | (p,c)::l=>by
  by_cases h:p
  ·obtain ⟨x,hx⟩:=zc7 hK l
   exact ⟨x,.inr ⟨h,hx⟩⟩
  ·exact ⟨c,.inl ⟨h,rfl⟩⟩
theorem zjE {s:Nat→Int} {d:RecD} {X:Int} {w:World} {f:Nat} {args:Array Value} (hX:RecAns s d X) (h:Calls Tryz.prog f args w (zfC s d w)):Calls Tryz.prog f args w fun e w'=>e=.returned (.int .i64 X)∧Below w.heap.size w w':=
 h.mono fun e w' ⟨x,h1,h2,h3⟩=>⟨by rw [h1,h2.one hX],h3⟩
def zcY (d:WorldD) (w:World) (e:Ending) (w':World):Prop:=∃ x,e=.returned (.int .i64 x)∧WldAns d x∧Below w.heap.size w w'
theorem wldP {d:WorldD} {w:World} {e:Ending} {w':World} {x:Int} (he:e=.returned (.int .i64 x)) (h:WldAns d x) (hb:Below w.heap.size w w'):zcY d w e w':=⟨x,he,h,hb⟩
def zkO (s:Nat→Int) (p:Nat×(Nat→TapeD)) (w:World) (e:Ending) (w':World):Prop:=∃ x,e=.returned (.int .i64 x)∧RecsAns s p.1 p.2 x∧Below w.heap.size w w'
theorem WQ.free {P:Program} {ops:Array Oper} {C:World→Prop} {Q:Act→Prop} {a:Act} {o:Oper} {rest:List Oper} (hw:o.guard=none)
 (h:∀ K:Act→Prop,(∀ a,WQ P ops C Q rest a→K a)→o.quiet P a C K):WQ P ops C Q (o::rest) a:=WQ.want (by simp [Region.wanted,hw]) h
theorem zid (s:Nat→Int) (y:Nat→RecD):∀ k,(∀ i,i<k→RecAns s (y i) 0)∨∃ i c,i<k∧c≠0∧RecAns s (y i) c∧∀ j,j<i→RecAns s (y j) 0
 | 0=>.inl (fun i hi=>by omega)
 | k+1=>by
  rcases zid s y k with h | ⟨i,c,h1,h2,h3,h4⟩
  ·obtain ⟨X,hX⟩:∃ X,RecAns s (y k) X:=zc7 (K:=isZ) ⟨0,rfl⟩ _
   by_cases hx:X=0
   ·subst hx
    exact .inl (fun i hi=>by
     by_cases c:i=k
     ·subst c;exact hX
     ·exact h i (by omega))
   ·exact .inr ⟨k,X,by omega,hx,hX,h⟩
  ·exact .inr ⟨i,c,by omega,h2,h3,h4⟩
theorem zjF (s:Nat→Int) (x:Nat→TapeD):∀ n,∃ c,RecsAns s n x c
 | 0=>⟨0,.inl ⟨rfl,fun t ht=>by omega⟩⟩
 | n+1=>by
  obtain ⟨c,hc⟩:=zjF s x n
  rcases hc with ⟨rfl,h⟩ | ⟨hc,t,i,ht,hi,hr,hb,hu⟩
  ·rcases zid s (x n).recs.2 (x n).recs.1 with k | ⟨i,c,h1,h2,h3,h4⟩
   ·exact ⟨0,.inl ⟨rfl,fun t ht=>by
     by_cases c:t=n
     ·subst c;exact k
     ·exact h t (by omega)⟩⟩
   ·exact ⟨c,.inr ⟨h2,n,i,by omega,h1,h3,h4,h⟩⟩
  ·exact ⟨c,.inr ⟨hc,t,i,by omega,hi,hr,hb,hu⟩⟩
theorem zkh (d:WorldD):∃ X,WldAns d X:=by
 unfold WldAns;refine zc7 ?_ _;obtain ⟨c,hc⟩:=zjF d.shape d.tapes.2 d.tapes.1
 by_cases h:c=0
 ·subst h
  obtain ⟨x,hx⟩:=zc7 (K:=isZ) ⟨0,rfl⟩ [(zic d,1),(zgv d,3)];exact ⟨x,.inr ⟨hc,hx⟩⟩
 ·exact ⟨c,.inl ⟨h,hc⟩⟩
structure ElInfo {α:Type} (E:Lay α) (T e:TypeId) (by_:Nat) (zs:List Value):Prop where
 hs:0<E.sz
 hzs:zs.length=E.sz
 hu:Tryz.prog.underlying T=some (.slice e)
 hi:(Tryz.prog.info? e).map (fun i=>(i.zero.map (·.cells),i.size,i.bytes))=some (some zs.toArray,E.sz,by_)
 few:by_≤1000
section
variable {α:Type} {E:Lay α} {t:TypeId} {w w':World} {lo n:Nat} {v:Value} {x:Nat→α}
end
section
variable {α:Type} {E:Lay α} {t:TypeId} {w w1:World} {lo g cap n k:Nat} {x:Nat→α} {ce:Nat→List Value} {Ls:Nat→List Nat}
end
theorem zjG {α:Type} {E:Lay α} {T e:TypeId} {by_:Nat} {zs:List Value} (I:ElInfo E T e by_ zs) (x:Nat→α) (Ls:Nat→List Nat) (w:World) (n:Nat) (hn:n≤10000000) :
 ∃ w',(Instr.makeSlice T (.int .i64 (n:Int)) (.int .i64 (n:Int))).run Tryz.prog w=.ok (.slice (some ⟨w.heap.size,0,none⟩) n n) w'∧SlP E e w' w.heap.size w.heap.size n n 0 x (fun _=>zs) Ls∧Below w.heap.size w w':=by
 obtain ⟨hs,hzs,hu,hi,few⟩:=I
 obtain ⟨i0,hi0⟩:∃ i0,Tryz.prog.info? e=some i0:=by
  cases h:Tryz.prog.info? e with
  | none=>rw [h] at hi;cases hi
  | some i0=>exact ⟨i0,rfl⟩
 rw [hi0] at hi
 simp only [Option.map_some,Option.some.injEq,Prod.mk.injEq] at hi
 obtain ⟨h1,h2,h3⟩:=hi
 obtain ⟨z,hz,hzc⟩:∃ z,i0.zero=some z∧z.cells=zs.toArray:=by
  cases h:i0.zero with
  | none=>rw [h] at h1;cases h1
  | some z=>rw [h] at h1;exact ⟨z,rfl,by simpa using h1⟩
 obtain ⟨w',hrun,hown,hgrow⟩:=run_make_full (P:=Tryz.prog) w w.heap.size T e i0 z E.sz hu hi0 hz h2 .i64 .i64 n (by
  rw [h3];have:by_*n≤1000*10000000:=Nat.mul_le_mul few hn
  omega) (by unfold maxLen;omega) (Nat.le_refl _)
 rw [hzc,← hzs,zf2 zs (by omega)] at hown;rw [hzs] at hown;exact ⟨w',hrun,⟨hown,fun _ _=>hzs,fun i hi=>by omega,by simp [zbI],fun b hb=>by rw [zbI] at hb;cases hb⟩,zaO hgrow⟩
def noRec:RecD:=⟨0,0,ByteArray.empty,0,0,0,(0,fun _=>0),(0,fun _=>0),(0,fun _=>0)⟩
def zeroT:TapeD:=⟨false,(0,fun _=>noRec)⟩
theorem ChgL.bel {K:List Nat} {w w':World} {B:Nat} (hc:ChgL K w w') (hK:∀ b,b∈K→B≤b) (hB:B≤w.heap.size):Below B w w':=⟨hc.os,hc.tape,hc.output,hc.size,fun k hk=>hc.block k (by omega) (fun h=>by have:=hK k h;omega)⟩
structure NewBx (cs:Array Value) (w1 wx:World) (P t:Nat):Prop where
 box:Box wx P cs 38
 tp:(zal.slice 86).own wx (2,fun _=>zeroT) [.slice (some ⟨t,0,none⟩) 2 2] [t]
 p1:w1.heap.size≤P
 t1:w1.heap.size≤t
 ne:t≠P
 bel:Below w1.heap.size w1 wx
theorem zky {α:Type} {A:Lay α} {c:α→Nat} {mk:Nat→α→α} {fn:Nat} (hm:MkV A c mk fn) {w:World} {lo hi:Nat} {d:α} {cs:List Value} (h:OwnT A w lo hi d cs) (j:Nat) (hj:j+c d≤100000000) :
 Calls Tryz.prog fn #[.agg cs.toArray,.int .i64 j] w fun e w'=>e=.returned (.int .i64 ((j+c d:Nat):Int))∧OwnT A w' lo hi (mk j d) cs∧Chg lo hi w w':=by
 obtain ⟨L,h1,h2,h3⟩:=h;exact (hm cs d L j w h1 h2 hj).mono fun e w' ⟨he,ho,hc⟩=>⟨he,⟨L,ho,h2,h3⟩,hc.chg h3⟩
theorem Chg.bel {lo hi B:Nat} {w w':World} (h:Chg lo hi w w') (hl:B≤lo) (hB:B≤w.heap.size):Below B w w':=⟨h.os,h.tape,h.output,h.size,fun k hk=>h.block k (by omega) (.inl (by omega))⟩
theorem zfe {f g:Nat→Nat}:∀ {n:Nat},(∀ i,i<n→f i≤g i)→sumN f n≤sumN g n
 | 0,_=>Nat.le_refl _
 | n+1,h=>by
  rw [za4,za4];exact Nat.add_le_add (zfe (fun i hi=>h i (by omega))) (h n (by omega))
theorem ziQ (c:Nat):∀ n:Nat,sumN (fun _=>c) n=n*c
 | 0=>by simp [sumN]
 | n+1=>by rw [za4,ziQ c n,Nat.succ_mul]
theorem zgx (f:Nat→Nat) (c k:Nat):∀ n:Nat,sumN (fun i=>c+k*f i) n=n*c+k*sumN f n
 | 0=>by simp [sumN]
 | n+1=>by rw [za4,zgx f c k n,za4,Nat.succ_mul,Nat.mul_add];omega
theorem zgy {α:Type} {c s:α→Nat} {k:Nat} (h:∀ a,c a≤k+k*s a) (p:Nat×(Nat→α)):cSl c p≤k*szSl s p:=by
 unfold cSl szSl;have h1:sumN (fun i=>c (p.2 i)) p.1≤sumN (fun i=>k+k*s (p.2 i)) p.1:=zfe (fun i _=>h (p.2 i));rw [zgx (fun i=>s (p.2 i)) k k p.1] at h1;rw [Nat.mul_add];have:p.1*k=k*p.1:=Nat.mul_comm _ _;omega
theorem zjH (d:BlockD):zaG d≤6+6*zaH d:=by unfold zaG zaH;omega
theorem zjI (d:DriveD):zaj d≤6+6*zar d:=by
 have:=zgy (k:=6) zjH d.blocks;unfold zaj zar;omega
theorem zkP (d:RecD):za7 d≤6+6*za6 d:=by unfold za7 za6;omega
theorem zki (d:TapeD):za0 d≤6+6*zaP d:=by
 have:=zgy (k:=6) zkP d.recs;unfold za0 zaP;omega
theorem ziR (d:WorldD):zc4 d≤6*zaU d:=by
 have h1:=zgy (c:=cSl zaj) (s:=szSl zar) (k:=6) (fun p=>Nat.le_trans (zgy (k:=6) zjI p) (by omega)) d.groups;have h3:=zgy (k:=6) zki d.tapes;unfold zc4 zaU;omega
theorem OwnT.one {α:Type} {A:Lay α} {w:World} {lo hi:Nat} {a:α} {cs:List Value} (h:OwnT A w lo hi a cs):∀ v,v∈cs→v.oneCell'=true:=by
 obtain ⟨L,h1,_⟩:=h;exact fun v hv=>A.own_one h1 v hv
theorem zbZ {ops:Array Oper} {rest:List Oper} {o1 o2:Oper} {a:Act} {w:World} {Q:Exit→Act→World→Prop} (T:TypeId) (k:Nat) (x:Operand) (cs:List Value) (zs:Array Value) (n:Nat)
 (hop1:o1.op=Op.alloc T) (hop2:o2.op=Op.store T (.tmp k) x) (hg1:o1.guard=none) (hg2:o2.guard=none) (hd1:o1.dst=some k) (hd2:o2.dst=none)
 (hp:(a.put (some k) (.pointer (some ⟨w.heap.size,0,none⟩))).eval (.tmp k)=.pointer (some ⟨w.heap.size,0,none⟩)) (hx:(a.put (some k) (.pointer (some ⟨w.heap.size,0,none⟩))).eval x=.agg cs.toArray)
 (hi:(Tryz.prog.info? T).map (fun i=>(i.zero.map (·.cells),i.size))=some (some zs,n)) (hz:zs.size=n) (hl:cs.length=n) (h1:∀ v,v∈cs→v.oneCell'=true)
 (h:wpList Tryz.prog ops Q rest (a.put (some k) (.pointer (some ⟨w.heap.size,0,none⟩))) (w.alloc (.cells cs.toArray T))):wpList Tryz.prog ops Q (o1::o2::rest) a w:=by
 obtain ⟨i0,hi0⟩:∃ i0,Tryz.prog.info? T=some i0:=by
  cases h:Tryz.prog.info? T with
  | none=>rw [h] at hi;cases hi
  | some i0=>exact ⟨i0,rfl⟩
 rw [hi0] at hi
 simp only [Option.map_some,Option.some.injEq,Prod.mk.injEq] at hi
 obtain ⟨h2,h3⟩:=hi
 obtain ⟨z,hzz,hzc⟩:∃ z,i0.zero=some z∧z.cells=zs:=by
  cases h:i0.zero with
  | none=>rw [h] at h2;cases h2
  | some z=>rw [h] at h2;exact ⟨z,rfl,by simpa using h2⟩
 have hr:(Instr.alloc T true (.tuple #[])).run Tryz.prog w=.ok (.pointer (some ⟨w.heap.size,0,none⟩)) (w.alloc (.cells zs T)):=by
  simp [Instr.alloc,zeroValue,typeInfo,hi0,hzz,hzc,newVar,newRow]
 have hw:(w.alloc (.cells zs T)).setRow w.heap.size cs.toArray=w.alloc (.cells cs.toArray T):=by
  have hh:((w.alloc (.cells zs T)).setRow w.heap.size cs.toArray).heap=w.heap.push (.cells cs.toArray T):=by
   apply Array.ext_getElem?
   intro i
   by_cases c:i=w.heap.size
   ·subst c
    rw [setRow_heap (w.alloc (.cells zs T)) w.heap.size zs cs.toArray T (0,0) (zaC w zs T),Array.getElem?_push,if_pos rfl]
   ·rw [setRow_other _ _ _ _ c,Array.getElem?_push,if_neg c]
    show (w.heap.push _)[i]?=_
    rw [Array.getElem?_push,if_neg c]
  show ({ w with heap:=((w.alloc (.cells zs T)).setRow w.heap.size cs.toArray).heap }:World)=_
  rw [hh];rfl
 refine wpList_plain hg1 fun K hK=>?_;unfold Oper.wp execOp
 simp only [hop1,Sem.run_bind,hr,Result.andThen_ok]
 refine hK _ _ ?_;rw [hd1];refine wpList_store_row hg2 T (.tmp k) x hop2 w.heap.size cs.toArray hp hx T zs (zaC w zs T) (by rw [hi0];simp [h3,hl]) (by simp [hz,hl]) (by simp;exact h1) ?_;rw [hw,hd2];exact h
theorem zaq {ops:Array Oper} {rest:List Oper} {o:Oper} {a:Act} {w:World} {Q:Exit→Act→World→Prop} (T:TypeId) (x:Operand) (ho:o.op=.load T x) (hgd:o.guard=none) (b:Nat) (hx:a.eval x=.pointer (some ⟨b,0,none⟩)) {cs:List Value} (hB:Box w b cs.toArray T) {fs:Array Field} (hu:Tryz.prog.underlying T=some (.struct fs)) {n:Nat} (hi:(Tryz.prog.info? T).map (·.size)=some n) (hl:cs.length=n)
 (h:wpList Tryz.prog ops Q rest (a.put o.dst (.agg cs.toArray)) w):wpList Tryz.prog ops Q (o::rest) a w:=
 wpList_load_row hgd T x ho b hx T cs.toArray (0,0) (.struct fs) hB hu rfl (by rw [hi];simp [hl]) h
theorem zco:(Tryz.prog.info? 38).map (·.size)=some 15:=by kernel_rfl
theorem zeI:(Tryz.prog.info? 28).map (·.size)=some 15:=by kernel_rfl
theorem zk8:(Tryz.prog.info? 38).map (fun i=>(i.zero.map (·.cells),i.size))=some (some #[.int .i64 0,.int .i64 0,.int .i64 0,.int .i64 0,.int .i64 0,.int .i64 0,.int .i64 0,.int .i64 0,.int .i64 0,.slice none 0 0,.slice none 0 0,.slice none 0 0,.int .i64 0,.int .i64 0,.bool false],15):=by kernel_rfl
theorem run_append_none' {P:Program} (w:World) (base:Nat) (t ty e:TypeId) (i:TypeInfo) (size:Nat) (ht:P.underlying t=some (.slice e)) (hi:P.info? e=some i) (v:Value) (n c:Nat) (xs:List Value) (hown:w.ownsRow base e size v n xs) :
 (Builtin.append_ #[t,t] ty #[v,.slice none 0 c]).run P w=.ok v w:=by
 rcases hown.2 with ⟨rfl,rfl⟩ | ⟨g,cap,cur,rfl,_,_,hnc,_⟩
 ·simp [Builtin.append_,run_underlying ht,sizeOf,typeInfo,hi,Builtin.lenOf,Builtin.firstCells]
 ·simp [Builtin.append_,run_underlying ht,sizeOf,typeInfo,hi,Builtin.lenOf,Builtin.firstCells,hnc,storeCells]
theorem zjJ {ops:Array Oper} {rest:List Oper} {o:Oper} {a:Act} {W w':World} {Q:Exit→Act→World→Prop} {T:TypeId} {v' x1 x2:Value} (hg:o.guard=none) (s y:Operand) (hop:o.op=Op.call { callee:=Callee.builtin Builtin.append,args:=#[s,y],argTypes:=#[T,T] })
 (h1:a.eval s=x1) (h2:a.eval y=x2) (hrun:(Builtin.append_ #[T,T] o.type #[x1,x2]).run Tryz.prog W=.ok v' w') (hK:wpList Tryz.prog ops Q rest (a.put o.dst v') w'):wpList Tryz.prog ops Q (o::rest) a W:=by
 refine wpList_plain hg fun K hK'=>?_;unfold Oper.wp
 simp [execOp,hop,resolve,invoke,builtin,h1,h2,hrun,Result.andThen]
 exact hK' _ _ hK
def zk9 {α:Type} (E:Lay α):Prop:=∀ (w:World) (hi:Nat) (a:α) (cs:List Value),E.rd w hi a cs→∀ u,u∈cs→u.oneCell'=true
theorem zeJ:zk9 zaa:=fun w hi p cs h u hu=>by
 obtain ⟨v,rfl,⟨ao,cap,rfl,_⟩,_⟩:=h
 simp at hu
 subst hu;rfl
def cat2 {β:Type} (x:Nat→β) (n:Nat) (y:Nat→β):Nat→β:=fun i=>if i<n then x i else y (i-n)
theorem zdX {β:Type} (x:Nat→β) {n i:Nat} (y:Nat→β) (h:i<n):cat2 x n y i=x i:=if_pos h
theorem zfD {β:Type} (x:Nat→β) (n:Nat) (y:Nat→β) (i:Nat):cat2 x n y (n+i)=y i:=by
 unfold cat2;rw [if_neg (by omega)]
 congr 1
 omega
theorem zeK {β:Type} (x:Nat→List β) (n:Nat) (y:Nat→List β):∀ m,catN (n+m) (cat2 x n y)=catN n x++catN m y
 | 0=>by rw [zbI,List.append_nil];exact zdO (fun i hi=>zdX x y hi)
 | m+1=>by rw [← Nat.add_assoc,za2,zeK x n y m,za2,zfD,List.append_assoc]
structure View {α:Type} (E:Lay α) (t:TypeId) (w:World) (lo hi:Nat) (v:Value) (n:Nat) (x:Nat→α) (ce:Nat→List Value):Prop where
 row:w.ownsRow lo t E.sz v n (catN n ce)
 each:∀ i,i<n→E.rd w hi (x i) (ce i)
section
variable {α:Type} {E:Lay α} {t:TypeId} {w w':World} {lo hi n:Nat} {v:Value} {x:Nat→α} {ce:Nat→List Value}
theorem View.nil (x:Nat→α) (ce:Nat→List Value) (w:World) (lo hi:Nat):View E t w lo hi (.slice none 0 0) 0 x ce:=⟨World.ownsRow_nil w lo t E.sz,fun i hi=>by omega⟩
theorem View.lit0 (x:Nat→α) (ce:Nat→List Value) (w:World) (hi:Nat):View E t (w.alloc (.cells #[] t)) w.heap.size hi (.slice (some ⟨w.heap.size,0,none⟩) 0 0) 0 x ce:=by
 have h:=World.ownsRow_lit (base:=w.heap.size) (e:=t) (size:=E.sz) w #[] 0 (Nat.le_refl _) (Nat.zero_le _) (by simp);exact ⟨by simpa [zbI] using h,fun i hi=>by omega⟩
theorem View.form (h:View E t w lo hi v n x ce):∃ ao cap,v=.slice ao n cap:=by
 rcases h.row.2 with ⟨hv,hn⟩ | ⟨g,cap,cur,rfl,_⟩
 ·exact ⟨none,0,by rw [hv,hn]⟩
 ·exact ⟨_,_,rfl⟩
theorem View.form0 (h:View E t w lo hi v n x ce) (h0:n≠0):∃ g cap,v=.slice (some ⟨g,0,none⟩) n cap:=by
 rcases h.row.2 with ⟨hv,hn⟩ | ⟨g,cap,cur,rfl,_⟩
 ·exact absurd hn h0
 ·exact ⟨_,_,rfl⟩
theorem View.len (h:View E t w lo hi v n x ce):n≤maxLen:=by
 rcases h.row.2 with ⟨hv,hn⟩ | ⟨g,cap,cur,rfl,hbg,hgg,hnc,hcm,rest⟩
 ·omega
 ·omega
theorem View.kept (h:View E t w lo hi v n x ce) (hk:∀ b,v.ownBlock=some b→w'.heap[b]?=w.heap[b]?) (hb:Below hi w w'):View E t w' lo hi v n x ce:=by
 refine ⟨⟨h.row.1,?_⟩,fun i hi=>E.rd_below (h.each i hi) hb (Nat.le_refl _)⟩
 rcases h.row.2 with hn | ⟨g,cap,cur,rfl,hbg,hgg,rest⟩
 ·exact .inl hn
 ·exact .inr ⟨g,cap,cur,rfl,hbg,(hk g (by simp [Value.ownBlock])).trans hgg,rest⟩
theorem View.below (h:View E t w lo hi v n x ce) (hb:Below w.heap.size w w') (hh:hi≤w.heap.size):View E t w' lo hi v n x ce:=
 h.kept (fun b hv=>hb.block b (h.row.lt b hv).2) (hb.mono hh)
theorem View.congr {y:Nat→α} (h:View E t w lo hi v n x ce) (hy:∀ i,i<n→x i=y i):View E t w lo hi v n y ce:=⟨h.row,fun i hi=>by rw [← hy i hi];exact h.each i hi⟩
theorem View.lens (h:View E t w lo hi v n x ce):∀ i,i<n→(ce i).length=E.sz:=fun i hi=>E.rd_len (h.each i hi)
theorem View.cell {g cap:Nat} (h:View E t w lo hi (.slice (some ⟨g,0,none⟩) n cap) n x ce) {i j:Nat} (hi:i<n) (hj:j<E.sz):w.cell? ⟨g,i*E.sz+j,none⟩=(ce i)[j]?:=by
 rw [h.row.cellAt _ (zjb hi hj),zcf h.lens hi hj]
theorem View.store1 {g cap:Nat} (h:View E t w lo hi (.slice (some ⟨g,0,none⟩) n cap) n x ce) (h1:E.sz=1) (hlo:hi≤lo) {i:Nat} (hi':i<n) {u:Value} {a:α} (ha:E.rd w hi a [u]) :
 View E t (w.setCell ⟨g,i,none⟩ u) lo hi (.slice (some ⟨g,0,none⟩) n cap) n (upd x i a) (upd ce i [u])∧Below lo w (w.setCell ⟨g,i,none⟩ u):=by
 have hg:=h.row.lt g rfl;have hb:Below lo w (w.setCell ⟨g,i,none⟩ u):=(Below.refl _ _).setCell hg.1 _;refine ⟨⟨?_,fun m hm=>?_⟩,hb⟩
 ·have:=(h.row.stored (i*E.sz+0) u).1
  rw [zh1 h.lens hi' (by omega)] at this;rw [show i*E.sz+0=i by rw [h1];omega] at this;have hl:=h.lens i hi';rw [h1] at hl;obtain ⟨c,hc⟩:=List.length_eq_one_iff.1 hl;rw [hc] at this;exact this
 ·by_cases c:m=i
  ·subst c
   rw [za3,za3];exact E.rd_below ha hb hlo
  ·rw [zbz x a c,zbz ce _ c]
   exact E.rd_below (h.each m hm) hb hlo
def Src (E:Lay α) (w:World) (hi:Nat) (ao:Option Addr) (m:Nat) (y:Nat→α) (cy:Nat→List Value):Prop:=
 (m≠0→∃ b off,ao=some ⟨b,off,none⟩∧∀ j,j<m→∀ k,k<E.sz→w.cell? ⟨b,off+(j*E.sz+k),none⟩=(cy j)[k]?)∧∀ j,j<m→E.rd w hi (y j) (cy j)
theorem zjK {b:Nat} {y:α} {cs:List Value} (hc:∀ k,k<E.sz→w.cell? ⟨b,k,none⟩=cs[k]?) (hy:E.rd w hi y cs):Src E w hi (some ⟨b,0,none⟩) 1 (fun _=>y) (fun _=>cs):=
 ⟨fun _=>⟨b,0,rfl,fun j hj k hk=>by
  obtain rfl:j=0:=by omega
  rw [← hc k hk]
  congr 2
  omega⟩,fun _ _=>hy⟩
theorem zla (b o j:Nat):(⟨b,o,none⟩:Addr).add j=⟨b,o+j,none⟩:=by unfold Addr.add;split<;>simp_all
end
theorem zeL {α:Type} {E:Lay α} {T e:TypeId} {by_:Nat} {zs:List Value} (I:ElInfo E T e by_ zs) (R1:zk9 E) (ty:TypeId) {W:World} {lo hi n:Nat} {v:Value} {x:Nat→α} {ce:Nat→List Value} (h:View E e W lo hi v n x ce)
 {ao:Option Addr} {m:Nat} (c:Nat) {y:Nat→α} {cy:Nat→List Value} (hs:Src E W hi ao m y cy) (hlo:lo≤W.heap.size) (hhi:hi≤lo) (hn:n+m≤10000000) (hc0:ao=none→c=0∨m=0) :
 ∃ v' w',(Builtin.append_ #[T,T] ty #[v,.slice ao m c]).run Tryz.prog W=.ok v' w'∧View E e w' lo hi v' (n+m) (cat2 x n y) (cat2 ce n cy)∧W.grownBy w' v.ownBlock∧Below lo W w':=by
 obtain ⟨hz,hzs,hu,hinf,few⟩:=I
 obtain ⟨i0,hi0⟩:∃ i0,Tryz.prog.info? e=some i0:=by
  cases h:Tryz.prog.info? e with
  | none=>rw [h] at hinf;cases hinf
  | some i0=>exact ⟨i0,rfl⟩
 rw [hi0] at hinf
 simp only [Option.map_some,Option.some.injEq,Prod.mk.injEq] at hinf
 obtain ⟨h1,h2,h3⟩:=hinf
 obtain ⟨z,hz0,hzc⟩:∃ z,i0.zero=some z∧z.cells=zs.toArray:=by
  cases h:i0.zero with
  | none=>rw [h] at h1;cases h1
  | some z=>rw [h] at h1;exact ⟨z,rfl,by simpa using h1⟩
 obtain ⟨hcell,hrd⟩:=hs;have hlen:(catN m cy).length=m*E.sz:=zc1 (fun j hj=>E.rd_len (hrd j hj))
 have big:∀ ad,ao=some ad→(∀ j u,(catN m cy)[j]?=some u→W.cell? (ad.add j)=some u)→∃ v' w',(Builtin.append_ #[T,T] ty #[v,.slice ao m c]).run Tryz.prog W=.ok v' w'∧View E e w' lo hi v' (n+m) (cat2 x n y) (cat2 ce n cy)∧W.grownBy w' v.ownBlock∧Below lo W w':=fun ad ha hc=>by
  subst ha
  obtain ⟨v',w',hr,r1,r2,r3,r4⟩:=run_append_own_at (P:=Tryz.prog) W lo T ty e i0 z E.sz by_ hu hi0 hz0 h2 h3 (by rw [hzc];simpa using hzs) hz v n (catN n ce) h.row ad m c (catN m cy) hlen hc
   (fun u hu=>by
    obtain ⟨i,hi,hm⟩:=zaY.1 hu
    exact R1 _ _ _ _ (hrd i hi) u hm) (by unfold maxLen;omega) (by
    have:(n+m)*by_≤10000000*1000:=Nat.mul_le_mul hn few
    omega) hlo
  have hb:Below lo W w':=(Below.refl _ _).grown r2 hlo (fun k hk=>(h.row.lt k hk).1);refine ⟨v',w',hr,⟨by rw [zeK];exact r1,fun i hi=>?_⟩,r2,hb⟩
  by_cases c1:i<n
  ·rw [zdX x y c1,zdX ce cy c1]
   exact E.rd_below (h.each i c1) hb hhi
  ·obtain ⟨k,rfl⟩:∃ k,i=n+k:=⟨i-n,by omega⟩
   rw [zfD,zfD];exact E.rd_below (hrd k (by omega)) hb hhi
 by_cases hm:m=0
 ·subst hm
  cases ao with
  | some ad=>exact big ad rfl (fun j u hj=>by rw [zbI] at hj;simp at hj)
  | none=>
   refine ⟨v,W,run_append_none' W lo T ty e i0 E.sz hu hi0 v n c _ h.row,⟨by rw [zeK,zbI,List.append_nil];exact h.row,fun i hi=>?_⟩,⟨rfl,rfl,rfl,Nat.le_refl _,fun _ _ _=>rfl⟩,Below.refl _ _⟩
   have hi':i<n:=by omega
   rw [zdX x y hi',zdX ce cy hi'];exact h.each i hi'
 ·obtain ⟨b,off,rfl,hcc⟩:=hcell hm
  refine big _ rfl (fun j u hj=>?_)
  have hj':j<m*E.sz:=by rw [← hlen];exact (List.getElem?_eq_some_iff.1 hj).1
  have e1:j/E.sz<m:=Nat.div_lt_of_lt_mul (by rw [Nat.mul_comm];exact hj');have e2:j%E.sz<E.sz:=Nat.mod_lt _ hz
  have e3:j/E.sz*E.sz+j%E.sz=j:=by rw [Nat.mul_comm];exact Nat.div_add_mod j E.sz
  rw [zla,← e3,hcc _ e1 _ e2,← zcf (fun j hj=>E.rd_len (hrd j hj)) e1 e2,e3];exact hj
def zbW (x:Nat→DriveD):Nat→Nat
 | 0=>0
 | n+1=>zbW x n+(if (x n).wiped=true then 1 else 0)
theorem zgz (x:Nat→DriveD):∀ n,zbW x n≤n
 | 0=>Nat.le_refl _
 | n+1=>by
  have:=zgz x n;unfold zbW
  split<;>omega
def zdp (d:WorldD) (G:Nat):Prop:=d.shape 3<(zbW (d.groups.2 G).2 (d.groups.2 G).1:Int)
set_option maxRecDepth 20000 in
theorem ziS (d:WorldD) (cs:List Value) (hi:Nat) (G:Nat) (w:World) (h:zae.rd w hi d cs) (hhi:hi≤w.heap.size) (hG:G<d.groups.1) :
 Calls Tryz.prog 23 #[.agg cs.toArray,.int .i64 (G:Int)] w (zbd (zdp d G) w):=by
 obtain ⟨ao1,cap1,ao2,cap2,ao3,cap3,rfl,g1,g2,g3,k0,k4,k5⟩:=zay h;obtain ⟨_,_,e1,hm1,hc1⟩:=g1
 cases e1
 obtain ⟨b1,off1,he1,hb1,hel1⟩:=hc1 (by omega);subst he1;obtain ⟨cg,hrg,hcg⟩:=hel1 G hG;obtain ⟨ao9,cap9,rfl⟩:=zbi hrg
 have c0:w.cell? ⟨b1,off1+G,none⟩=some (.slice ao9 (d.groups.2 G).1 cap9):=by
  have:=hcg 0 (by decide)
  have e:off1+(G*(zab.slice 79).sz+0)=off1+G:=by show off1+(G*1+0)=off1+G;omega
  rw [e] at this;exact this
 obtain ⟨_,_,e9,hm9,hc9⟩:=hrg
 cases e9
 unfold maxLen at hm9
 have i1:(0:Int)≤(G:Int):=by omega
 have i2:(G:Int)<(d.groups.1:Int):=by omega
 clear g2 g3 k0 k4 k5 hcg hel1 hc1 hm1;have T0:=zav w (rwW d (some ⟨b1,off1,none⟩) cap1 ao2 cap2 ao3 cap3).toArray 38;have x9:=T0.b1.cell 9;have c0':=(T0.bel.cell (p:=⟨b1,off1+G,none⟩) (by show b1<w.heap.size;omega)).trans c0
 go_enter Tryz.func23,Tryz.ntmps23
 go_wp2
 go_loopw [5,14] (fun v i wr=>∃ k:Nat,k≤(d.groups.2 G).1∧i=.int .i64 k∧v=.int .i64 (zbW (d.groups.2 G).2 k:Int)∧One w wr (rwW d (some ⟨b1,off1,none⟩) cap1 ao2 cap2 ao3 cap3).toArray 38) (fun _ i _=>(d.groups.2 G).1-(intOf i).toNat)
 case atStart=>exact ⟨0,Nat.zero_le _,rfl,rfl,T0⟩
 case round=>
  clear T0 x9 c0';obtain ⟨k,hk,rfl,rfl,T⟩:=hrel;have HT:Hid (One w wr (rwW d (some ⟨b1,off1,none⟩) cap1 ao2 cap2 ao3 cap3).toArray 38):=T;have x3:wr.cell? ⟨w.heap.size,3,none⟩=some (.int .i64 (d.shape 3)):=T.b1.cell 3;have hwk:=zgz (d.groups.2 G).2 k
  by_cases hlt:k<(d.groups.2 G).1
  ·have t1:(k:Int)<((d.groups.2 G).1:Int):=by omega
   obtain ⟨b,off,rfl,hblt,hcell⟩:=hc9 (by omega);obtain ⟨cd,hrd,hcd⟩:=hcell k hlt;obtain ⟨ao5,cap5,rfl,g5⟩:=zaZ hrd;have c2:wr.cell? ⟨b,off+k*2,none⟩=some (.bool ((d.groups.2 G).2 k).wiped):=(T.bel.cell (p:=⟨b,off+k*2,none⟩) (by show b<w.heap.size;omega)).trans (hcd 0 (by decide));have c3:wr.cell? ⟨b,off+k*2+1,none⟩=some (.slice ao5 ((d.groups.2 G).2 k).blocks.1 cap5):=(T.bel.cell (p:=⟨b,off+k*2+1,none⟩) (by show b<w.heap.size;omega)).trans (hcd 1 (by decide));obtain ⟨D,hD⟩:∃ D,D=(d.groups.2 G).2 k:=⟨_,rfl⟩;have HD:Hid (D=(d.groups.2 G).2 k):=hD;rw [← hD] at c2 c3;obtain ⟨m,hm⟩:∃ m,m=zbW (d.groups.2 G).2 k:=⟨_,rfl⟩;have HM:Hid (m=zbW (d.groups.2 G).2 k):=hm;rw [← hm] at hwk ⊢;have HT9:Hid (One w (wr.alloc (.cells #[.bool D.wiped,.slice ao5 D.blocks.1 cap5] 79)) (rwW d (some ⟨b1,off1,none⟩) cap1 ao2 cap2 ao3 cap3).toArray 38):=HT.out.call ((Below.refl _ _).alloc (Nat.le_refl _) _);clear hc9 hcell hcd hrd g5 T hD hm x3
   cases hw:D.wiped with
   | true=>
    rw [hw] at c2 HT9;have HW:Hid (D.wiped=true):=hw
    have zz:IntKind.i64.wrap ((m:Int)+1)=(m:Int)+1:=by rw [IntKind.wrap_i64];omega
    clear hw;go_wp2
    go_roundw
    case rel=>exact ⟨k+1,by omega,by go_num,by
     have e:zbW (d.groups.2 G).2 (k+1)=m+1:=by
      show zbW (d.groups.2 G).2 k+(if ((d.groups.2 G).2 k).wiped=true then 1 else 0)=m+1
      rw [← HD.out,if_pos HW.out,← HM.out]
     rw [e];go_num,HT9.out⟩
    case measure=>simp [intOf];omega
   | false=>
    rw [hw] at c2 HT9;have HW:Hid (D.wiped=false):=hw;clear hw;go_wp2
    go_roundw
    case rel=>exact ⟨k+1,by omega,by go_num,by
     have e:zbW (d.groups.2 G).2 (k+1)=m:=by
      show zbW (d.groups.2 G).2 k+(if ((d.groups.2 G).2 k).wiped=true then 1 else 0)=m
      rw [← HD.out,if_neg (by rw [HW.out];decide),← HM.out];rfl
     rw [e],HT9.out⟩
    case measure=>simp [intOf];omega
  ·obtain rfl:k=(d.groups.2 G).1:=by omega
   clear hlt T hc9
   by_cases hd:d.shape 3<(zbW (d.groups.2 G).2 (d.groups.2 G).1:Int)
   ·have HD:Hid (zdp d G):=hd
    have dd:decide (d.shape 3<(zbW (d.groups.2 G).2 (d.groups.2 G).1:Int))=true:=decide_eq_true hd;clear hd;go_wp2;go_ret;exact zau rfl HD.out HT.out.bel
   ·have HD:Hid (¬ zdp d G):=hd
    have dd:decide (d.shape 3<(zbW (d.groups.2 G).2 (d.groups.2 G).1:Int))=false:=decide_eq_false hd;clear hd;go_wp2;go_ret;exact zam rfl HD.out HT.out.bel
theorem zjL (v:Value) (n:Nat) (g:Nat→Int) (hi:Nat) (x:Int) (w:World) (r:RdI w hi v n g) :
 Calls Tryz.prog 116 #[v,.int .i64 x] w fun e w'=>∃ z:Int,e=.returned (.int .i64 z)∧(0≤z↔∃ t,t<n∧g t=x)∧w'=w:=by
 obtain ⟨ao,cap,rfl,hm,hc⟩:=r;unfold maxLen at hm
 go_enter Tryz.func116,Tryz.ntmps116
 go_wp2
 go_loop [8] (fun i=>∃ k:Nat,k≤n∧i=.int .i64 k∧∀ i,i<k→g i≠x) (fun i=>n-(intOf i).toNat)
 case atStart=>exact ⟨0,Nat.zero_le _,rfl,fun i hi=>by omega⟩
 case round=>
  obtain ⟨k,hk,rfl,hall⟩:=hrel;have HALL:=hid hall;clear hall
  by_cases hlt:k<n
  ·obtain ⟨b,off,rfl,hblt,hcell⟩:=hc (by omega)
   have hck:w.cell? ⟨b,off+k,none⟩=some (.int .i64 (g k)):=hcell k hlt;obtain ⟨y,hy⟩:∃ y,y=g k:=⟨_,rfl⟩;have HY:=hid hy;rw [← hy] at hck;clear hc hcell hy
   by_cases heq:x=y
   ·have HP:Hid (0≤(k:Int)↔∃ t,t<n∧g t=x):=⟨fun _=>⟨k,hlt,by rw [← HY.out,heq]⟩,fun _=>by omega⟩
    have te:(x==y)=true:=by simp [heq]
    clear heq;go_wp2;go_ret;exact ⟨_,rfl,HP.out,rfl⟩
   ·have te:(x==y)=false:=by simp [heq]
    have HN:Hid (g k≠x):=by show g k≠x;rw [← HY.out];exact fun h=>heq h.symm
    clear heq;go_wp2
    go_round
    case rel=>exact ⟨k+1,by omega,by go_num,fun i hi=>by
     by_cases c:i=k
     ·rw [c];exact HN.out
     ·exact HALL.out i (by omega)⟩
    case measure=>simp [intOf];omega
  ·obtain rfl:k=n:=by omega
   have HP:Hid (0≤(-1:Int)↔∃ t,t<k∧g t=x):=⟨fun h=>by omega,fun ⟨t,ht,he⟩=>absurd he (HALL.out t ht)⟩;clear hc;go_wp2;go_ret;exact ⟨-1,rfl,HP.out,rfl⟩
theorem zcZ (v:Value) (n:Nat) (g:Nat→Int) (hi:Nat) (x:Int) (w:World) (r:RdI w hi v n g) :
 Calls Tryz.prog 91 #[v,.int .i64 x] w (zbd (∃ t,t<n∧g t=x) w):=by
 have C:=zjL v n g hi x w r;obtain ⟨ao,cap,rfl,hm,hc⟩:=r;clear hc hm;have HI:=hid C;clear C;obtain ⟨P,hP⟩:∃ P:Prop,P=∃ t,t<n∧g t=x:=⟨_,rfl⟩;rw [← hP] at HI ⊢;clear hP
 go_enter Tryz.func91,Tryz.ntmps91
 go_wp2_with fail
 refine HI.out.mono ?_;rintro e w1 ⟨z,rfl,hz,hw1⟩;obtain rfl:=hw1.symm;have HZ:=hid hz;clear hz HI
 by_cases h0:0≤z
 ·have HP:Hid P:=HZ.out.mp h0
  go_wp2;go_ret;exact zau rfl HP.out (Below.refl _ _)
 ·have HP:Hid (¬ P):=fun h=>h0 (HZ.out.mpr h)
  have td:decide (0≤z)=false:=by simp;omega
  clear h0;go_wp2;go_ret;exact zam rfl HP.out (Below.refl _ _)
end Go.Proofs.YtoeldpfeadeilaaGreat
namespace Go.Proofs.YtoeldpfeadeilaaGreat
open Go.RowKit
theorem Box.allocd {w:World} {b:Nat} {cs:Array Value} {t:TypeId} (h:Box w b cs t) (o:Obj):Box (w.alloc o) b cs t:=(Below.heap_alloc w o b h.lt).trans h
end Go.Proofs.YtoeldpfeadeilaaGreat
namespace Go.Proofs.YtoeldpfeadeilaaGreat
open Go.RowKit F256
theorem zhw (x a b:Int) (w:World) :
 Calls Tryz.prog 126 #[.int .i64 x,.int .i64 a,.int .i64 b] w fun e w'=>e=.returned (.int .i64 (max a (min x b)))∧w'=w:=by
 go_enter Tryz.func126,Tryz.ntmps126
 go_wp2;go_ret;exact ⟨rfl,rfl⟩
def zaz (x a b:Int):Int:=max a (min x b)
theorem zbu (x a b:Int) (h:a≤b):x=zaz x a b↔a≤x∧x≤b:=by
 unfold zaz;omega
theorem zbv (x a b:Int) (w:World) :
 Calls Tryz.prog 126 #[.int .i64 x,.int .i64 a,.int .i64 b] w fun e w'=>e=.returned (.int .i64 (zaz x a b))∧w'=w:=zhw x a b w
set_option maxRecDepth 20000 in
theorem zed (a0 a1 a2 a3 a4 a5 a6 a7 a8:Int) (w:World) :
 Calls Tryz.prog 111 #[.agg #[.int .i64 a0,.int .i64 a1,.int .i64 a2,.int .i64 a3,.int .i64 a4,.int .i64 a5,.int .i64 a6,.int .i64 a7,.int .i64 a8]] w fun e w'=>e=.returned (.agg #[.int .i64 (zaz a0 1 4),.int .i64 (zaz a1 0 2),.int .i64 (zaz a2 1 3),.int .i64 (zaz a3 0 2),.int .i64 (zaz a4 1 6),.int .i64 (zaz a5 1 6),.int .i64 (zaz a6 1 4),.int .i64 (zaz a7 1 6),.int .i64 (zaz a8 0 400)])∧Below w.heap.size w w':=by
 go_enter Tryz.func111,Tryz.ntmps111
 go_wp2_with fail
 have XA:=(zaC w #[.int .i64 a0,.int .i64 a1,.int .i64 a2,.int .i64 a3,.int .i64 a4,.int .i64 a5,.int .i64 a6,.int .i64 a7,.int .i64 a8] 34).allocd (.cells #[.int .i64 0,.int .i64 0,.int .i64 0,.int .i64 0,.int .i64 0,.int .i64 0,.int .i64 0,.int .i64 0,.int .i64 0] 34);have XZ:=zaC (w.alloc (.cells #[.int .i64 a0,.int .i64 a1,.int .i64 a2,.int .i64 a3,.int .i64 a4,.int .i64 a5,.int .i64 a6,.int .i64 a7,.int .i64 a8] 34)) #[.int .i64 0,.int .i64 0,.int .i64 0,.int .i64 0,.int .i64 0,.int .i64 0,.int .i64 0,.int .i64 0,.int .i64 0] 34
 have hz:(w.alloc (.cells #[.int .i64 a0,.int .i64 a1,.int .i64 a2,.int .i64 a3,.int .i64 a4,.int .i64 a5,.int .i64 a6,.int .i64 a7,.int .i64 a8] 34)).heap.size=w.heap.size+1:=by simp
 rw [hz] at XZ;have BA:Below w.heap.size w ((w.alloc (.cells #[.int .i64 a0,.int .i64 a1,.int .i64 a2,.int .i64 a3,.int .i64 a4,.int .i64 a5,.int .i64 a6,.int .i64 a7,.int .i64 a8] 34)).alloc (.cells #[.int .i64 0,.int .i64 0,.int .i64 0,.int .i64 0,.int .i64 0,.int .i64 0,.int .i64 0,.int .i64 0,.int .i64 0] 34)):=((Below.refl _ _).alloc (Nat.le_refl _) _).alloc (by simp) _;obtain ⟨wA,hwA⟩:∃ x,x=(w.alloc (.cells #[.int .i64 a0,.int .i64 a1,.int .i64 a2,.int .i64 a3,.int .i64 a4,.int .i64 a5,.int .i64 a6,.int .i64 a7,.int .i64 a8] 34)).alloc (.cells #[.int .i64 0,.int .i64 0,.int .i64 0,.int .i64 0,.int .i64 0,.int .i64 0,.int .i64 0,.int .i64 0,.int .i64 0] 34):=⟨_,rfl⟩;rw [← hwA] at XA XZ BA ⊢;clear hwA hz;refine wp_region_still_tail 28 (by kernel_rfl) (by kernel_rfl) ?_;have XA':Box { wA with drawn:=wA.drawn+1 } w.heap.size #[.int .i64 a0,.int .i64 a1,.int .i64 a2,.int .i64 a3,.int .i64 a4,.int .i64 a5,.int .i64 a6,.int .i64 a7,.int .i64 a8] 34:=XA;have XZ':Box { wA with drawn:=wA.drawn+1 } (w.heap.size+1) #[.int .i64 0,.int .i64 0,.int .i64 0,.int .i64 0,.int .i64 0,.int .i64 0,.int .i64 0,.int .i64 0,.int .i64 0] 34:=XZ;have BA':Below w.heap.size w { wA with drawn:=wA.drawn+1 }:=⟨BA.os,BA.tape,BA.output,BA.size,BA.block⟩;obtain ⟨wB,hwB⟩:∃ x:World,x={ wA with drawn:=wA.drawn+1 }:=⟨_,rfl⟩;rw [← hwB] at XA' XZ' BA' ⊢;clear XA XZ BA hwB;obtain ⟨x0,x1,x2,x3,x4,x5,x6,x7,x8⟩:=box9 XA';obtain ⟨y0,y1,y2,y3,y4,y5,y6,y7,y8⟩:=box9 XZ'
 simp only [List.take_succ_cons,List.take_zero,List.drop_succ_cons,List.drop_zero]
 still_step
 still_step
 still_call (zbv _ _ _ _)
 still_step
 still_step
 still_call (zbv _ _ _ _)
 still_step
 still_step
 still_call (zbv _ _ _ _)
 still_step
 still_step
 still_call (zbv _ _ _ _)
 still_step
 still_step
 still_call (zbv _ _ _ _)
 still_step
 still_step
 still_call (zbv _ _ _ _)
 still_step
 still_step
 still_call (zbv _ _ _ _)
 still_step
 still_step
 still_call (zbv _ _ _ _)
 still_step
 still_step
 still_call (zbv _ _ _ _)
 still_step
 refine wpStill_nil ?_;have z0:wB.frozen? ⟨w.heap.size+1,0,none⟩=false:=XZ'.frozen 0;have z1:wB.frozen? ⟨w.heap.size+1,1,none⟩=false:=XZ'.frozen 1;have z2:wB.frozen? ⟨w.heap.size+1,2,none⟩=false:=XZ'.frozen 2;have z3:wB.frozen? ⟨w.heap.size+1,3,none⟩=false:=XZ'.frozen 3;have z4:wB.frozen? ⟨w.heap.size+1,4,none⟩=false:=XZ'.frozen 4;have z5:wB.frozen? ⟨w.heap.size+1,5,none⟩=false:=XZ'.frozen 5;have z6:wB.frozen? ⟨w.heap.size+1,6,none⟩=false:=XZ'.frozen 6;have z7:wB.frozen? ⟨w.heap.size+1,7,none⟩=false:=XZ'.frozen 7;have z8:wB.frozen? ⟨w.heap.size+1,8,none⟩=false:=XZ'.frozen 8;go_wp2;refine bodyPost_ret (v:=.agg #[.int .i64 (zaz a0 1 4),.int .i64 (zaz a1 0 2),.int .i64 (zaz a2 1 3),.int .i64 (zaz a3 0 2),.int .i64 (zaz a4 1 6),.int .i64 (zaz a5 1 6),.int .i64 (zaz a6 1 4),.int .i64 (zaz a7 1 6),.int .i64 (zaz a8 0 400)]) (by simp [results,Tryz.results111,go_sem,y0,y1,y2,y3,y4,y5,y6,y7,y8]) rfl ⟨rfl,?_⟩;exact (((((((((BA'.setCell (Nat.le_succ _) _).setCell (Nat.le_succ _) _).setCell (Nat.le_succ _) _).setCell (Nat.le_succ _) _).setCell (Nat.le_succ _) _).setCell (Nat.le_succ _) _).setCell (Nat.le_succ _) _).setCell (Nat.le_succ _) _).setCell (Nat.le_succ _) _)
theorem zgA (a0 a1 a2 a3 a4 a5 a6 a7 a8:Int) (w:World):(Op.equalIn 10000 34 (.agg #[.int .i64 a0,.int .i64 a1,.int .i64 a2,.int .i64 a3,.int .i64 a4,.int .i64 a5,.int .i64 a6,.int .i64 a7,.int .i64 a8]) (.agg #[.int .i64 a0,.int .i64 a1,.int .i64 a2,.int .i64 a3,.int .i64 a4,.int .i64 a5,.int .i64 a6,.int .i64 a7,.int .i64 a8])).run Tryz.prog w=.ok true w:=by
 have u3:=Tryz.underlying2;rw [show (10000:Nat)=9999+1 from rfl,run_equalIn_agg w 9999 34 _ _ (by kernel_rfl) (by kernel_rfl)]
 simp only [Program.fieldsOf,Tryz.underlying34]
 go_simp
theorem zhx (a0 a1 a2 a3 a4 a5 a6 a7 a8 b0 b1 b2 b3 b4 b5 b6 b7 b8:Int) (h:¬ (a0=b0∧a1=b1∧a2=b2∧a3=b3∧a4=b4∧a5=b5∧a6=b6∧a7=b7∧a8=b8)) (w:World):(Op.equalIn 10000 34 (.agg #[.int .i64 a0,.int .i64 a1,.int .i64 a2,.int .i64 a3,.int .i64 a4,.int .i64 a5,.int .i64 a6,.int .i64 a7,.int .i64 a8]) (.agg #[.int .i64 b0,.int .i64 b1,.int .i64 b2,.int .i64 b3,.int .i64 b4,.int .i64 b5,.int .i64 b6,.int .i64 b7,.int .i64 b8])).run Tryz.prog w=.ok false w:=by
 have u3:=Tryz.underlying2;rw [show (10000:Nat)=9999+1 from rfl,run_equalIn_agg w 9999 34 _ _ (by kernel_rfl) (by kernel_rfl)]
 simp only [Program.fieldsOf,Tryz.underlying34]
 have H:=hid h;clear h;go_simp;exact fun h0 h1 h2 h3 h4 h5 h6 h7 h8=>H.out ⟨h0,h1,h2,h3,h4,h5,h6,h7,h8⟩
theorem zkQ (s:Nat→Int):zak s↔s 0=zaz (s 0) 1 4∧s 1=zaz (s 1) 0 2∧s 2=zaz (s 2) 1 3∧s 3=zaz (s 3) 0 2∧s 4=zaz (s 4) 1 6∧s 5=zaz (s 5) 1 6∧s 6=zaz (s 6) 1 4∧s 7=zaz (s 7) 1 6∧s 8=zaz (s 8) 0 400:=by
 unfold zak Shp3 Shp;rw [zbu (s 0) 1 4 (by omega),zbu (s 1) 0 2 (by omega),zbu (s 2) 1 3 (by omega),zbu (s 3) 0 2 (by omega),zbu (s 4) 1 6 (by omega),zbu (s 5) 1 6 (by omega),zbu (s 6) 1 4 (by omega),zbu (s 7) 1 6 (by omega),zbu (s 8) 0 400 (by omega)];omega
theorem zcw (s:Nat→Int) (w:World) :
 Calls Tryz.prog 83 #[zaf s] w fun e w'=>∃ x,e=.returned (.int .i64 x)∧zkw s x∧Below w.heap.size w w':=by
 have HK:Hid (zak s↔s 0=zaz (s 0) 1 4∧s 1=zaz (s 1) 0 2∧s 2=zaz (s 2) 1 3∧s 3=zaz (s 3) 0 2∧s 4=zaz (s 4) 1 6∧s 5=zaz (s 5) 1 6∧s 6=zaz (s 6) 1 4∧s 7=zaz (s 7) 1 6∧s 8=zaz (s 8) 0 400):=zkQ s;unfold zaf;obtain ⟨a0,h0⟩:∃ a,a=s 0:=⟨_,rfl⟩;obtain ⟨a1,h1⟩:∃ a,a=s 1:=⟨_,rfl⟩;obtain ⟨a2,h2⟩:∃ a,a=s 2:=⟨_,rfl⟩;obtain ⟨a3,h3⟩:∃ a,a=s 3:=⟨_,rfl⟩;obtain ⟨a4,h4⟩:∃ a,a=s 4:=⟨_,rfl⟩;obtain ⟨a5,h5⟩:∃ a,a=s 5:=⟨_,rfl⟩;obtain ⟨a6,h6⟩:∃ a,a=s 6:=⟨_,rfl⟩;obtain ⟨a7,h7⟩:∃ a,a=s 7:=⟨_,rfl⟩;obtain ⟨a8,h8⟩:∃ a,a=s 8:=⟨_,rfl⟩;rw [← h0,← h1,← h2,← h3,← h4,← h5,← h6,← h7,← h8]
 have HK2:Hid (zak s↔a0=zaz a0 1 4∧a1=zaz a1 0 2∧a2=zaz a2 1 3∧a3=zaz a3 0 2∧a4=zaz a4 1 6∧a5=zaz a5 1 6∧a6=zaz a6 1 4∧a7=zaz a7 1 6∧a8=zaz a8 0 400):=by
  show zak s↔_
  rw [h0,h1,h2,h3,h4,h5,h6,h7,h8];exact HK.out
 clear HK h0 h1 h2 h3 h4 h5 h6 h7 h8;have CN:=zed a0 a1 a2 a3 a4 a5 a6 a7 a8;have XA:=zaC w #[.int .i64 a0,.int .i64 a1,.int .i64 a2,.int .i64 a3,.int .i64 a4,.int .i64 a5,.int .i64 a6,.int .i64 a7,.int .i64 a8] 34;obtain ⟨x0,x1,x2,x3,x4,x5,x6,x7,x8⟩:=box9 XA;have HX:=hid XA;have HB:Hid (Below w.heap.size w (w.alloc (.cells #[.int .i64 a0,.int .i64 a1,.int .i64 a2,.int .i64 a3,.int .i64 a4,.int .i64 a5,.int .i64 a6,.int .i64 a7,.int .i64 a8] 34))):=bnew (Below.refl _ _);obtain ⟨wA,hwA⟩:∃ x,x=w.alloc (.cells #[.int .i64 a0,.int .i64 a1,.int .i64 a2,.int .i64 a3,.int .i64 a4,.int .i64 a5,.int .i64 a6,.int .i64 a7,.int .i64 a8] 34):=⟨_,rfl⟩;rw [← hwA] at x0 x1 x2 x3 x4 x5 x6 x7 x8 HX HB;clear XA
 by_cases ok:zak s
 ·have HO:=hid ok
  obtain ⟨e0,e1,e2,e3,e4,e5,e6,e7,e8⟩:=HK2.out.mp ok;rw [← e0,← e1,← e2,← e3,← e4,← e5,← e6,← e7,← e8] at CN;have heq:=zgA a0 a1 a2 a3 a4 a5 a6 a7 a8;clear e0 e1 e2 e3 e4 e5 e6 e7 e8 ok
  go_enter Tryz.func83,Tryz.ntmps83
  go_wp2_with fail
  rw [← hwA];clear hwA
  go_region_with (go_at_call 111;refine (CN _).mono ?_;rintro ee w2 ⟨rfl,hb2⟩;have hB2:Below wA.heap.size wA w2:=⟨hb2.os,hb2.tape,hb2.output,hb2.size,hb2.block⟩;obtain ⟨y0,y1,y2,y3,y4,y5,y6,y7,y8⟩:=box9 (HX.out.below hB2 HX.out.lt))
  all_goals
   go_wp2;go_ret;exact ⟨0,rfl,.inr ⟨rfl,HO.out⟩,HB.out.trans (hB2.mono HB.out.size)⟩
 ·have HO:=hid ok
  have hno:¬ (a0=zaz a0 1 4∧a1=zaz a1 0 2∧a2=zaz a2 1 3∧a3=zaz a3 0 2∧a4=zaz a4 1 6∧a5=zaz a5 1 6∧a6=zaz a6 1 4∧a7=zaz a7 1 6∧a8=zaz a8 0 400):=fun h=>ok (HK2.out.mpr h);have heq:=zhx a0 a1 a2 a3 a4 a5 a6 a7 a8 (zaz a0 1 4) (zaz a1 0 2) (zaz a2 1 3) (zaz a3 0 2) (zaz a4 1 6) (zaz a5 1 6) (zaz a6 1 4) (zaz a7 1 6) (zaz a8 0 400) hno;clear hno ok
  go_enter Tryz.func83,Tryz.ntmps83
  go_wp2_with fail
  rw [← hwA];clear hwA
  go_region_with (go_at_call 111;refine (CN _).mono ?_;rintro ee w2 ⟨rfl,hb2⟩;have hB2:Below wA.heap.size wA w2:=⟨hb2.os,hb2.tape,hb2.output,hb2.size,hb2.block⟩;obtain ⟨y0,y1,y2,y3,y4,y5,y6,y7,y8⟩:=box9 (HX.out.below hB2 HX.out.lt))
  all_goals
   go_wp2;go_ret;exact ⟨3,rfl,.inl ⟨rfl,HO.out⟩,HB.out.trans (hB2.mono HB.out.size)⟩
theorem zdG (s:Nat→Int) (h1:1≤s 2) (h2:s 2≤1000) (w:World) :
 Calls Tryz.prog 148 #[zaf s] w fun e w'=>e=.returned (.int .i64 (s 2*4))∧Below w.heap.size w w':=by
 unfold zaf;obtain ⟨a2,h0⟩:∃ a,a=s 2:=⟨_,rfl⟩;rw [← h0] at h1 h2 ⊢;clear h0;have B0:Below w.heap.size w (w.alloc (.cells #[.int .i64 (s 0),.int .i64 (s 1),.int .i64 a2,.int .i64 (s 3),.int .i64 (s 4),.int .i64 (s 5),.int .i64 (s 6),.int .i64 (s 7),.int .i64 (s 8)] 34)):=bnew (Below.refl _ _)
 go_enter Tryz.func148,Tryz.ntmps148
 go_wp2;go_ret;exact ⟨rfl,B0⟩
theorem zfE (s:Nat→Int) (l:Int) (w:World) :
 Calls Tryz.prog 147 #[zaf s,.int .i64 l] w fun e w'=>∃ x c,e=.returned (intR c x)∧zkN s l x c∧Below w.heap.size w w':=by
 unfold zaf
 go_enter Tryz.func147,Tryz.ntmps147
 go_wp2_with fail
 refine (zcw s _).mono ?_;rintro e w1 ⟨x,rfl,hx,B1'⟩;obtain ⟨X1,X2,B1,z1⟩:=zkM B1';obtain ⟨x0,x1,x2,x3,x4,x5,x6,x7,x8⟩:=box9 X1;obtain ⟨y0,y1,y2,y3⟩:=zbc X2;have HX:=hid X2;have HX1:=hid X1;clear B1' X1 X2
 rcases hx with ⟨rfl,hx⟩ | ⟨rfl,hx⟩
 ·have HN:=hid hx
  clear hx;go_wp2;exact bodyPost_ret (v:=intR 3 0) (by simp [results,Tryz.results147,go_sem,intR,y0,y1]) rfl ⟨0,3,rfl,.inl ⟨HN.out,rfl,rfl⟩,(B1.setCell (Nat.le_succ _) _).setCell (Nat.le_succ _) _⟩
 ·have HO:=hid hx
  have HD:Hid (1≤s 2∧s 2≤1000):=by show 1≤s 2∧s 2≤1000;have:=hx.2.1;unfold Shp at this;omega
  clear hx;have CL:=zdG s HD.out.1 HD.out.2;unfold zaf at CL;have HM:Hid (∀ m,m=(l+s 2*4-1)/(s 2*4)→1≤l→l≤3*(s 2*4)→zkN s l m 0):=fun m hm h1 h2=>.inr (.inr (.inr ⟨HO.out,h1,h2,rfl,hm⟩));have HM2:Hid (1≤l→3*(s 2*4)<l→zkN s l 0 2):=fun h1 h2=>.inr (.inr (.inl ⟨HO.out,h1,h2,rfl,rfl⟩));obtain ⟨S,hS⟩:∃ S,S=s 2*4:=⟨_,rfl⟩;rw [← hS] at CL HM HM2
  have q1:4≤S:=by have:=HD.out.1;omega
  have q2:S≤4000:=by have:=HD.out.2;omega
  clear hS
  by_cases c1:l<1
  ·go_wp2
   exact bodyPost_ret (v:=intR 6 0) (by simp [results,Tryz.results147,go_sem,intR,y0,y1]) rfl ⟨0,6,rfl,.inr (.inl ⟨HO.out,c1,rfl,rfl⟩),(B1.setCell (Nat.le_succ _) _).setCell (Nat.le_succ _) _⟩
  ·go_wp2_with fail
   refine (CL _).mono ?_;rintro e w2 ⟨rfl,B2⟩;have z2:=B2.size;have B12:Below w.heap.size w w2:=B1.trans (B2.mono B1.size);have HX2:Hid (Box w2 (w.heap.size+1) #[.int .i64 0,.int .i64 0] 167):=HX.out.below B2 z1;have HY2:Hid (Box w2 w.heap.size (rwS s).toArray 34):=HX1.out.below B2 (by omega);clear x0 x1 x2 x3 x4 x5 x6 x7 x8 y0 y1 y2 y3 B2 HX HX1;obtain ⟨y0,y1,y2,y3⟩:=zbc HX2.out;obtain ⟨x0,x1,x2,x3,x4,x5,x6,x7,x8⟩:=box9 HY2.out
   by_cases c2:3*S<l
   ·have t2:decide (3*S<l)=true:=by simp;omega
    go_wp2;exact bodyPost_ret (v:=intR 2 0) (by simp [results,Tryz.results147,go_sem,intR,y0,y1]) rfl ⟨0,2,rfl,HM2.out (by omega) c2,(B12.setCell (Nat.le_succ _) _).setCell (Nat.le_succ _) _⟩
   ·have t2:decide (3*S<l)=false:=by simp;omega
    have q3:0≤l+S-1:=by omega
    go_wp2_with fail
    have K0:Hid (Below w2.heap.size w2 w2):=Below.refl _ _
    go_region_with (go_at_call 148;refine (CL _).mono ?_;rintro ee w3 ⟨rfl,hb3⟩;(first | (have hB2:Below w2.heap.size w2 w3:=hB.trans ((⟨hb3.os,hb3.tape,hb3.output,hb3.size,hb3.block⟩:Below _ _ _).mono hB.size);clear hb3;obtain ⟨v0,v1,v2,v3⟩:=zbc (HX2.out.below hB2 (by omega));obtain ⟨u0,u1,u2,u3,u4,u5,u6,u7,u8⟩:=box9 (HY2.out.below hB2 (by omega))) | (have hB:Below w2.heap.size w2 w3:=⟨hb3.os,hb3.tape,hb3.output,hb3.size,hb3.block⟩;clear hb3;obtain ⟨u0,u1,u2,u3,u4,u5,u6,u7,u8⟩:=box9 (HY2.out.below hB (by omega)))))
    all_goals
     have B4:Below w.heap.size w w3:=B12.trans (hB2.mono B12.size);go_wp2;exact bodyPost_ret (v:=intR 0 ((l+S-1)/S)) (by simp [results,Tryz.results147,go_sem,intR,v0,v1]) rfl ⟨(l+S-1)/S,0,rfl,HM.out _ rfl (by omega) (by omega),(B4.setCell (Nat.le_succ _) _).setCell (Nat.le_succ _) _⟩
theorem zaK {x a b:Int} {t:Bool} (hab:a≤b) (ht:t=true↔InP x a b) (w:World) :
 Calls Tryz.prog 62 #[.int .i64 x,.int .i64 a,.int .i64 b] w fun e w'=>e=.returned (.bool t)∧w'=w:=by
 by_cases h1:a≤x
 ·by_cases h2:x≤b
  ·obtain rfl:t=true:=ht.2 ⟨h1,h2⟩
   clear ht hab
   go_enter Tryz.func62,Tryz.ntmps62
   go_wp2;go_ret;exact ⟨rfl,rfl⟩
  ·obtain rfl:t=false:=by
    cases t with
    | false=>rfl
    | true=>exact absurd (ht.1 rfl).2 h2
   clear ht hab;have hd:decide (x≤b)=false:=decide_eq_false h2
   go_enter Tryz.func62,Tryz.ntmps62
   go_wp2;go_ret;exact ⟨rfl,rfl⟩
 ·obtain rfl:t=false:=by
   cases t with
   | false=>rfl
   | true=>exact absurd (ht.1 rfl).1 h1
  clear ht hab;have hd:decide (a≤x)=false:=decide_eq_false h1
  go_enter Tryz.func62,Tryz.ntmps62
  go_wp2;go_ret;exact ⟨rfl,rfl⟩
theorem zbe (s:Nat→Int) (h:zak s) (w:World) :
 Calls Tryz.prog 90 #[zaf s] w fun e w'=>e=.returned (.int .i64 (s 0+s 1))∧Below w.heap.size w w':=by
 obtain ⟨h1,h2,_⟩:=h;unfold Shp3 at h1;have B0:=(zav w (rwS s).toArray 34).bel;unfold zaf
 have hw:-9223372036854775808≤s 0+s 1∧s 0+s 1≤9223372036854775807:=by omega
 go_enter Tryz.func90,Tryz.ntmps90
 go_wp2;go_ret;exact ⟨rfl,B0⟩
theorem zdd (s:Nat→Int) (h:zak s) (w:World) :
 Calls Tryz.prog 46 #[zaf s] w fun e w'=>e=.returned (.int .i64 (s 2+s 3))∧Below w.heap.size w w':=by
 obtain ⟨h1,h2,_⟩:=h;unfold Shp at h2;have B0:=(zav w (rwS s).toArray 34).bel;unfold zaf
 have hw:-9223372036854775808≤s 2+s 3∧s 2+s 3≤9223372036854775807:=by omega
 go_enter Tryz.func46,Tryz.ntmps46
 go_wp2;go_ret;exact ⟨rfl,B0⟩
theorem okB {s:Nat→Int} (h:zak s):1≤s 0∧s 0≤4∧0≤s 1∧s 1≤2∧1≤s 2∧s 2≤3∧0≤s 3∧s 3≤2∧1≤s 4∧s 4≤6∧1≤s 5∧s 5≤6:=by
 obtain ⟨h1,h2,h3,h4,_⟩:=h;unfold Shp3 at h1;unfold Shp at h2;omega
theorem zeM {s:Nat→Int} (h:zak s) {x:Int} {t:Bool} (ht:t=true↔InP x 0 (s 0+s 1-1)) (w:World) :
 Calls Tryz.prog 63 #[zaf s,.int .i64 x] w fun e w'=>e=.returned (.bool t)∧Below w.heap.size w w':=by
 have hb:=okB h;have C:=zbe s h;have CB:=fun w'=>zaK (w:=w') (show 0≤s 0+s 1-1 by omega) ht;have T0:=zav w (rwS s).toArray 34;unfold zaf at C ⊢;clear ht h
 go_enter Tryz.func63,Tryz.ntmps63
 go_wp2_with fail
 refine (C _).mono ?_;rintro e w1 ⟨rfl,b1⟩;have HB:Hid (Below w.heap.size w w1):=(T0.call b1).bel;clear b1 T0 C
 go_wp2_with fail
 refine (CB _).mono ?_;rintro e w2 ⟨rfl,hw2⟩;obtain rfl:=hw2.symm;go_wp2;go_ret;exact ⟨rfl,HB.out⟩
theorem zfF {s:Nat→Int} (h:zak s) {x:Int} {t:Bool} (ht:t=true↔InP x 0 (s 0-1)) (w:World) :
 Calls Tryz.prog 140 #[zaf s,.int .i64 x] w fun e w'=>e=.returned (.bool t)∧Below w.heap.size w w':=by
 have hb:=okB h;have CB:=fun w'=>zaK (w:=w') (show 0≤s 0-1 by omega) ht;have HB:Hid (Below w.heap.size w (w.alloc (.cells (rwS s).toArray 34))):=(zav w (rwS s).toArray 34).bel;unfold zaf;clear ht h
 go_enter Tryz.func140,Tryz.ntmps140
 go_wp2_with fail
 refine (CB _).mono ?_;rintro e w2 ⟨rfl,hw2⟩;obtain rfl:=hw2.symm;go_wp2;go_ret;exact ⟨rfl,HB.out⟩
theorem zhy {s:Nat→Int} (h:zak s) {x:Int} {t:Bool} (ht:t=true↔InP x 0 (s 4-1)) (w:World) :
 Calls Tryz.prog 44 #[zaf s,.int .i64 x] w fun e w'=>e=.returned (.bool t)∧Below w.heap.size w w':=by
 have hb:=okB h;have CB:=fun w'=>zaK (w:=w') (show 0≤s 4-1 by omega) ht;have HB:Hid (Below w.heap.size w (w.alloc (.cells (rwS s).toArray 34))):=(zav w (rwS s).toArray 34).bel;unfold zaf;clear ht h
 go_enter Tryz.func44,Tryz.ntmps44
 go_wp2_with fail
 refine (CB _).mono ?_;rintro e w2 ⟨rfl,hw2⟩;obtain rfl:=hw2.symm;go_wp2;go_ret;exact ⟨rfl,HB.out⟩
theorem zeN {s:Nat→Int} (h:zak s) {ao:Option Addr} {n cap:Nat} (hn:n≤9223372036854775807) {t:Bool} (ht:((n:Int)==s 2*4)=t) (w:World) :
 Calls Tryz.prog 141 #[zaf s,.slice ao n cap] w fun e w'=>e=.returned (.bool t)∧Below w.heap.size w w':=by
 have hb:=okB h;have C:=fun w'=>zdG s (by omega) (by omega) w';have T0:=zav w (rwS s).toArray 34;unfold zaf at C ⊢;clear h
 go_enter Tryz.func141,Tryz.ntmps141
 go_wp2_with fail
 refine (C _).mono ?_;rintro e w1 ⟨rfl,b1⟩;have HB:Hid (Below w.heap.size w w1):=(T0.call b1).bel;clear b1 T0 C;go_wp2;go_ret;exact ⟨by simp [ht],HB.out⟩
theorem zcF (
 v:Value) (n:Nat) (g:Nat→Int) (hi:Nat) (bound:Int) (hb1:1≤bound) (hb2:bound≤1000000) (w:World) (r:RdI w hi v n g) (hcp:CapP v n) (hhi:hi≤w.heap.size) :
 Calls Tryz.prog 113 #[v,.int .i64 bound] w (zbd (zbN n g (bound-1)) w):=by
 have HR:=hid r;obtain ⟨ao,cap,rfl,hm,hc⟩:=r;obtain ⟨_,_,e,hcp⟩:=hcp
 cases e
 unfold maxLen at hm
 go_enter Tryz.func113,Tryz.ntmps113
 go_wp2
 go_loopw [9] (fun i wr=>∃ k:Nat,k≤n∧i=.int .i64 k∧zbN k g (bound-1)∧Below w.heap.size w wr) (fun i _=>n-(intOf i).toNat)
 case atStart=>exact ⟨0,Nat.zero_le _,rfl,fun i hi=>by omega,Below.refl _ _⟩
 case round=>
  obtain ⟨k,hk,rfl,hall,hb⟩:=hrel;have HALL:=hid hall;clear hall
  by_cases hlt:k<n
  ·obtain ⟨b,off,rfl,hblt,hcell⟩:=hc (by omega)
   have hck:wr.cell? ⟨b,off+k,none⟩=some (.int .i64 (g k)):=(hb.cell (p:=⟨b,off+k,none⟩) (by show b<w.heap.size;omega)).trans (hcell k hlt)
   have kcp:k≤cap:=by omega
   obtain ⟨t1,h1⟩:=exB (InP (g k) 0 (bound-1));obtain ⟨t2,h2⟩:=exB (∃ t,t<k∧g t=g k);have C1:=fun w'=>zaK (w:=w') (show 0≤bound-1 by omega) h1;have C2:=zbx (zcZ (.slice (some ⟨b,off,none⟩) k cap) k g hi (g k) wr ((HR.out.part hk (by omega)).below hb hhi)) h2;have H1:=hid h1;have H2:=hid h2;obtain ⟨y,hy⟩:∃ y,y=g k:=⟨_,rfl⟩;have HY:=hid hy;rw [← hy] at hck C1 C2;have HB:=hid hb;clear hc hcell h1 h2 hy hb
   go_wp2_with fail
   refine (C1 _).mono ?_;rintro e w' ⟨rfl,hw'⟩;obtain rfl:=hw'.symm;clear C1
   cases t1 with
   | false=>
    go_wp2;go_ret
    exact zam rfl (fun h=>by
     have:=H1.out.2 (h k hlt).1
     simp at this) HB.out
   | true=>
    go_wp2_with fail
    refine C2.mono ?_;rintro e w2 ⟨rfl,b2⟩;have HB2:=hid (HB.out.trans (b2.mono HB.out.size));clear b2 C2
    cases t2 with
    | true=>
     go_wp2;go_ret
     exact zam rfl (fun h=>by
      obtain ⟨t,ht,e⟩:=H2.out.1 (by simp)
      exact (h k hlt).2 t ht e) HB2.out
    | false=>
     go_wp2
     go_roundw
     case rel=>exact ⟨k+1,by omega,by go_num,fun i hi=>by
      by_cases c:i=k
      ·subst c
       exact ⟨H1.out.1 (by simp),fun t ht e=>by
        have:=H2.out.2 ⟨t,ht,e⟩
        simp at this⟩
      ·exact HALL.out i (by omega),HB2.out⟩
     case measure=>simp [intOf];omega
  ·obtain rfl:k=n:=by omega
   go_wp2;go_ret;exact zau rfl HALL.out hb
theorem zgB (w:World) (ty:TypeId) (lo hi:Nat) (v:Value) (n:Nat) (f:Nat→Nat) (hown:Own w lo hi v n f) (b c:Nat) (hcell:w.cell? ⟨b,0,none⟩=some (.int .u8 (f n))) (hn:n+1≤1000000) (hlo:lo≤w.heap.size) :
 ∃ v' w',(Builtin.append_ #[30,30] ty #[v,.slice (some ⟨b,0,none⟩) 1 c]).run Tryz.prog w=.ok v' w'∧Own w' lo w'.heap.size v' (n+1) f∧w.grownBy w' v.ownBlock∧(v'.ownBlock=v.ownBlock∨v'.ownBlock=some w.heap.size):=by
 obtain ⟨i0,hi0,hz0,hz1,hz2⟩:=info_parts zdN
 obtain ⟨v',w',hr,h2,h3,_,h4⟩:=run_append_own_at (P:=Tryz.prog) w lo 30 ty 5 i0 (.int .u8 0) 1 1 Tryz.underlying30 hi0 hz0 hz1 hz2 rfl (by decide) v n (cellsOf n f) hown.1 ⟨b,0,none⟩ 1 c [.int .u8 (f n)] rfl
  (fun j u hj=>by
   match j,hj with
   | 0,hj=>simp at hj;subst hj;simpa [Addr.add] using hcell)
  (fun u hu=>by simp at hu;subst hu;rfl) (by unfold maxLen;omega) (by omega) hlo
 rw [zd3] at h2;exact ⟨v',w',hr,⟨h2,fun k hk=>(h2.lt k hk).2⟩,h3,h4⟩
theorem zfG {ops:Array Oper} {o:Oper} {a:Act} {w:World} {K:Act→World→Prop} {Q:Exit→Act→World→Prop} {E:Prop}
 (hg:o.guard=none) (s x:Operand) (hop:o.op=Op.call { callee:=Callee.builtin Builtin.append,args:=#[s,x],argTypes:=#[30,30] })
 (lo hi:Nat) (v:Value) (n:Nat) (f:Nat→Nat) (hs:a.eval s=v) (hown:Own w lo hi v n f) (b c:Nat) (hx:a.eval x=.slice (some ⟨b,0,none⟩) 1 c) (hcell:w.cell? ⟨b,0,none⟩=some (.int .u8 (f n)))
 (hn:n+1≤1000000) (hlo:lo≤w.heap.size)
 (hK:∀ v' w',Own w' lo w'.heap.size v' (n+1) f→w.grownBy w' v.ownBlock→(v'.ownBlock=v.ownBlock∨v'.ownBlock=some w.heap.size)→K (a.put o.dst v') w') :
 if Region.wanted o (yielded ops a.tmps)=true then Oper.wp Tryz.prog o a w K Q else E:=by
 have hw:Region.wanted o (yielded ops a.tmps)=true:=by simp [Region.wanted,hg]
 rw [if_pos hw];obtain ⟨v',w',hrun,r1,r2,r3⟩:=zgB w o.type lo hi v n f hown b c hcell hn hlo;unfold Oper.wp
 simp [execOp,hop,resolve,invoke,builtin,hs,hx,hrun,Result.andThen]
 exact hK v' w' r1 r2 r3
theorem OwnE.grow {w w2:World} {lo:Nat} {v:Value} {R:Nat} {n n':Nat→Nat} {M:Mat} {g cap:Nat} {e:Nat→Value} {x:Value} {o:Obj} (h:OwnE w lo w.heap.size v R n M g cap e) (i:Nat) (hi':i<R)
 (hg:(w.alloc o).grownBy w2 (e i).ownBlock) (ho:Own w2 lo w2.heap.size x (n' i) (M i)) (hx:x.ownBlock=(e i).ownBlock∨x.ownBlock=some (w.heap.size+1)) (hn:∀ j,j<R→j≠i→n' j=n j) :
 OwnE (w2.setCell ⟨g,i,none⟩ x) lo w2.heap.size v R n' M g cap (fun j=>if j=i then x else e j):=by
 have hs:w.heap.size+1≤w2.heap.size:=by have:=hg.size;simpa using this
 have hhi:=h.high
 have kp:∀ b,b<w.heap.size→(e i).ownBlock≠some b→w2.heap[b]?=w.heap[b]?:=fun b hb hne=>
  (hg.block b (by simp;omega) (fun hh=>hne hh.symm)).trans (Below.heap_alloc w o b hb)
 have hr:=zbE (w':=w2) h.row fun b hb=>by
  have e1:b=g:=by rw [h.val] at hb;simpa [Value.ownBlock] using hb.symm
  subst e1;exact kp b hhi (h.apart.1 i hi')
 rw [h.val] at hr;have hst:=(hr.stored i x).1;rw [zbA R e (fun j=>if j=i then x else e j) i x hi' (fun j _=>rfl)] at hst;have oth:∀ b,b≠g→(w2.setCell ⟨g,i,none⟩ x).heap[b]?=w2.heap[b]?:=fun b hbg=>heap_setCell_other w2 ⟨g,i,none⟩ b _ hbg;have low:∀ q,q<R→∀ k,(e q).ownBlock=some k→k<w.heap.size:=fun q hq k hk=>(h.each q hq).2 k hk
 have xng:x.ownBlock≠some g:=fun hh=>by
  rcases hx with hx | hx
  ·rw [hx] at hh
   exact h.apart.1 i hi' hh
  ·rw [hx] at hh
   cases hh
   omega
 refine ⟨h.val,h.low,by omega,by rw [h.val];exact hst,fun j hj=>?_,⟨fun j hj=>?_,fun j l hj hl hne k hk=>?_⟩⟩
 ·by_cases c:j=i
  ·subst c
   simp only [if_pos]
   exact ho.kept fun k hk=>oth k fun hkg=>xng (by rw [hk,hkg])
  ·simp only [if_neg c]
   rw [hn j hj c];refine ((h.each j hj).kept fun k hk=>?_).weaken (Nat.le_refl _) (by omega);exact (oth k fun hkg=>h.apart.1 j hj (by rw [hk,hkg])).trans (kp k (low j hj k hk) fun hh=>h.apart.2 i j hi' hj (fun z=>c z.symm) k hh hk)
 ·by_cases c:j=i
  ·simp only [if_pos c]
   exact xng
  ·simp only [if_neg c]
   exact h.apart.1 j hj
 ·by_cases c:j=i
  ·have c2:¬ l=i:=fun z=>hne (by rw [c,z])
   simp only [if_pos c] at hk
   simp only [if_neg c2]
   intro hh
   rcases hx with hx | hx
   ·rw [hx] at hk
    exact h.apart.2 i l hi' hl (fun z=>c2 z.symm) k hk hh
   ·rw [hx] at hk
    cases hk
    have:=low l hl _ hh;omega
  ·simp only [if_neg c] at hk
   by_cases c2:l=i
   ·simp only [if_pos c2]
    intro hh
    rcases hx with hx | hx
    ·rw [hx] at hh
     exact h.apart.2 i j hi' hj (fun z=>c z.symm) k hh hk
    ·rw [hx] at hh
     cases hh
     have:=low j hj _ hk;omega
   ·simp only [if_neg c2]
    exact h.apart.2 j l hj hl hne k hk
end Go.Proofs.YtoeldpfeadeilaaGreat
