/- Walk of the specification's RecFault. -/
import Derived.Deep.Cut
import Derived.Laws.Tables
import Derived.Laws.Rows
import Derived.StillTailTactics
import Derived.Lib.MinMax
import Derived.Laws.StructEq
import Derived.Test.YtkmglpaaeogapaaGreatZPwipedae
set_option linter.unusedVariables false
set_option linter.unusedSimpArgs false
set_option maxHeartbeats 16000000
namespace Go.Proofs.YtkmglpaaeogapaaGreat
open Go.RowKit F256
def zdD (s:Nat→Int) (r:RecD) (w:World) (e:Ending) (w':World):Prop:=∃ x,e=.returned (.int .i64 x)∧RecAns s r x∧Below w.heap.size w w'
theorem recP {s:Nat→Int} {r:RecD} {w:World} {e:Ending} {w':World} {x:Int} (he:e=.returned (.int .i64 x)) (h:RecAns s r x) (hb:Below w.heap.size w w'):zdD s r w e w':=⟨x,he,h,hb⟩
theorem exBT {P:Prop} (h:P):true=true↔P:=⟨fun _=>h,fun _=>rfl⟩
theorem exBF {P:Prop} (h:¬ P):false=true↔P:=⟨fun h=>(by cases h),fun hh=>absurd hh h⟩
set_option maxRecDepth 20000 in
theorem zeW (s:Nat→Int) (r:RecD) (cs:List Value) (hi:Nat) (w:World) (h:zab.rd w hi r cs) (hhi:hi≤w.heap.size) (hnm:r.name.size≤1048576) :
 Calls Tryz.prog 50 #[zac s,.agg cs.toArray] w (zdD s r w):=by
 obtain ⟨kind,seq,name,length,group,row,rows,data,delta⟩:=r;obtain ⟨ao6,cap6,ao7,cap7,ao8,cap8,rfl,g6,g7,g8,k0,k1,k2,k3,k4,k5⟩:=zbi h;have HRD:=hid h;obtain ⟨v6,e6,⟨h6,hcp6⟩,_⟩:=g6
 cases e6
 have H6:=hid h6;have hm6:rows.1≤maxLen:=h6.mx;obtain ⟨v7,e7,⟨_,_,e7',hm7,_⟩,_⟩:=g7
 cases e7
 cases e7'
 obtain ⟨v8,e8,⟨_,_,e8',hm8,_⟩,_⟩:=g8
 cases e8
 cases e8'
 unfold maxLen at hm6 hm7 hm8
 simp only at k0 k1 k2 k3 k4 k5 hm6 hm7 hm8 hnm
 clear h h6 hcp6;have T0:=zaC w (rwS s).toArray #[.int .i64 kind,.int .i64 seq,.string name,.int .i64 length,.int .i64 group,.int .i64 row,.slice ao6 rows.1 cap6,.slice ao7 data.1 cap7,.slice ao8 delta.1 cap8] 33 95;have CSh:=fun w'=>zaR s w';unfold zac at CSh ⊢
 go_enter Tryz.func50,Tryz.ntmps50
 go_wp2_with fail
 refine (CSh _).mono ?_;rintro e w1 ⟨x,rfl,hx,b1⟩;have T1:Two w w1 (rwS s).toArray #[.int .i64 kind,.int .i64 seq,.string name,.int .i64 length,.int .i64 group,.int .i64 row,.slice ao6 rows.1 cap6,.slice ao7 data.1 cap7,.slice ao8 delta.1 cap8] 33 95:=T0.call b1;have HT1:=hid T1;have z1:w.heap.size+1<w1.heap.size:=T1.b2.lt;clear b1 T0 CSh;have x1_0:w1.cell? ⟨w.heap.size,0,none⟩=some (.int .i64 (s 0)):=T1.b1.cell 0;have x1_1:w1.cell? ⟨w.heap.size,1,none⟩=some (.int .i64 (s 1)):=T1.b1.cell 1;have x1_2:w1.cell? ⟨w.heap.size,2,none⟩=some (.int .i64 (s 2)):=T1.b1.cell 2;have x1_3:w1.cell? ⟨w.heap.size,3,none⟩=some (.int .i64 (s 3)):=T1.b1.cell 3;have x1_4:w1.cell? ⟨w.heap.size,4,none⟩=some (.int .i64 (s 4)):=T1.b1.cell 4;have x1_5:w1.cell? ⟨w.heap.size,5,none⟩=some (.int .i64 (s 5)):=T1.b1.cell 5;have x1_6:w1.cell? ⟨w.heap.size,6,none⟩=some (.int .i64 (s 6)):=T1.b1.cell 6;have x1_7:w1.cell? ⟨w.heap.size,7,none⟩=some (.int .i64 (s 7)):=T1.b1.cell 7;have x1_8:w1.cell? ⟨w.heap.size,8,none⟩=some (.int .i64 (s 8)):=T1.b1.cell 8;have y1_0:w1.cell? ⟨w.heap.size+1,0,none⟩=some (.int .i64 kind):=T1.b2.cell 0;have y1_1:w1.cell? ⟨w.heap.size+1,1,none⟩=some (.int .i64 seq):=T1.b2.cell 1;have y1_2:w1.cell? ⟨w.heap.size+1,2,none⟩=some (.string name):=T1.b2.cell 2;have y1_3:w1.cell? ⟨w.heap.size+1,3,none⟩=some (.int .i64 length):=T1.b2.cell 3;have y1_4:w1.cell? ⟨w.heap.size+1,4,none⟩=some (.int .i64 group):=T1.b2.cell 4;have y1_5:w1.cell? ⟨w.heap.size+1,5,none⟩=some (.int .i64 row):=T1.b2.cell 5;have y1_6:w1.cell? ⟨w.heap.size+1,6,none⟩=some (.slice ao6 rows.1 cap6):=T1.b2.cell 6;have y1_7:w1.cell? ⟨w.heap.size+1,7,none⟩=some (.slice ao7 data.1 cap7):=T1.b2.cell 7;have y1_8:w1.cell? ⟨w.heap.size+1,8,none⟩=some (.slice ao8 delta.1 cap8):=T1.b2.cell 8;clear T1
 rcases hx with ⟨rfl,hno⟩ | ⟨rfl,hok⟩
 ·go_wp2
  go_ret;exact recP rfl (Stair.fall hno) HT1.out.bel
 have HOK:=hid hok
 have hsb:1≤s 0∧s 0≤4∧0≤s 1∧s 1≤2∧1≤s 2∧s 2≤3∧1≤s 4∧s 4≤6:=by
  obtain ⟨h1,h2,h3,_⟩:=hok;unfold Shp3 at h1;unfold Shp at h2;omega
 clear hok
 by_cases hk:InP kind 1 4
 ·go_wp2_with fail
  refine (zbl (t:=true) (exBT hk) _).mono ?_;rintro e w' ⟨rfl,hw'⟩;obtain rfl:=hw'.symm
  by_cases hq:InP seq 1 1000000000
  ·go_wp2_with fail
   refine (zbl (t:=true) (exBT hq) _).mono ?_;rintro e w' ⟨rfl,hw'⟩;obtain rfl:=hw'.symm;have HK:=hid hk;have HQ:=hid hq
   go_upto_region 9 with fail
   have bA:=bAl w1 (.cells #[.int .i64 kind,.int .i64 seq,.string name,.int .i64 length,.int .i64 group,.int .i64 row,.slice ao6 rows.1 cap6,.slice ao7 data.1 cap7,.slice ao8 delta.1 cap8] 95);have T2:Two w (w1.alloc (.cells #[.int .i64 kind,.int .i64 seq,.string name,.int .i64 length,.int .i64 group,.int .i64 row,.slice ao6 rows.1 cap6,.slice ao7 data.1 cap7,.slice ao8 delta.1 cap8] 95)) (rwS s).toArray #[.int .i64 kind,.int .i64 seq,.string name,.int .i64 length,.int .i64 group,.int .i64 row,.slice ao6 rows.1 cap6,.slice ao7 data.1 cap7,.slice ao8 delta.1 cap8] 33 95:=HT1.out.call bA;have X2:=zax w1 #[.int .i64 kind,.int .i64 seq,.string name,.int .i64 length,.int .i64 group,.int .i64 row,.slice ao6 rows.1 cap6,.slice ao7 data.1 cap7,.slice ao8 delta.1 cap8] 95;obtain ⟨W2,hW2⟩:∃ W2,W2=w1.alloc (.cells #[.int .i64 kind,.int .i64 seq,.string name,.int .i64 length,.int .i64 group,.int .i64 row,.slice ao6 rows.1 cap6,.slice ao7 data.1 cap7,.slice ao8 delta.1 cap8] 95):=⟨_,rfl⟩;rw [← hW2] at T2 X2 ⊢;have HT2:=hid T2;have HX2:=hid X2;clear bA hW2 x1_0 y1_0 x1_1 y1_1 x1_2 y1_2 x1_3 y1_3 x1_4 y1_4 x1_5 y1_5 x1_6 y1_6 x1_7 y1_7 x1_8 y1_8;have x2_0:W2.cell? ⟨w.heap.size,0,none⟩=some (.int .i64 (s 0)):=T2.b1.cell 0;have kx2_0:=cell_regrown x2_0;have x2_1:W2.cell? ⟨w.heap.size,1,none⟩=some (.int .i64 (s 1)):=T2.b1.cell 1;have kx2_1:=cell_regrown x2_1;have x2_2:W2.cell? ⟨w.heap.size,2,none⟩=some (.int .i64 (s 2)):=T2.b1.cell 2;have kx2_2:=cell_regrown x2_2;have x2_3:W2.cell? ⟨w.heap.size,3,none⟩=some (.int .i64 (s 3)):=T2.b1.cell 3;have kx2_3:=cell_regrown x2_3;have x2_4:W2.cell? ⟨w.heap.size,4,none⟩=some (.int .i64 (s 4)):=T2.b1.cell 4;have kx2_4:=cell_regrown x2_4;have x2_5:W2.cell? ⟨w.heap.size,5,none⟩=some (.int .i64 (s 5)):=T2.b1.cell 5;have kx2_5:=cell_regrown x2_5;have x2_6:W2.cell? ⟨w.heap.size,6,none⟩=some (.int .i64 (s 6)):=T2.b1.cell 6;have kx2_6:=cell_regrown x2_6;have x2_7:W2.cell? ⟨w.heap.size,7,none⟩=some (.int .i64 (s 7)):=T2.b1.cell 7
   have kx2_7:=cell_regrown x2_7;have x2_8:W2.cell? ⟨w.heap.size,8,none⟩=some (.int .i64 (s 8)):=T2.b1.cell 8;have kx2_8:=cell_regrown x2_8;have y2_0:W2.cell? ⟨w.heap.size+1,0,none⟩=some (.int .i64 kind):=T2.b2.cell 0;have ky2_0:=cell_regrown y2_0;have y2_1:W2.cell? ⟨w.heap.size+1,1,none⟩=some (.int .i64 seq):=T2.b2.cell 1;have ky2_1:=cell_regrown y2_1;have y2_2:W2.cell? ⟨w.heap.size+1,2,none⟩=some (.string name):=T2.b2.cell 2;have ky2_2:=cell_regrown y2_2;have y2_3:W2.cell? ⟨w.heap.size+1,3,none⟩=some (.int .i64 length):=T2.b2.cell 3;have ky2_3:=cell_regrown y2_3;have y2_4:W2.cell? ⟨w.heap.size+1,4,none⟩=some (.int .i64 group):=T2.b2.cell 4;have ky2_4:=cell_regrown y2_4;have y2_5:W2.cell? ⟨w.heap.size+1,5,none⟩=some (.int .i64 row):=T2.b2.cell 5;have ky2_5:=cell_regrown y2_5;have y2_6:W2.cell? ⟨w.heap.size+1,6,none⟩=some (.slice ao6 rows.1 cap6):=T2.b2.cell 6;have ky2_6:=cell_regrown y2_6;have y2_7:W2.cell? ⟨w.heap.size+1,7,none⟩=some (.slice ao7 data.1 cap7):=T2.b2.cell 7;have ky2_7:=cell_regrown y2_7;have y2_8:W2.cell? ⟨w.heap.size+1,8,none⟩=some (.slice ao8 delta.1 cap8):=T2.b2.cell 8;have ky2_8:=cell_regrown y2_8;have z2_0:W2.cell? ⟨w1.heap.size,0,none⟩=some (.int .i64 kind):=X2.cell 0;have f2_0:W2.frozen? ⟨w1.heap.size,0,none⟩=false:=X2.frozen 0;have z2_1:W2.cell? ⟨w1.heap.size,1,none⟩=some (.int .i64 seq):=X2.cell 1;have f2_1:W2.frozen? ⟨w1.heap.size,1,none⟩=false:=X2.frozen 1;have z2_2:W2.cell? ⟨w1.heap.size,2,none⟩=some (.string name):=X2.cell 2;have f2_2:W2.frozen? ⟨w1.heap.size,2,none⟩=false:=X2.frozen 2;have z2_3:W2.cell? ⟨w1.heap.size,3,none⟩=some (.int .i64 length):=X2.cell 3;have f2_3:W2.frozen? ⟨w1.heap.size,3,none⟩=false:=X2.frozen 3;have z2_4:W2.cell? ⟨w1.heap.size,4,none⟩=some (.int .i64 group):=X2.cell 4;have f2_4:W2.frozen? ⟨w1.heap.size,4,none⟩=false:=X2.frozen 4;have z2_5:W2.cell? ⟨w1.heap.size,5,none⟩=some (.int .i64 row):=X2.cell 5;have f2_5:W2.frozen? ⟨w1.heap.size,5,none⟩=false:=X2.frozen 5;have z2_6:W2.cell? ⟨w1.heap.size,6,none⟩=some (.slice ao6 rows.1 cap6):=X2.cell 6;have f2_6:W2.frozen? ⟨w1.heap.size,6,none⟩=false:=X2.frozen 6;have z2_7:W2.cell? ⟨w1.heap.size,7,none⟩=some (.slice ao7 data.1 cap7):=X2.cell 7;have f2_7:W2.frozen? ⟨w1.heap.size,7,none⟩=false:=X2.frozen 7;have z2_8:W2.cell? ⟨w1.heap.size,8,none⟩=some (.slice ao8 delta.1 cap8):=X2.cell 8;have f2_8:W2.frozen? ⟨w1.heap.size,8,none⟩=false:=X2.frozen 8;clear T2 X2
   have hk4:kind=1∨kind=2∨kind=3∨kind=4:=by unfold InP at hk;omega
   have ws0:IntKind.i64.wrap (s 0-1)=s 0-1:=by rw [IntKind.wrap_i64];omega
   have ws4:IntKind.i64.wrap (s 4-1)=s 4-1:=by rw [IntKind.wrap_i64];omega
   have wsA:IntKind.i64.wrap (s 0+s 1-1)=s 0+s 1-1:=by rw [IntKind.wrap_i64];omega
   clear hk hq
   rcases hk4 with rfl | rfl | rfl | rfl
   ·go_wp2_with fail
    refine (zej name hnm _).mono ?_;rintro e w' ⟨x,rfl,hx,hw'⟩;obtain rfl:=hw'.symm
    rcases hx with ⟨rfl,hno⟩ | ⟨rfl,hyes⟩
    ·go_wp2
     go_ret;exact recP rfl (Stair.pass HOK.out (Stair.pass HK.out (Stair.pass HQ.out (Stair.fall (fun h=>hno (h rfl)))))) HT2.out.bel
    ·have HN:Hid (zcB ⟨1,seq,name,length,group,row,rows,data,delta⟩):=fun _=>hyes
     clear hyes;obtain ⟨t3,h3⟩:=exB (za2 s ⟨1,seq,name,length,group,row,rows,data,delta⟩);have CI:=za9 (zfQ s HOK.out ⟨1,seq,name,length,group,row,rows,data,delta⟩ _ hi W2 (zab.rd_below HRD.out HT2.out.bel hhi) (Nat.le_trans hhi HT2.out.bel.size)) h3;unfold zac at CI
     go_wp2_with fail
     refine CI.mono ?_;rintro e w3 ⟨rfl,b3⟩;have X3:Box w3 w1.heap.size #[.int .i64 1,.int .i64 seq,.string name,.int .i64 length,.int .i64 group,.int .i64 row,.slice ao6 rows.1 cap6,.slice ao7 data.1 cap7,.slice ao8 delta.1 cap8] 95:=HX2.out.call b3;have HB3:Hid (Below w.heap.size w w3):=(HT2.out.call b3).bel;have z3_0:w3.cell? ⟨w1.heap.size,0,none⟩=some (.int .i64 1):=X3.cell 0;have f3_0:w3.frozen? ⟨w1.heap.size,0,none⟩=false:=X3.frozen 0;have z3_1:w3.cell? ⟨w1.heap.size,1,none⟩=some (.int .i64 seq):=X3.cell 1;have f3_1:w3.frozen? ⟨w1.heap.size,1,none⟩=false:=X3.frozen 1;have z3_2:w3.cell? ⟨w1.heap.size,2,none⟩=some (.string name):=X3.cell 2;have f3_2:w3.frozen? ⟨w1.heap.size,2,none⟩=false:=X3.frozen 2;have z3_3:w3.cell? ⟨w1.heap.size,3,none⟩=some (.int .i64 length):=X3.cell 3;have f3_3:w3.frozen? ⟨w1.heap.size,3,none⟩=false:=X3.frozen 3;have z3_4:w3.cell? ⟨w1.heap.size,4,none⟩=some (.int .i64 group):=X3.cell 4;have f3_4:w3.frozen? ⟨w1.heap.size,4,none⟩=false:=X3.frozen 4;have z3_5:w3.cell? ⟨w1.heap.size,5,none⟩=some (.int .i64 row):=X3.cell 5;have f3_5:w3.frozen? ⟨w1.heap.size,5,none⟩=false:=X3.frozen 5;have z3_6:w3.cell? ⟨w1.heap.size,6,none⟩=some (.slice ao6 rows.1 cap6):=X3.cell 6;have f3_6:w3.frozen? ⟨w1.heap.size,6,none⟩=false:=X3.frozen 6;have z3_7:w3.cell? ⟨w1.heap.size,7,none⟩=some (.slice ao7 data.1 cap7):=X3.cell 7;have f3_7:w3.frozen? ⟨w1.heap.size,7,none⟩=false:=X3.frozen 7;have z3_8:w3.cell? ⟨w1.heap.size,8,none⟩=some (.slice ao8 delta.1 cap8):=X3.cell 8;have f3_8:w3.frozen? ⟨w1.heap.size,8,none⟩=false:=X3.frozen 8;clear X3 b3;clear x2_0 kx2_0 y2_0 ky2_0 z2_0 f2_0 x2_1 kx2_1 y2_1 ky2_1 z2_1 f2_1 x2_2 kx2_2 y2_2 ky2_2 z2_2 f2_2 x2_3 kx2_3 y2_3 ky2_3 z2_3 f2_3 x2_4 kx2_4 y2_4 ky2_4 z2_4 f2_4 x2_5 kx2_5 y2_5 ky2_5 z2_5 f2_5 x2_6 kx2_6 y2_6 ky2_6 z2_6 f2_6 x2_7 kx2_7 y2_7 ky2_7 z2_7 f2_7 x2_8 kx2_8 y2_8 ky2_8 z2_8 f2_8 CI;have H3:=hid h3;clear h3
     cases t3 with
     | false=>
      go_wp2;go_ret
      exact recP rfl (Stair.pass HOK.out (Stair.pass HK.out (Stair.pass HQ.out (Stair.pass HN.out (Stair.fall (fun h=>by
       have:za2 s ⟨1,seq,name,length,group,row,rows,data,delta⟩:=by
        unfold zaK at h
        simpa using h
       have:=H3.out.2 this
       simp at this)))))) HB3.out
     | true=>
      have HKP:Hid (zaK s ⟨1,seq,name,length,group,row,rows,data,delta⟩):=.inl ⟨rfl,H3.out.1 (by simp)⟩
      go_wp2_with fail
      refine (zbM _ _ _ _ _ _ _ _ _ _ _ _ _ _ _ _).mono ?_;rintro e w9 ⟨t9,rfl,ht9,b9⟩
      have HB9:Hid (Below w.heap.size w w9):=by
       show Below w.heap.size w w9
       refine Below.trans ?_ (b9.mono ?_)
       ·repeat (refine zcy ?_ (by omega))
        exact HB3.out
       ·simp
        exact HB3.out.size
      clear b9
      have HT9:Hid (t9=true↔zaI ⟨1,seq,name,length,group,row,rows,data,delta⟩):=by
       show t9=true↔zaI ⟨1,seq,name,length,group,row,rows,data,delta⟩
       rw [ht9];unfold zbD zaI zb4
       simp [and_assoc]
       try (intros;rfl)
      clear ht9
      cases t9 with
      | false=>
       go_wp2;go_ret;exact recP rfl (Stair.pass HOK.out (Stair.pass HK.out (Stair.pass HQ.out (Stair.pass HN.out (Stair.pass HKP.out (Stair.fall (fun h=>by have:=HT9.out.2 h;simp at this))))))) HB9.out
      | true=>
       go_wp2;go_ret;exact recP rfl (Stair.pass HOK.out (Stair.pass HK.out (Stair.pass HQ.out (Stair.pass HN.out (Stair.pass HKP.out (Stair.pass (HT9.out.1 (by simp)) (Stair.last rfl))))))) HB9.out
   ·have HN:Hid (zcB ⟨2,seq,name,length,group,row,rows,data,delta⟩):=fun h=>by simp at h
    obtain ⟨t1,h1⟩:=exB (InP group 0 (s 0-1));obtain ⟨t2,h2⟩:=exB (InP row 0 (s 4-1));obtain ⟨b3',h3⟩:∃ b,((data.1:Int) != s 2*4)=b:=⟨_,rfl⟩;obtain ⟨b4',h4⟩:∃ b,((delta.1:Int) != s 2*4)=b:=⟨_,rfl⟩;have cG:=zdp (W:=W2) (fun w'=>zbl h1 w');have cR:=zdp (W:=W2) (fun w'=>zbl h2 w');have cW:=zap (W:=W2) (fun w' _=>zce s (by omega) (by omega) w');unfold zac at cW
    have HE:Hid (zaK s ⟨2,seq,name,length,group,row,rows,data,delta⟩↔(t1=true∧t2=true∧b3'=false∧b4'=false)):=by
     show zaK s ⟨2,seq,name,length,group,row,rows,data,delta⟩↔_
     rw [h1,h2,← h3,← h4];unfold zaK zg3
     simp
    have hst:(t1=false)∨(t1=true∧t2=false)∨(t1=true∧t2=true∧b3'=true)∨(t1=true∧t2=true∧b3'=false∧b4'=true)∨(t1=true∧t2=true∧b3'=false∧b4'=false):=by
     clear HE h1 h2 h3 h4 cG cR
     cases t1<;>simp
     cases t2<;>simp
     cases b3'<;>simp
    clear h1 h2;go_wp2
    rcases hst with rfl | ⟨rfl,rfl⟩ | ⟨rfl,rfl,rfl⟩ | ⟨rfl,rfl,rfl,rfl⟩ | ⟨rfl,rfl,rfl,rfl⟩
    all_goals
     refine WQ.region (by kernel_rfl) (by kernel_rfl) ?_
     repeat (first | (apply WQ.skip;(case hw=>rfl);intro K hK;go_simp;apply hK;clear hK K) | (apply WQ.want;(case hw=>rfl);intro K hK;go_simp;first | (apply hK;clear hK K) | (apply Exists.intro;apply And.intro;(case left=>intro p;(first | (go_at_call_of 51 (Value.int .i64 group);exact cG _ _) | (go_at_call_of 51 (Value.int .i64 row);exact cR _ _) | (go_at_call 76;exact cW _ _)));apply hK;clear hK K)))
     refine WQ.nil ?_;intro w3 hw3;have b3:=zaw hw3;have X3:Box w3 w1.heap.size #[.int .i64 2,.int .i64 seq,.string name,.int .i64 length,.int .i64 group,.int .i64 row,.slice ao6 rows.1 cap6,.slice ao7 data.1 cap7,.slice ao8 delta.1 cap8] 95:=HX2.out.call b3;have HB3:Hid (Below w.heap.size w w3):=(HT2.out.call b3).bel;have z3_0:w3.cell? ⟨w1.heap.size,0,none⟩=some (.int .i64 2):=X3.cell 0;have f3_0:w3.frozen? ⟨w1.heap.size,0,none⟩=false:=X3.frozen 0;have z3_1:w3.cell? ⟨w1.heap.size,1,none⟩=some (.int .i64 seq):=X3.cell 1;have f3_1:w3.frozen? ⟨w1.heap.size,1,none⟩=false:=X3.frozen 1;have z3_2:w3.cell? ⟨w1.heap.size,2,none⟩=some (.string name):=X3.cell 2;have f3_2:w3.frozen? ⟨w1.heap.size,2,none⟩=false:=X3.frozen 2;have z3_3:w3.cell? ⟨w1.heap.size,3,none⟩=some (.int .i64 length):=X3.cell 3;have f3_3:w3.frozen? ⟨w1.heap.size,3,none⟩=false:=X3.frozen 3;have z3_4:w3.cell? ⟨w1.heap.size,4,none⟩=some (.int .i64 group):=X3.cell 4;have f3_4:w3.frozen? ⟨w1.heap.size,4,none⟩=false:=X3.frozen 4;have z3_5:w3.cell? ⟨w1.heap.size,5,none⟩=some (.int .i64 row):=X3.cell 5;have f3_5:w3.frozen? ⟨w1.heap.size,5,none⟩=false:=X3.frozen 5;have z3_6:w3.cell? ⟨w1.heap.size,6,none⟩=some (.slice ao6 rows.1 cap6):=X3.cell 6;have f3_6:w3.frozen? ⟨w1.heap.size,6,none⟩=false:=X3.frozen 6;have z3_7:w3.cell? ⟨w1.heap.size,7,none⟩=some (.slice ao7 data.1 cap7):=X3.cell 7;have f3_7:w3.frozen? ⟨w1.heap.size,7,none⟩=false:=X3.frozen 7;have z3_8:w3.cell? ⟨w1.heap.size,8,none⟩=some (.slice ao8 delta.1 cap8):=X3.cell 8;have f3_8:w3.frozen? ⟨w1.heap.size,8,none⟩=false:=X3.frozen 8;clear X3 b3;clear hw3 x2_0 kx2_0 y2_0 ky2_0 z2_0 f2_0 x2_1 kx2_1 y2_1 ky2_1 z2_1 f2_1 x2_2 kx2_2 y2_2 ky2_2 z2_2 f2_2 x2_3 kx2_3 y2_3 ky2_3 z2_3 f2_3 x2_4 kx2_4 y2_4 ky2_4 z2_4 f2_4 x2_5 kx2_5 y2_5 ky2_5 z2_5 f2_5 x2_6 kx2_6 y2_6 ky2_6 z2_6 f2_6 x2_7 kx2_7 y2_7 ky2_7 z2_7 f2_7 x2_8 kx2_8 y2_8 ky2_8 z2_8 f2_8
    ·go_wp2
     go_ret;exact recP rfl (Stair.pass HOK.out (Stair.pass HK.out (Stair.pass HQ.out (Stair.pass HN.out (Stair.fall (fun h=>by have:=HE.out.1 h;simp at this)))))) HB3.out
    ·go_wp2
     go_ret;exact recP rfl (Stair.pass HOK.out (Stair.pass HK.out (Stair.pass HQ.out (Stair.pass HN.out (Stair.fall (fun h=>by have:=HE.out.1 h;simp at this)))))) HB3.out
    ·go_wp2
     go_ret;exact recP rfl (Stair.pass HOK.out (Stair.pass HK.out (Stair.pass HQ.out (Stair.pass HN.out (Stair.fall (fun h=>by have:=HE.out.1 h;simp at this)))))) HB3.out
    ·go_wp2
     go_ret;exact recP rfl (Stair.pass HOK.out (Stair.pass HK.out (Stair.pass HQ.out (Stair.pass HN.out (Stair.fall (fun h=>by have:=HE.out.1 h;simp at this)))))) HB3.out
    ·have HKP:Hid (zaK s ⟨2,seq,name,length,group,row,rows,data,delta⟩):=HE.out.2 (by simp)
     go_wp2_with fail
     refine (zbM _ _ _ _ _ _ _ _ _ _ _ _ _ _ _ _).mono ?_;rintro e w9 ⟨t9,rfl,ht9,b9⟩
     have HB9:Hid (Below w.heap.size w w9):=by
      show Below w.heap.size w w9
      refine Below.trans ?_ (b9.mono ?_)
      ·repeat (refine zcy ?_ (by omega))
       exact HB3.out
      ·simp
       exact HB3.out.size
     clear b9
     have HT9:Hid (t9=true↔zaI ⟨2,seq,name,length,group,row,rows,data,delta⟩):=by
      show t9=true↔zaI ⟨2,seq,name,length,group,row,rows,data,delta⟩
      rw [ht9];unfold zbD zaI zb4
      simp [and_assoc]
      try (intros;rfl)
     clear ht9
     cases t9 with
     | false=>
      go_wp2;go_ret;exact recP rfl (Stair.pass HOK.out (Stair.pass HK.out (Stair.pass HQ.out (Stair.pass HN.out (Stair.pass HKP.out (Stair.fall (fun h=>by have:=HT9.out.2 h;simp at this))))))) HB9.out
     | true=>
      go_wp2;go_ret;exact recP rfl (Stair.pass HOK.out (Stair.pass HK.out (Stair.pass HQ.out (Stair.pass HN.out (Stair.pass HKP.out (Stair.pass (HT9.out.1 (by simp)) (Stair.last rfl))))))) HB9.out
   ·have HN:Hid (zcB ⟨3,seq,name,length,group,row,rows,data,delta⟩):=fun h=>by simp at h
    obtain ⟨t1,h1⟩:=exB (InP group 0 (s 0+s 1-1));have cG:=zdp (W:=W2) (fun w'=>zbl h1 w');have cA:=zap (W:=W2) (fun w' _=>za5 s HOK.out w');unfold zac at cA
    have HE:Hid (zaK s ⟨3,seq,name,length,group,row,rows,data,delta⟩↔(t1=true)):=by
     show zaK s ⟨3,seq,name,length,group,row,rows,data,delta⟩↔_
     rw [h1];unfold zaK zg4
     simp
    have hst:(t1=false)∨(t1=true):=by
     clear HE h1 cG
     cases t1<;>simp
    clear h1;go_wp2
    rcases hst with rfl | rfl
    all_goals
     refine WQ.region (by kernel_rfl) (by kernel_rfl) ?_
     repeat (first | (apply WQ.skip;(case hw=>rfl);intro K hK;go_simp;apply hK;clear hK K) | (apply WQ.want;(case hw=>rfl);intro K hK;go_simp;first | (apply hK;clear hK K) | (apply Exists.intro;apply And.intro;(case left=>intro p;(first | (go_at_call 51;exact cG _ _) | (go_at_call 49;exact cA _ _)));apply hK;clear hK K)))
     refine WQ.nil ?_;intro w3 hw3;have b3:=zaw hw3;have X3:Box w3 w1.heap.size #[.int .i64 3,.int .i64 seq,.string name,.int .i64 length,.int .i64 group,.int .i64 row,.slice ao6 rows.1 cap6,.slice ao7 data.1 cap7,.slice ao8 delta.1 cap8] 95:=HX2.out.call b3;have HB3:Hid (Below w.heap.size w w3):=(HT2.out.call b3).bel;have z3_0:w3.cell? ⟨w1.heap.size,0,none⟩=some (.int .i64 3):=X3.cell 0;have f3_0:w3.frozen? ⟨w1.heap.size,0,none⟩=false:=X3.frozen 0;have z3_1:w3.cell? ⟨w1.heap.size,1,none⟩=some (.int .i64 seq):=X3.cell 1;have f3_1:w3.frozen? ⟨w1.heap.size,1,none⟩=false:=X3.frozen 1;have z3_2:w3.cell? ⟨w1.heap.size,2,none⟩=some (.string name):=X3.cell 2;have f3_2:w3.frozen? ⟨w1.heap.size,2,none⟩=false:=X3.frozen 2;have z3_3:w3.cell? ⟨w1.heap.size,3,none⟩=some (.int .i64 length):=X3.cell 3;have f3_3:w3.frozen? ⟨w1.heap.size,3,none⟩=false:=X3.frozen 3;have z3_4:w3.cell? ⟨w1.heap.size,4,none⟩=some (.int .i64 group):=X3.cell 4;have f3_4:w3.frozen? ⟨w1.heap.size,4,none⟩=false:=X3.frozen 4;have z3_5:w3.cell? ⟨w1.heap.size,5,none⟩=some (.int .i64 row):=X3.cell 5;have f3_5:w3.frozen? ⟨w1.heap.size,5,none⟩=false:=X3.frozen 5;have z3_6:w3.cell? ⟨w1.heap.size,6,none⟩=some (.slice ao6 rows.1 cap6):=X3.cell 6;have f3_6:w3.frozen? ⟨w1.heap.size,6,none⟩=false:=X3.frozen 6;have z3_7:w3.cell? ⟨w1.heap.size,7,none⟩=some (.slice ao7 data.1 cap7):=X3.cell 7;have f3_7:w3.frozen? ⟨w1.heap.size,7,none⟩=false:=X3.frozen 7;have z3_8:w3.cell? ⟨w1.heap.size,8,none⟩=some (.slice ao8 delta.1 cap8):=X3.cell 8;have f3_8:w3.frozen? ⟨w1.heap.size,8,none⟩=false:=X3.frozen 8;clear X3 b3;clear hw3 x2_0 kx2_0 y2_0 ky2_0 z2_0 f2_0 x2_1 kx2_1 y2_1 ky2_1 z2_1 f2_1 x2_2 kx2_2 y2_2 ky2_2 z2_2 f2_2 x2_3 kx2_3 y2_3 ky2_3 z2_3 f2_3 x2_4 kx2_4 y2_4 ky2_4 z2_4 f2_4 x2_5 kx2_5 y2_5 ky2_5 z2_5 f2_5 x2_6 kx2_6 y2_6 ky2_6 z2_6 f2_6 x2_7 kx2_7 y2_7 ky2_7 z2_7 f2_7 x2_8 kx2_8 y2_8 ky2_8 z2_8 f2_8
    ·go_wp2
     go_ret;exact recP rfl (Stair.pass HOK.out (Stair.pass HK.out (Stair.pass HQ.out (Stair.pass HN.out (Stair.fall (fun h=>by have:=HE.out.1 h;simp at this)))))) HB3.out
    ·have HKP:Hid (zaK s ⟨3,seq,name,length,group,row,rows,data,delta⟩):=HE.out.2 (by simp)
     go_wp2_with fail
     refine (zbM _ _ _ _ _ _ _ _ _ _ _ _ _ _ _ _).mono ?_;rintro e w9 ⟨t9,rfl,ht9,b9⟩
     have HB9:Hid (Below w.heap.size w w9):=by
      show Below w.heap.size w w9
      refine Below.trans ?_ (b9.mono ?_)
      ·repeat (refine zcy ?_ (by omega))
       exact HB3.out
      ·simp
       exact HB3.out.size
     clear b9
     have HT9:Hid (t9=true↔zaI ⟨3,seq,name,length,group,row,rows,data,delta⟩):=by
      show t9=true↔zaI ⟨3,seq,name,length,group,row,rows,data,delta⟩
      rw [ht9];unfold zbD zaI zb4
      simp [and_assoc]
      try (intros;rfl)
     clear ht9
     cases t9 with
     | false=>
      go_wp2;go_ret;exact recP rfl (Stair.pass HOK.out (Stair.pass HK.out (Stair.pass HQ.out (Stair.pass HN.out (Stair.pass HKP.out (Stair.fall (fun h=>by have:=HT9.out.2 h;simp at this))))))) HB9.out
     | true=>
      go_wp2;go_ret;exact recP rfl (Stair.pass HOK.out (Stair.pass HK.out (Stair.pass HQ.out (Stair.pass HN.out (Stair.pass HKP.out (Stair.pass (HT9.out.1 (by simp)) (Stair.last rfl))))))) HB9.out
   ·have HN:Hid (zcB ⟨4,seq,name,length,group,row,rows,data,delta⟩):=fun h=>by simp at h
    obtain ⟨t1,h1⟩:=exB (InP group 0 (s 0+s 1-1));obtain ⟨t2,h2⟩:=exB (InP row 0 (s 4-1));obtain ⟨t3,h3⟩:=exB (zb3 rows.1 rows.2 (s 0+s 1-1));obtain ⟨b4',h4⟩:∃ b,((data.1:Int) != s 2*4)=b:=⟨_,rfl⟩;obtain ⟨t5,h5⟩:=exB (zdA s ⟨4,seq,name,length,group,row,rows,data,delta⟩);have cG:=zdp (W:=W2) (fun w'=>zbl h1 w');have cR:=zdp (W:=W2) (fun w'=>zbl h2 w');have cA:=zap (W:=W2) (fun w' _=>za5 s HOK.out w');have cW:=zap (W:=W2) (fun w' _=>zce s (by omega) (by omega) w');have cS:=zap (W:=W2) (fun w' hw'=>za9 (zfB _ rows.1 rows.2 hi (s 0+s 1-1) w' ((H6.out.below HT2.out.bel hhi).below hw' (Nat.le_trans hhi HT2.out.bel.size))) h3);have cX:t1=true→t3=true→∀ d os,Calls Tryz.prog 78 #[zac s,.agg #[.int .i64 4,.int .i64 seq,.string name,.int .i64 length,.int .i64 group,.int .i64 row,.slice ao6 rows.1 cap6,.slice ao7 data.1 cap7,.slice ao8 delta.1 cap8]] (Go.Sort.grow (redrawn W2 d) os) fun e w''=>e=.returned (.bool t5)∧∃ p:Regrown,w''=Go.Sort.grow (redrawn W2 p.d) p.os:=fun e1 e3=>zap (W:=W2) (fun w' hw'=>za9 (zdC s HOK.out ⟨4,seq,name,length,group,row,rows,data,delta⟩ _ hi w' (zab.rd_below (zab.rd_below HRD.out HT2.out.bel hhi) hw' (Nat.le_trans hhi HT2.out.bel.size)) (Nat.le_trans hhi (Nat.le_trans HT2.out.bel.size hw'.size)) (h1.1 e1) (h3.1 e3)) h5);unfold zac at cW cA cX
    have HE:Hid (zaK s ⟨4,seq,name,length,group,row,rows,data,delta⟩↔(t1=true∧t2=true∧t3=true∧b4'=false∧t5=true)):=by
     show zaK s ⟨4,seq,name,length,group,row,rows,data,delta⟩↔_
     rw [h1,h2,h3,← h4,h5];unfold zaK zfo
     simp
    have hst:(t1=false)∨(t1=true∧t2=false)∨(t1=true∧t2=true∧t3=false)∨(t1=true∧t2=true∧t3=true∧b4'=true)∨(t1=true∧t2=true∧t3=true∧b4'=false∧t5=false)∨(t1=true∧t2=true∧t3=true∧b4'=false∧t5=true):=by
     clear HE h1 h2 h3 h4 h5 cG cR cS cX
     cases t1<;>simp
     cases t2<;>simp
     cases t3<;>simp
     cases b4'<;>simp
    clear h1 h2 h3 h5;go_wp2
    rcases hst with rfl | ⟨rfl,rfl⟩ | ⟨rfl,rfl,rfl⟩ | ⟨rfl,rfl,rfl,rfl⟩ | ⟨rfl,rfl,rfl,rfl,rfl⟩ | ⟨rfl,rfl,rfl,rfl,rfl⟩
    all_goals
     refine WQ.region (by kernel_rfl) (by kernel_rfl) ?_
     repeat (first | (apply WQ.skip;(case hw=>rfl);intro K hK;go_simp;apply hK;clear hK K) | (apply WQ.want;(case hw=>rfl);intro K hK;go_simp;first | (apply hK;clear hK K) | (apply Exists.intro;apply And.intro;(case left=>intro p;(first | (go_at_call_of 51 (Value.int .i64 group);exact cG _ _) | (go_at_call_of 51 (Value.int .i64 row);exact cR _ _) | (go_at_call 76;exact cW _ _) | (go_at_call 49;exact cA _ _) | (go_at_call 77;exact cS _ _) | (go_at_call 78;exact cX rfl rfl _ _)));apply hK;clear hK K)))
     refine WQ.nil ?_;intro w3 hw3;have b3:=zaw hw3;have X3:Box w3 w1.heap.size #[.int .i64 4,.int .i64 seq,.string name,.int .i64 length,.int .i64 group,.int .i64 row,.slice ao6 rows.1 cap6,.slice ao7 data.1 cap7,.slice ao8 delta.1 cap8] 95:=HX2.out.call b3;have HB3:Hid (Below w.heap.size w w3):=(HT2.out.call b3).bel;have z3_0:w3.cell? ⟨w1.heap.size,0,none⟩=some (.int .i64 4):=X3.cell 0;have f3_0:w3.frozen? ⟨w1.heap.size,0,none⟩=false:=X3.frozen 0;have z3_1:w3.cell? ⟨w1.heap.size,1,none⟩=some (.int .i64 seq):=X3.cell 1;have f3_1:w3.frozen? ⟨w1.heap.size,1,none⟩=false:=X3.frozen 1;have z3_2:w3.cell? ⟨w1.heap.size,2,none⟩=some (.string name):=X3.cell 2;have f3_2:w3.frozen? ⟨w1.heap.size,2,none⟩=false:=X3.frozen 2;have z3_3:w3.cell? ⟨w1.heap.size,3,none⟩=some (.int .i64 length):=X3.cell 3;have f3_3:w3.frozen? ⟨w1.heap.size,3,none⟩=false:=X3.frozen 3;have z3_4:w3.cell? ⟨w1.heap.size,4,none⟩=some (.int .i64 group):=X3.cell 4;have f3_4:w3.frozen? ⟨w1.heap.size,4,none⟩=false:=X3.frozen 4;have z3_5:w3.cell? ⟨w1.heap.size,5,none⟩=some (.int .i64 row):=X3.cell 5;have f3_5:w3.frozen? ⟨w1.heap.size,5,none⟩=false:=X3.frozen 5;have z3_6:w3.cell? ⟨w1.heap.size,6,none⟩=some (.slice ao6 rows.1 cap6):=X3.cell 6;have f3_6:w3.frozen? ⟨w1.heap.size,6,none⟩=false:=X3.frozen 6;have z3_7:w3.cell? ⟨w1.heap.size,7,none⟩=some (.slice ao7 data.1 cap7):=X3.cell 7;have f3_7:w3.frozen? ⟨w1.heap.size,7,none⟩=false:=X3.frozen 7;have z3_8:w3.cell? ⟨w1.heap.size,8,none⟩=some (.slice ao8 delta.1 cap8):=X3.cell 8;have f3_8:w3.frozen? ⟨w1.heap.size,8,none⟩=false:=X3.frozen 8;clear X3 b3;clear hw3 x2_0 kx2_0 y2_0 ky2_0 z2_0 f2_0 x2_1 kx2_1 y2_1 ky2_1 z2_1 f2_1 x2_2 kx2_2 y2_2 ky2_2 z2_2 f2_2 x2_3 kx2_3 y2_3 ky2_3 z2_3 f2_3 x2_4 kx2_4 y2_4 ky2_4 z2_4 f2_4 x2_5 kx2_5 y2_5 ky2_5 z2_5 f2_5 x2_6 kx2_6 y2_6 ky2_6 z2_6 f2_6 x2_7 kx2_7 y2_7 ky2_7 z2_7 f2_7 x2_8 kx2_8 y2_8 ky2_8 z2_8 f2_8
    ·go_wp2
     go_ret;exact recP rfl (Stair.pass HOK.out (Stair.pass HK.out (Stair.pass HQ.out (Stair.pass HN.out (Stair.fall (fun h=>by have:=HE.out.1 h;simp at this)))))) HB3.out
    ·go_wp2
     go_ret;exact recP rfl (Stair.pass HOK.out (Stair.pass HK.out (Stair.pass HQ.out (Stair.pass HN.out (Stair.fall (fun h=>by have:=HE.out.1 h;simp at this)))))) HB3.out
    ·go_wp2
     go_ret;exact recP rfl (Stair.pass HOK.out (Stair.pass HK.out (Stair.pass HQ.out (Stair.pass HN.out (Stair.fall (fun h=>by have:=HE.out.1 h;simp at this)))))) HB3.out
    ·go_wp2
     go_ret;exact recP rfl (Stair.pass HOK.out (Stair.pass HK.out (Stair.pass HQ.out (Stair.pass HN.out (Stair.fall (fun h=>by have:=HE.out.1 h;simp at this)))))) HB3.out
    ·go_wp2
     go_ret;exact recP rfl (Stair.pass HOK.out (Stair.pass HK.out (Stair.pass HQ.out (Stair.pass HN.out (Stair.fall (fun h=>by have:=HE.out.1 h;simp at this)))))) HB3.out
    ·have HKP:Hid (zaK s ⟨4,seq,name,length,group,row,rows,data,delta⟩):=HE.out.2 (by simp)
     go_wp2_with fail
     refine (zbM _ _ _ _ _ _ _ _ _ _ _ _ _ _ _ _).mono ?_;rintro e w9 ⟨t9,rfl,ht9,b9⟩
     have HB9:Hid (Below w.heap.size w w9):=by
      show Below w.heap.size w w9
      refine Below.trans ?_ (b9.mono ?_)
      ·repeat (refine zcy ?_ (by omega))
       exact HB3.out
      ·simp
       exact HB3.out.size
     clear b9
     have HT9:Hid (t9=true↔zaI ⟨4,seq,name,length,group,row,rows,data,delta⟩):=by
      show t9=true↔zaI ⟨4,seq,name,length,group,row,rows,data,delta⟩
      rw [ht9];unfold zbD zaI zb4
      simp [and_assoc]
      try (intros;rfl)
     clear ht9
     cases t9 with
     | false=>
      go_wp2;go_ret;exact recP rfl (Stair.pass HOK.out (Stair.pass HK.out (Stair.pass HQ.out (Stair.pass HN.out (Stair.pass HKP.out (Stair.fall (fun h=>by have:=HT9.out.2 h;simp at this))))))) HB9.out
     | true=>
      go_wp2;go_ret;exact recP rfl (Stair.pass HOK.out (Stair.pass HK.out (Stair.pass HQ.out (Stair.pass HN.out (Stair.pass HKP.out (Stair.pass (HT9.out.1 (by simp)) (Stair.last rfl))))))) HB9.out
  ·go_wp2_with fail
   refine (zbl (t:=false) (exBF hq) _).mono ?_;rintro e w' ⟨rfl,hw'⟩;obtain rfl:=hw'.symm;go_wp2;go_ret;exact recP rfl (Stair.pass HOK.out (Stair.pass hk (Stair.fall hq))) HT1.out.bel
 ·go_wp2_with fail
  refine (zbl (t:=false) (exBF hk) _).mono ?_;rintro e w' ⟨rfl,hw'⟩;obtain rfl:=hw'.symm;go_wp2;go_ret;exact recP rfl (Stair.pass HOK.out (Stair.fall hk)) HT1.out.bel
theorem zcf {K:Int→Prop} (hK:∃ x,K x):∀ l:List (Prop×Int),∃ x,Stair l K x
 | []=>hK
 | (p,c)::l=>by
  by_cases h:p
  ·obtain ⟨x,hx⟩:=zcf hK l
   exact ⟨x,.inr ⟨h,hx⟩⟩
  ·exact ⟨c,.inl ⟨h,rfl⟩⟩
theorem zgn {s:Nat→Int} {d:RecD} {X:Int} {w:World} {f:Nat} {args:Array Value} (hX:RecAns s d X) (h:Calls Tryz.prog f args w (zdD s d w)):Calls Tryz.prog f args w fun e w'=>e=.returned (.int .i64 X)∧Below w.heap.size w w':=
 h.mono fun e w' ⟨x,h1,h2,h3⟩=>⟨by rw [h1,h2.one hX],h3⟩
def zb5 (d:WorldD) (w:World) (e:Ending) (w':World):Prop:=∃ x,e=.returned (.int .i64 x)∧WldAns d x∧Below w.heap.size w w'
theorem wldP {d:WorldD} {w:World} {e:Ending} {w':World} {x:Int} (he:e=.returned (.int .i64 x)) (h:WldAns d x) (hb:Below w.heap.size w w'):zb5 d w e w':=⟨x,he,h,hb⟩
def zg7 (s:Nat→Int) (p:Nat×(Nat→TapeD)) (w:World) (e:Ending) (w':World):Prop:=∃ x,e=.returned (.int .i64 x)∧RecsAns s p.1 p.2 x∧Below w.heap.size w w'
theorem WQ.free {P:Program} {ops:Array Oper} {C:World→Prop} {Q:Act→Prop} {a:Act} {o:Oper} {rest:List Oper} (hw:o.guard=none)
 (h:∀ K:Act→Prop,(∀ a,WQ P ops C Q rest a→K a)→o.quiet P a C K):WQ P ops C Q (o::rest) a:=WQ.want (by simp [Region.wanted,hw]) h
theorem zfq (s:Nat→Int) (y:Nat→RecD):∀ k,(∀ i,i<k→RecAns s (y i) 0)∨∃ i c,i<k∧c≠0∧RecAns s (y i) c∧∀ j,j<i→RecAns s (y j) 0
 | 0=>.inl (fun i hi=>by omega)
 | k+1=>by
  rcases zfq s y k with h | ⟨i,c,h1,h2,h3,h4⟩
  ·obtain ⟨X,hX⟩:∃ X,RecAns s (y k) X:=zcf (K:=isZ) ⟨0,rfl⟩ _
   by_cases hx:X=0
   ·subst hx
    exact .inl (fun i hi=>by
     by_cases c:i=k
     ·subst c;exact hX
     ·exact h i (by omega))
   ·exact .inr ⟨k,X,by omega,hx,hX,h⟩
  ·exact .inr ⟨i,c,by omega,h2,h3,h4⟩
theorem zgo (s:Nat→Int) (x:Nat→TapeD):∀ n,∃ c,RecsAns s n x c
 | 0=>⟨0,.inl ⟨rfl,fun t ht=>by omega⟩⟩
 | n+1=>by
  obtain ⟨c,hc⟩:=zgo s x n
  rcases hc with ⟨rfl,h⟩ | ⟨hc,t,i,ht,hi,hr,hb,hu⟩
  ·rcases zfq s (x n).recs.2 (x n).recs.1 with k | ⟨i,c,h1,h2,h3,h4⟩
   ·exact ⟨0,.inl ⟨rfl,fun t ht=>by
     by_cases c:t=n
     ·subst c;exact k
     ·exact h t (by omega)⟩⟩
   ·exact ⟨c,.inr ⟨h2,n,i,by omega,h1,h3,h4,h⟩⟩
  ·exact ⟨c,.inr ⟨hc,t,i,by omega,hi,hr,hb,hu⟩⟩
theorem zgN (d:WorldD):∃ X,WldAns d X:=by
 unfold WldAns;refine zcf ?_ _;obtain ⟨c,hc⟩:=zgo d.shape d.tapes.2 d.tapes.1
 by_cases h:c=0
 ·subst h
  obtain ⟨x,hx⟩:=zcf (K:=isZ) ⟨0,rfl⟩ [(zfp d,1),(zek d,3)];exact ⟨x,.inr ⟨hc,hx⟩⟩
 ·exact ⟨c,.inl ⟨h,hc⟩⟩
structure ElInfo {α:Type} (E:Lay α) (T e:TypeId) (by_:Nat) (zs:List Value):Prop where
 hs:0<E.sz
 hzs:zs.length=E.sz
 hu:Tryz.prog.underlying T=some (.slice e)
 hi:(Tryz.prog.info? e).map (fun i=>(i.zero.map (·.cells),i.size,i.bytes))=some (some zs.toArray,E.sz,by_)
 few:by_≤1000
section
variable {α:Type} {E:Lay α} {t:TypeId} {w w':World} {lo n:Nat} {v:Value} {x:Nat→α}
end
section
variable {α:Type} {E:Lay α} {t:TypeId} {w w1:World} {lo g cap n k:Nat} {x:Nat→α} {ce:Nat→List Value} {Ls:Nat→List Nat}
end
def noRec:RecD:=⟨0,0,ByteArray.empty,0,0,0,(0,fun _=>0),(0,fun _=>0),(0,fun _=>0)⟩
def zeroT:TapeD:=⟨false,(0,fun _=>noRec)⟩
theorem ChgL.bel {K:List Nat} {w w':World} {B:Nat} (hc:ChgL K w w') (hK:∀ b,b∈K→B≤b) (hB:B≤w.heap.size):Below B w w':=⟨hc.os,hc.tape,hc.output,hc.size,fun k hk=>hc.block k (by omega) (fun h=>by have:=hK k h;omega)⟩
structure NewBx (cs:Array Value) (w1 wx:World) (P t:Nat):Prop where
 box:Box wx P cs 37
 tp:(zai.slice 77).own wx (2,fun _=>zeroT) [.slice (some ⟨t,0,none⟩) 2 2] [t]
 p1:w1.heap.size≤P
 t1:w1.heap.size≤t
 ne:t≠P
 bel:Below w1.heap.size w1 wx
theorem zgZ {α:Type} {A:Lay α} {c:α→Nat} {mk:Nat→α→α} {fn:Nat} (hm:MkV A c mk fn) {w:World} {lo hi:Nat} {d:α} {cs:List Value} (h:OwnT A w lo hi d cs) (j:Nat) (hj:j+c d≤100000000) :
 Calls Tryz.prog fn #[.agg cs.toArray,.int .i64 j] w fun e w'=>e=.returned (.int .i64 ((j+c d:Nat):Int))∧OwnT A w' lo hi (mk j d) cs∧Chg lo hi w w':=by
 obtain ⟨L,h1,h2,h3⟩:=h;exact (hm cs d L j w h1 h2 hj).mono fun e w' ⟨he,ho,hc⟩=>⟨he,⟨L,ho,h2,h3⟩,hc.chg h3⟩
theorem Chg.bel {lo hi B:Nat} {w w':World} (h:Chg lo hi w w') (hl:B≤lo) (hB:B≤w.heap.size):Below B w w':=⟨h.os,h.tape,h.output,h.size,fun k hk=>h.block k (by omega) (.inl (by omega))⟩
theorem zdq {f g:Nat→Nat}:∀ {n:Nat},(∀ i,i<n→f i≤g i)→sumN f n≤sumN g n
 | 0,_=>Nat.le_refl _
 | n+1,h=>by
  rw [zaL,zaL];exact Nat.add_le_add (zdq (fun i hi=>h i (by omega))) (h n (by omega))
theorem zfR (c:Nat):∀ n:Nat,sumN (fun _=>c) n=n*c
 | 0=>by simp [sumN]
 | n+1=>by rw [zaL,zfR c n,Nat.succ_mul]
theorem zel (f:Nat→Nat) (c k:Nat):∀ n:Nat,sumN (fun i=>c+k*f i) n=n*c+k*sumN f n
 | 0=>by simp [sumN]
 | n+1=>by rw [zaL,zel f c k n,zaL,Nat.succ_mul,Nat.mul_add];omega
theorem zem {α:Type} {c s:α→Nat} {k:Nat} (h:∀ a,c a≤k+k*s a) (p:Nat×(Nat→α)):cSl c p≤k*szSl s p:=by
 unfold cSl szSl;have h1:sumN (fun i=>c (p.2 i)) p.1≤sumN (fun i=>k+k*s (p.2 i)) p.1:=zdq (fun i _=>h (p.2 i));rw [zel (fun i=>s (p.2 i)) k k p.1] at h1;rw [Nat.mul_add];have:p.1*k=k*p.1:=Nat.mul_comm _ _;omega
theorem zgp (d:BlockD):zaz d≤6+6*zaA d:=by unfold zaz zaA;omega
theorem zgq (d:DriveD):zah d≤6+6*zan d:=by
 have:=zem (k:=6) zgp d.blocks;unfold zah zan;omega
theorem zg8 (d:RecD):zaO d≤6+6*zaN d:=by unfold zaO zaN;omega
theorem zgO (d:TapeD):zaJ d≤6+6*zaG d:=by
 have:=zem (k:=6) zg8 d.recs;unfold zaJ zaG;omega
theorem zfS (d:WorldD):zcc d≤6*zaQ d:=by
 have h1:=zem (c:=cSl zah) (s:=szSl zan) (k:=6) (fun p=>Nat.le_trans (zem (k:=6) zgq p) (by omega)) d.groups;have h3:=zem (k:=6) zgO d.tapes;unfold zcc zaQ;omega
theorem OwnT.one {α:Type} {A:Lay α} {w:World} {lo hi:Nat} {a:α} {cs:List Value} (h:OwnT A w lo hi a cs):∀ v,v∈cs→v.oneCell'=true:=by
 obtain ⟨L,h1,_⟩:=h;exact fun v hv=>A.own_one h1 v hv
theorem zbo {ops:Array Oper} {rest:List Oper} {o1 o2:Oper} {a:Act} {w:World} {Q:Exit→Act→World→Prop} (T:TypeId) (k:Nat) (x:Operand) (cs:List Value) (zs:Array Value) (n:Nat)
 (hop1:o1.op=Op.alloc T) (hop2:o2.op=Op.store T (.tmp k) x) (hg1:o1.guard=none) (hg2:o2.guard=none) (hd1:o1.dst=some k) (hd2:o2.dst=none)
 (hp:(a.put (some k) (.pointer (some ⟨w.heap.size,0,none⟩))).eval (.tmp k)=.pointer (some ⟨w.heap.size,0,none⟩)) (hx:(a.put (some k) (.pointer (some ⟨w.heap.size,0,none⟩))).eval x=.agg cs.toArray)
 (hi:(Tryz.prog.info? T).map (fun i=>(i.zero.map (·.cells),i.size))=some (some zs,n)) (hz:zs.size=n) (hl:cs.length=n) (h1:∀ v,v∈cs→v.oneCell'=true)
 (h:wpList Tryz.prog ops Q rest (a.put (some k) (.pointer (some ⟨w.heap.size,0,none⟩))) (w.alloc (.cells cs.toArray T))):wpList Tryz.prog ops Q (o1::o2::rest) a w:=by
 obtain ⟨i0,hi0⟩:∃ i0,Tryz.prog.info? T=some i0:=by
  cases h:Tryz.prog.info? T with
  | none=>rw [h] at hi;cases hi
  | some i0=>exact ⟨i0,rfl⟩
 rw [hi0] at hi
 simp only [Option.map_some,Option.some.injEq,Prod.mk.injEq] at hi
 obtain ⟨h2,h3⟩:=hi
 obtain ⟨z,hzz,hzc⟩:∃ z,i0.zero=some z∧z.cells=zs:=by
  cases h:i0.zero with
  | none=>rw [h] at h2;cases h2
  | some z=>rw [h] at h2;exact ⟨z,rfl,by simpa using h2⟩
 have hr:(Instr.alloc T true (.tuple #[])).run Tryz.prog w=.ok (.pointer (some ⟨w.heap.size,0,none⟩)) (w.alloc (.cells zs T)):=by
  simp [Instr.alloc,zeroValue,typeInfo,hi0,hzz,hzc,newVar,newRow]
 have hw:(w.alloc (.cells zs T)).setRow w.heap.size cs.toArray=w.alloc (.cells cs.toArray T):=by
  have hh:((w.alloc (.cells zs T)).setRow w.heap.size cs.toArray).heap=w.heap.push (.cells cs.toArray T):=by
   apply Array.ext_getElem?
   intro i
   by_cases c:i=w.heap.size
   ·subst c
    rw [setRow_heap (w.alloc (.cells zs T)) w.heap.size zs cs.toArray T (0,0) (zax w zs T),Array.getElem?_push,if_pos rfl]
   ·rw [setRow_other _ _ _ _ c,Array.getElem?_push,if_neg c]
    show (w.heap.push _)[i]?=_
    rw [Array.getElem?_push,if_neg c]
  show ({ w with heap:=((w.alloc (.cells zs T)).setRow w.heap.size cs.toArray).heap }:World)=_
  rw [hh];rfl
 refine wpList_plain hg1 fun K hK=>?_;unfold Oper.wp execOp
 simp only [hop1,Sem.run_bind,hr,Result.andThen_ok]
 refine hK _ _ ?_;rw [hd1];refine wpList_store_row hg2 T (.tmp k) x hop2 w.heap.size cs.toArray hp hx T zs (zax w zs T) (by rw [hi0];simp [h3,hl]) (by simp [hz,hl]) (by simp;exact h1) ?_;rw [hw,hd2];exact h
theorem zaq {ops:Array Oper} {rest:List Oper} {o:Oper} {a:Act} {w:World} {Q:Exit→Act→World→Prop} (T:TypeId) (x:Operand) (ho:o.op=.load T x) (hgd:o.guard=none) (b:Nat) (hx:a.eval x=.pointer (some ⟨b,0,none⟩)) {cs:List Value} (hB:Box w b cs.toArray T) {fs:Array Field} (hu:Tryz.prog.underlying T=some (.struct fs)) {n:Nat} (hi:(Tryz.prog.info? T).map (·.size)=some n) (hl:cs.length=n)
 (h:wpList Tryz.prog ops Q rest (a.put o.dst (.agg cs.toArray)) w):wpList Tryz.prog ops Q (o::rest) a w:=
 wpList_load_row hgd T x ho b hx T cs.toArray (0,0) (.struct fs) hB hu rfl (by rw [hi];simp [hl]) h
theorem zcQ:(Tryz.prog.info? 37).map (·.size)=some 15:=by kernel_rfl
theorem zc8:(Tryz.prog.info? 28).map (·.size)=some 15:=by kernel_rfl
theorem zhk:(Tryz.prog.info? 37).map (fun i=>(i.zero.map (·.cells),i.size))=some (some #[.int .i64 0,.int .i64 0,.int .i64 0,.int .i64 0,.int .i64 0,.int .i64 0,.int .i64 0,.int .i64 0,.int .i64 0,.slice none 0 0,.slice none 0 0,.slice none 0 0,.int .i64 0,.int .i64 0,.bool false],15):=by kernel_rfl
end Go.Proofs.YtkmglpaaeogapaaGreat
namespace Go.Proofs.YtkmglpaaeogapaaGreat
def zaW (p:Nat→Bool) (n:Nat):List Nat:=(List.range n).filter p
theorem zbz (p:Nat→Bool) (n:Nat):zaW p (n+1)=zaW p n++(if p n then [n] else []):=by
 unfold zaW;rw [List.range_succ,List.filter_append]
 cases h:p n<;>simp [h]
theorem zg9 {p:Nat→Bool} {n i:Nat} (h:i∈zaW p n):i<n:=by
 unfold zaW at h;exact List.mem_range.1 (List.mem_filter.1 h).1
theorem zeX (p:Nat→Bool) (n:Nat):(zaW p n).length≤n:=by
 have:=List.length_filter_le p (List.range n);unfold zaW
 simpa using this
def zcV (p:Nat→Bool) (n:Nat):Nat→Nat:=fun m=>(zaW p n).getD m 0
theorem zgr {p:Nat→Bool} {n m:Nat} (h:m<(zaW p n).length):zcV p n m∈zaW p n:=by
 unfold zcV;rw [List.getD_eq_getElem?_getD,List.getElem?_eq_getElem h];exact List.getElem_mem h
theorem zgP {p:Nat→Bool} {n m:Nat} (h:m<(zaW p n).length):zcV p n m<n:=zg9 (zgr h)
theorem zfT {p:Nat→Bool} {n m:Nat} (h:m<(zaW p n).length):zcV p (n+1) m=zcV p n m:=by
 unfold zcV;rw [zbz,List.getD_eq_getElem?_getD,List.getD_eq_getElem?_getD,List.getElem?_append_left h]
theorem zfU {p:Nat→Bool} {n:Nat} (h:p n=true):zcV p (n+1) (zaW p n).length=n:=by
 unfold zcV;rw [zbz,List.getD_eq_getElem?_getD,List.getElem?_append_right (Nat.le_refl _),Nat.sub_self,if_pos h];rfl
theorem zen {p:Nat→Bool} {n:Nat} (h:p n=false):zaW p (n+1)=zaW p n:=by rw [zbz,if_neg (by simp [h])];simp
end Go.Proofs.YtkmglpaaeogapaaGreat
namespace Go.Proofs.YtkmglpaaeogapaaGreat
open Go.RowKit F256
structure RecsResultD where
 code:Int
 recs:Nat×(Nat→RecD)
structure BytesResultD where
 code:Int
 bytes:Nat×(Nat→Nat)
structure IntsResultD where
 code:Int
 list:Nat×(Nat→Int)
def zao:Lay IntsResultD:=(layI.two zag).as fun d=>(d.code,d.list)
theorem zbp {w:World} {hi:Nat} {d:IntsResultD} {cs:List Value} (h:zao.rd w hi d cs):∃ ao1 cap1,cs=[.int .i64 d.code,.slice ao1 d.list.1 cap1]∧zag.rd w hi d.list [.slice ao1 d.list.1 cap1]∧(-9223372036854775808≤d.code∧d.code≤9223372036854775807):=by
 obtain ⟨c0,r0,rfl,h0,h1⟩:=h;obtain ⟨rfl,k0⟩:=h0;obtain ⟨ao1,cap1,rfl⟩:=zbY h1;exact ⟨ao1,cap1,rfl,h1,k0⟩
theorem zdi {w:World} {d:IntsResultD} {cs:List Value} {L:List Nat} (h:zao.own w d cs L):∃ ao1 cap1 K1,cs=[.int .i64 d.code,.slice ao1 d.list.1 cap1]∧L=K1∧zag.own w d.list [.slice ao1 d.list.1 cap1] K1∧(-9223372036854775808≤d.code∧d.code≤9223372036854775807):=by
 obtain ⟨c0,r0,L0,M0,rfl,rfl,h0,h1⟩:=h;obtain ⟨rfl,k0,rfl⟩:=h0;obtain ⟨ao1,cap1,rfl⟩:=zcK h1;exact ⟨ao1,cap1,_,rfl,rfl,h1,k0⟩
theorem zcC {w:World} (d:IntsResultD) {ao1:Option Addr} {cap1:Nat} {K1:List Nat} (h1:zag.own w d.list [.slice ao1 d.list.1 cap1] K1) (k0:(-9223372036854775808≤d.code∧d.code≤9223372036854775807)):zao.own w d [.int .i64 d.code,.slice ao1 d.list.1 cap1] (K1):=⟨_,_,[],K1,rfl,rfl,⟨rfl,k0,rfl⟩,h1⟩
def zaH (d:IntsResultD):Nat:=lenD d.list
def zbf (j:Nat) (d:IntsResultD):IntsResultD:=⟨d.code,zbw (j) d.list⟩
structure GroupsResultD where
 code:Int
 groups:Nat×(Nat→Int)
theorem zgs (v:Value) (n:Nat) (g:Nat→Int) (hi:Nat) (x:Int) (w:World) (r:RdI w hi v n g) :
 Calls Tryz.prog 105 #[v,.int .i64 x] w fun e w'=>∃ z:Int,e=.returned (.int .i64 z)∧(0≤z↔∃ t,t<n∧g t=x)∧w'=w:=by
 obtain ⟨ao,cap,rfl,hm,hc⟩:=r;unfold maxLen at hm
 go_enter Tryz.func105,Tryz.ntmps105
 go_wp2
 go_loop [8] (fun i=>∃ k:Nat,k≤n∧i=.int .i64 k∧∀ i,i<k→g i≠x) (fun i=>n-(intOf i).toNat)
 case atStart=>exact ⟨0,Nat.zero_le _,rfl,fun i hi=>by omega⟩
 case round=>
  obtain ⟨k,hk,rfl,hall⟩:=hrel;have HALL:=hid hall;clear hall
  by_cases hlt:k<n
  ·obtain ⟨b,off,rfl,hblt,hcell⟩:=hc (by omega)
   have hck:w.cell? ⟨b,off+k,none⟩=some (.int .i64 (g k)):=hcell k hlt;obtain ⟨y,hy⟩:∃ y,y=g k:=⟨_,rfl⟩;have HY:=hid hy;rw [← hy] at hck;clear hc hcell hy
   by_cases heq:x=y
   ·have HP:Hid (0≤(k:Int)↔∃ t,t<n∧g t=x):=⟨fun _=>⟨k,hlt,by rw [← HY.out,heq]⟩,fun _=>by omega⟩
    have te:(x==y)=true:=by simp [heq]
    clear heq;go_wp2;go_ret;exact ⟨_,rfl,HP.out,rfl⟩
   ·have te:(x==y)=false:=by simp [heq]
    have HN:Hid (g k≠x):=by show g k≠x;rw [← HY.out];exact fun h=>heq h.symm
    clear heq;go_wp2
    go_round
    case rel=>exact ⟨k+1,by omega,by go_num,fun i hi=>by
     by_cases c:i=k
     ·rw [c];exact HN.out
     ·exact HALL.out i (by omega)⟩
    case measure=>simp [intOf];omega
  ·obtain rfl:k=n:=by omega
   have HP:Hid (0≤(-1:Int)↔∃ t,t<k∧g t=x):=⟨fun h=>by omega,fun ⟨t,ht,he⟩=>absurd he (HALL.out t ht)⟩;clear hc;go_wp2;go_ret;exact ⟨-1,rfl,HP.out,rfl⟩
theorem zeo (v:Value) (n:Nat) (g:Nat→Int) (hi:Nat) (x:Int) (w:World) (r:RdI w hi v n g) :
 Calls Tryz.prog 98 #[v,.int .i64 x] w (za8 (∃ t,t<n∧g t=x) w):=by
 have C:=zgs v n g hi x w r;obtain ⟨ao,cap,rfl,hm,hc⟩:=r;clear hc hm;have HI:=hid C;clear C;obtain ⟨P,hP⟩:∃ P:Prop,P=∃ t,t<n∧g t=x:=⟨_,rfl⟩;rw [← hP] at HI ⊢;clear hP
 go_enter Tryz.func98,Tryz.ntmps98
 go_wp2_with fail
 refine HI.out.mono ?_;rintro e w1 ⟨z,rfl,hz,hw1⟩;obtain rfl:=hw1.symm;have HZ:=hid hz;clear hz HI
 by_cases h0:0≤z
 ·have HP:Hid P:=HZ.out.mp h0
  go_wp2;go_ret;exact zas rfl HP.out (Below.refl _ _)
 ·have HP:Hid (¬ P):=fun h=>h0 (HZ.out.mpr h)
  have td:decide (0≤z)=false:=by simp;omega
  clear h0;go_wp2;go_ret;exact zal rfl HP.out (Below.refl _ _)
end Go.Proofs.YtkmglpaaeogapaaGreat
namespace Go.Proofs.YtkmglpaaeogapaaGreat
open Go.RowKit
theorem Box.allocd {w:World} {b:Nat} {cs:Array Value} {t:TypeId} (h:Box w b cs t) (o:Obj):Box (w.alloc o) b cs t:=(Below.heap_alloc w o b h.lt).trans h
end Go.Proofs.YtkmglpaaeogapaaGreat
namespace Go.Proofs.YtkmglpaaeogapaaGreat
open Go.RowKit F256
theorem zeY (x a b:Int) (w:World) :
 Calls Tryz.prog 96 #[.int .i64 x,.int .i64 a,.int .i64 b] w fun e w'=>e=.returned (.int .i64 (max a (min x b)))∧w'=w:=by
 go_enter Tryz.func96,Tryz.ntmps96
 go_wp2;go_ret;exact ⟨rfl,rfl⟩
def zat (x a b:Int):Int:=max a (min x b)
theorem za6 (x a b:Int) (h:a≤b):x=zat x a b↔a≤x∧x≤b:=by
 unfold zat;omega
theorem za7 (x a b:Int) (w:World) :
 Calls Tryz.prog 96 #[.int .i64 x,.int .i64 a,.int .i64 b] w fun e w'=>e=.returned (.int .i64 (zat x a b))∧w'=w:=zeY x a b w
set_option maxRecDepth 20000 in
theorem zcW (a0 a1 a2 a3 a4 a5 a6 a7 a8:Int) (w:World) :
 Calls Tryz.prog 82 #[.agg #[.int .i64 a0,.int .i64 a1,.int .i64 a2,.int .i64 a3,.int .i64 a4,.int .i64 a5,.int .i64 a6,.int .i64 a7,.int .i64 a8]] w fun e w'=>e=.returned (.agg #[.int .i64 (zat a0 1 4),.int .i64 (zat a1 0 2),.int .i64 (zat a2 1 3),.int .i64 (zat a3 0 2),.int .i64 (zat a4 1 6),.int .i64 (zat a5 1 6),.int .i64 (zat a6 1 4),.int .i64 (zat a7 1 6),.int .i64 (zat a8 0 400)])∧Below w.heap.size w w':=by
 go_enter Tryz.func82,Tryz.ntmps82
 go_wp2_with fail
 have XA:=(zax w #[.int .i64 a0,.int .i64 a1,.int .i64 a2,.int .i64 a3,.int .i64 a4,.int .i64 a5,.int .i64 a6,.int .i64 a7,.int .i64 a8] 33).allocd (.cells #[.int .i64 0,.int .i64 0,.int .i64 0,.int .i64 0,.int .i64 0,.int .i64 0,.int .i64 0,.int .i64 0,.int .i64 0] 33);have XZ:=zax (w.alloc (.cells #[.int .i64 a0,.int .i64 a1,.int .i64 a2,.int .i64 a3,.int .i64 a4,.int .i64 a5,.int .i64 a6,.int .i64 a7,.int .i64 a8] 33)) #[.int .i64 0,.int .i64 0,.int .i64 0,.int .i64 0,.int .i64 0,.int .i64 0,.int .i64 0,.int .i64 0,.int .i64 0] 33
 have hz:(w.alloc (.cells #[.int .i64 a0,.int .i64 a1,.int .i64 a2,.int .i64 a3,.int .i64 a4,.int .i64 a5,.int .i64 a6,.int .i64 a7,.int .i64 a8] 33)).heap.size=w.heap.size+1:=by simp
 rw [hz] at XZ;have BA:Below w.heap.size w ((w.alloc (.cells #[.int .i64 a0,.int .i64 a1,.int .i64 a2,.int .i64 a3,.int .i64 a4,.int .i64 a5,.int .i64 a6,.int .i64 a7,.int .i64 a8] 33)).alloc (.cells #[.int .i64 0,.int .i64 0,.int .i64 0,.int .i64 0,.int .i64 0,.int .i64 0,.int .i64 0,.int .i64 0,.int .i64 0] 33)):=((Below.refl _ _).alloc (Nat.le_refl _) _).alloc (by simp) _;obtain ⟨wA,hwA⟩:∃ x,x=(w.alloc (.cells #[.int .i64 a0,.int .i64 a1,.int .i64 a2,.int .i64 a3,.int .i64 a4,.int .i64 a5,.int .i64 a6,.int .i64 a7,.int .i64 a8] 33)).alloc (.cells #[.int .i64 0,.int .i64 0,.int .i64 0,.int .i64 0,.int .i64 0,.int .i64 0,.int .i64 0,.int .i64 0,.int .i64 0] 33):=⟨_,rfl⟩;rw [← hwA] at XA XZ BA ⊢;clear hwA hz;refine wp_region_still_tail 28 (by kernel_rfl) (by kernel_rfl) ?_;have XA':Box { wA with drawn:=wA.drawn+1 } w.heap.size #[.int .i64 a0,.int .i64 a1,.int .i64 a2,.int .i64 a3,.int .i64 a4,.int .i64 a5,.int .i64 a6,.int .i64 a7,.int .i64 a8] 33:=XA;have XZ':Box { wA with drawn:=wA.drawn+1 } (w.heap.size+1) #[.int .i64 0,.int .i64 0,.int .i64 0,.int .i64 0,.int .i64 0,.int .i64 0,.int .i64 0,.int .i64 0,.int .i64 0] 33:=XZ;have BA':Below w.heap.size w { wA with drawn:=wA.drawn+1 }:=⟨BA.os,BA.tape,BA.output,BA.size,BA.block⟩;obtain ⟨wB,hwB⟩:∃ x:World,x={ wA with drawn:=wA.drawn+1 }:=⟨_,rfl⟩;rw [← hwB] at XA' XZ' BA' ⊢;clear XA XZ BA hwB;obtain ⟨x0,x1,x2,x3,x4,x5,x6,x7,x8⟩:=box9 XA';obtain ⟨y0,y1,y2,y3,y4,y5,y6,y7,y8⟩:=box9 XZ'
 simp only [List.take_succ_cons,List.take_zero,List.drop_succ_cons,List.drop_zero]
 still_step
 still_step
 still_call (za7 _ _ _ _)
 still_step
 still_step
 still_call (za7 _ _ _ _)
 still_step
 still_step
 still_call (za7 _ _ _ _)
 still_step
 still_step
 still_call (za7 _ _ _ _)
 still_step
 still_step
 still_call (za7 _ _ _ _)
 still_step
 still_step
 still_call (za7 _ _ _ _)
 still_step
 still_step
 still_call (za7 _ _ _ _)
 still_step
 still_step
 still_call (za7 _ _ _ _)
 still_step
 still_step
 still_call (za7 _ _ _ _)
 still_step
 refine wpStill_nil ?_;have z0:wB.frozen? ⟨w.heap.size+1,0,none⟩=false:=XZ'.frozen 0;have z1:wB.frozen? ⟨w.heap.size+1,1,none⟩=false:=XZ'.frozen 1;have z2:wB.frozen? ⟨w.heap.size+1,2,none⟩=false:=XZ'.frozen 2;have z3:wB.frozen? ⟨w.heap.size+1,3,none⟩=false:=XZ'.frozen 3;have z4:wB.frozen? ⟨w.heap.size+1,4,none⟩=false:=XZ'.frozen 4;have z5:wB.frozen? ⟨w.heap.size+1,5,none⟩=false:=XZ'.frozen 5;have z6:wB.frozen? ⟨w.heap.size+1,6,none⟩=false:=XZ'.frozen 6;have z7:wB.frozen? ⟨w.heap.size+1,7,none⟩=false:=XZ'.frozen 7;have z8:wB.frozen? ⟨w.heap.size+1,8,none⟩=false:=XZ'.frozen 8;go_wp2;refine bodyPost_ret (v:=.agg #[.int .i64 (zat a0 1 4),.int .i64 (zat a1 0 2),.int .i64 (zat a2 1 3),.int .i64 (zat a3 0 2),.int .i64 (zat a4 1 6),.int .i64 (zat a5 1 6),.int .i64 (zat a6 1 4),.int .i64 (zat a7 1 6),.int .i64 (zat a8 0 400)]) (by simp [results,Tryz.results82,go_sem,y0,y1,y2,y3,y4,y5,y6,y7,y8]) rfl ⟨rfl,?_⟩;exact (((((((((BA'.setCell (Nat.le_succ _) _).setCell (Nat.le_succ _) _).setCell (Nat.le_succ _) _).setCell (Nat.le_succ _) _).setCell (Nat.le_succ _) _).setCell (Nat.le_succ _) _).setCell (Nat.le_succ _) _).setCell (Nat.le_succ _) _).setCell (Nat.le_succ _) _)
theorem zep (a0 a1 a2 a3 a4 a5 a6 a7 a8:Int) (w:World):(Op.equalIn 10000 33 (.agg #[.int .i64 a0,.int .i64 a1,.int .i64 a2,.int .i64 a3,.int .i64 a4,.int .i64 a5,.int .i64 a6,.int .i64 a7,.int .i64 a8]) (.agg #[.int .i64 a0,.int .i64 a1,.int .i64 a2,.int .i64 a3,.int .i64 a4,.int .i64 a5,.int .i64 a6,.int .i64 a7,.int .i64 a8])).run Tryz.prog w=.ok true w:=by
 have u3:=Tryz.underlying2;rw [show (10000:Nat)=9999+1 from rfl,run_equalIn_agg w 9999 33 _ _ (by kernel_rfl) (by kernel_rfl)]
 simp only [Program.fieldsOf,Tryz.underlying33]
 go_simp
theorem zeZ (a0 a1 a2 a3 a4 a5 a6 a7 a8 b0 b1 b2 b3 b4 b5 b6 b7 b8:Int) (h:¬ (a0=b0∧a1=b1∧a2=b2∧a3=b3∧a4=b4∧a5=b5∧a6=b6∧a7=b7∧a8=b8)) (w:World):(Op.equalIn 10000 33 (.agg #[.int .i64 a0,.int .i64 a1,.int .i64 a2,.int .i64 a3,.int .i64 a4,.int .i64 a5,.int .i64 a6,.int .i64 a7,.int .i64 a8]) (.agg #[.int .i64 b0,.int .i64 b1,.int .i64 b2,.int .i64 b3,.int .i64 b4,.int .i64 b5,.int .i64 b6,.int .i64 b7,.int .i64 b8])).run Tryz.prog w=.ok false w:=by
 have u3:=Tryz.underlying2;rw [show (10000:Nat)=9999+1 from rfl,run_equalIn_agg w 9999 33 _ _ (by kernel_rfl) (by kernel_rfl)]
 simp only [Program.fieldsOf,Tryz.underlying33]
 have H:=hid h;clear h;go_simp;exact fun h0 h1 h2 h3 h4 h5 h6 h7 h8=>H.out ⟨h0,h1,h2,h3,h4,h5,h6,h7,h8⟩
theorem zha (s:Nat→Int):zaj s↔s 0=zat (s 0) 1 4∧s 1=zat (s 1) 0 2∧s 2=zat (s 2) 1 3∧s 3=zat (s 3) 0 2∧s 4=zat (s 4) 1 6∧s 5=zat (s 5) 1 6∧s 6=zat (s 6) 1 4∧s 7=zat (s 7) 1 6∧s 8=zat (s 8) 0 400:=by
 unfold zaj Shp3 Shp;rw [za6 (s 0) 1 4 (by omega),za6 (s 1) 0 2 (by omega),za6 (s 2) 1 3 (by omega),za6 (s 3) 0 2 (by omega),za6 (s 4) 1 6 (by omega),za6 (s 5) 1 6 (by omega),za6 (s 6) 1 4 (by omega),za6 (s 7) 1 6 (by omega),za6 (s 8) 0 400 (by omega)];omega
theorem zbN (s:Nat→Int) (w:World) :
 Calls Tryz.prog 55 #[zac s] w fun e w'=>∃ x,e=.returned (.int .i64 x)∧zgX s x∧Below w.heap.size w w':=by
 have HK:Hid (zaj s↔s 0=zat (s 0) 1 4∧s 1=zat (s 1) 0 2∧s 2=zat (s 2) 1 3∧s 3=zat (s 3) 0 2∧s 4=zat (s 4) 1 6∧s 5=zat (s 5) 1 6∧s 6=zat (s 6) 1 4∧s 7=zat (s 7) 1 6∧s 8=zat (s 8) 0 400):=zha s;unfold zac;obtain ⟨a0,h0⟩:∃ a,a=s 0:=⟨_,rfl⟩;obtain ⟨a1,h1⟩:∃ a,a=s 1:=⟨_,rfl⟩;obtain ⟨a2,h2⟩:∃ a,a=s 2:=⟨_,rfl⟩;obtain ⟨a3,h3⟩:∃ a,a=s 3:=⟨_,rfl⟩;obtain ⟨a4,h4⟩:∃ a,a=s 4:=⟨_,rfl⟩;obtain ⟨a5,h5⟩:∃ a,a=s 5:=⟨_,rfl⟩;obtain ⟨a6,h6⟩:∃ a,a=s 6:=⟨_,rfl⟩;obtain ⟨a7,h7⟩:∃ a,a=s 7:=⟨_,rfl⟩;obtain ⟨a8,h8⟩:∃ a,a=s 8:=⟨_,rfl⟩;rw [← h0,← h1,← h2,← h3,← h4,← h5,← h6,← h7,← h8]
 have HK2:Hid (zaj s↔a0=zat a0 1 4∧a1=zat a1 0 2∧a2=zat a2 1 3∧a3=zat a3 0 2∧a4=zat a4 1 6∧a5=zat a5 1 6∧a6=zat a6 1 4∧a7=zat a7 1 6∧a8=zat a8 0 400):=by
  show zaj s↔_
  rw [h0,h1,h2,h3,h4,h5,h6,h7,h8];exact HK.out
 clear HK h0 h1 h2 h3 h4 h5 h6 h7 h8;have CN:=zcW a0 a1 a2 a3 a4 a5 a6 a7 a8;have XA:=zax w #[.int .i64 a0,.int .i64 a1,.int .i64 a2,.int .i64 a3,.int .i64 a4,.int .i64 a5,.int .i64 a6,.int .i64 a7,.int .i64 a8] 33;obtain ⟨x0,x1,x2,x3,x4,x5,x6,x7,x8⟩:=box9 XA;have HX:=hid XA;have HB:Hid (Below w.heap.size w (w.alloc (.cells #[.int .i64 a0,.int .i64 a1,.int .i64 a2,.int .i64 a3,.int .i64 a4,.int .i64 a5,.int .i64 a6,.int .i64 a7,.int .i64 a8] 33))):=bnew (Below.refl _ _);obtain ⟨wA,hwA⟩:∃ x,x=w.alloc (.cells #[.int .i64 a0,.int .i64 a1,.int .i64 a2,.int .i64 a3,.int .i64 a4,.int .i64 a5,.int .i64 a6,.int .i64 a7,.int .i64 a8] 33):=⟨_,rfl⟩;rw [← hwA] at x0 x1 x2 x3 x4 x5 x6 x7 x8 HX HB;clear XA
 by_cases ok:zaj s
 ·have HO:=hid ok
  obtain ⟨e0,e1,e2,e3,e4,e5,e6,e7,e8⟩:=HK2.out.mp ok;rw [← e0,← e1,← e2,← e3,← e4,← e5,← e6,← e7,← e8] at CN;have heq:=zep a0 a1 a2 a3 a4 a5 a6 a7 a8;clear e0 e1 e2 e3 e4 e5 e6 e7 e8 ok
  go_enter Tryz.func55,Tryz.ntmps55
  go_wp2_with fail
  rw [← hwA];clear hwA
  go_region_with (go_at_call 82;refine (CN _).mono ?_;rintro ee w2 ⟨rfl,hb2⟩;have hB2:Below wA.heap.size wA w2:=⟨hb2.os,hb2.tape,hb2.output,hb2.size,hb2.block⟩;obtain ⟨y0,y1,y2,y3,y4,y5,y6,y7,y8⟩:=box9 (HX.out.below hB2 HX.out.lt))
  all_goals
   go_wp2;go_ret;exact ⟨0,rfl,.inr ⟨rfl,HO.out⟩,HB.out.trans (hB2.mono HB.out.size)⟩
 ·have HO:=hid ok
  have hno:¬ (a0=zat a0 1 4∧a1=zat a1 0 2∧a2=zat a2 1 3∧a3=zat a3 0 2∧a4=zat a4 1 6∧a5=zat a5 1 6∧a6=zat a6 1 4∧a7=zat a7 1 6∧a8=zat a8 0 400):=fun h=>ok (HK2.out.mpr h);have heq:=zeZ a0 a1 a2 a3 a4 a5 a6 a7 a8 (zat a0 1 4) (zat a1 0 2) (zat a2 1 3) (zat a3 0 2) (zat a4 1 6) (zat a5 1 6) (zat a6 1 4) (zat a7 1 6) (zat a8 0 400) hno;clear hno ok
  go_enter Tryz.func55,Tryz.ntmps55
  go_wp2_with fail
  rw [← hwA];clear hwA
  go_region_with (go_at_call 82;refine (CN _).mono ?_;rintro ee w2 ⟨rfl,hb2⟩;have hB2:Below wA.heap.size wA w2:=⟨hb2.os,hb2.tape,hb2.output,hb2.size,hb2.block⟩;obtain ⟨y0,y1,y2,y3,y4,y5,y6,y7,y8⟩:=box9 (HX.out.below hB2 HX.out.lt))
  all_goals
   go_wp2;go_ret;exact ⟨3,rfl,.inl ⟨rfl,HO.out⟩,HB.out.trans (hB2.mono HB.out.size)⟩
theorem zcD (s:Nat→Int) (h1:1≤s 2) (h2:s 2≤1000) (w:World) :
 Calls Tryz.prog 114 #[zac s] w fun e w'=>e=.returned (.int .i64 (s 2*4))∧Below w.heap.size w w':=by
 unfold zac;obtain ⟨a2,h0⟩:∃ a,a=s 2:=⟨_,rfl⟩;rw [← h0] at h1 h2 ⊢;clear h0;have B0:Below w.heap.size w (w.alloc (.cells #[.int .i64 (s 0),.int .i64 (s 1),.int .i64 a2,.int .i64 (s 3),.int .i64 (s 4),.int .i64 (s 5),.int .i64 (s 6),.int .i64 (s 7),.int .i64 (s 8)] 33)):=bnew (Below.refl _ _)
 go_enter Tryz.func114,Tryz.ntmps114
 go_wp2;go_ret;exact ⟨rfl,B0⟩
theorem zdE (s:Nat→Int) (l:Int) (w:World) :
 Calls Tryz.prog 113 #[zac s,.int .i64 l] w fun e w'=>∃ x c,e=.returned (intR c x)∧zg6 s l x c∧Below w.heap.size w w':=by
 unfold zac
 go_enter Tryz.func113,Tryz.ntmps113
 go_wp2_with fail
 refine (zbN s _).mono ?_;rintro e w1 ⟨x,rfl,hx,B1'⟩;obtain ⟨X1,X2,B1,z1⟩:=zg5 B1';obtain ⟨x0,x1,x2,x3,x4,x5,x6,x7,x8⟩:=box9 X1;obtain ⟨y0,y1,y2,y3⟩:=zc2 X2;have HX:=hid X2;have HX1:=hid X1;clear B1' X1 X2
 rcases hx with ⟨rfl,hx⟩ | ⟨rfl,hx⟩
 ·have HN:=hid hx
  clear hx;go_wp2;exact bodyPost_ret (v:=intR 3 0) (by simp [results,Tryz.results113,go_sem,intR,y0,y1]) rfl ⟨0,3,rfl,.inl ⟨HN.out,rfl,rfl⟩,(B1.setCell (Nat.le_succ _) _).setCell (Nat.le_succ _) _⟩
 ·have HO:=hid hx
  have HD:Hid (1≤s 2∧s 2≤1000):=by show 1≤s 2∧s 2≤1000;have:=hx.2.1;unfold Shp at this;omega
  clear hx;have CL:=zcD s HD.out.1 HD.out.2;unfold zac at CL;have HM:Hid (∀ m,m=(l+s 2*4-1)/(s 2*4)→1≤l→l≤3*(s 2*4)→zg6 s l m 0):=fun m hm h1 h2=>.inr (.inr (.inr ⟨HO.out,h1,h2,rfl,hm⟩));have HM2:Hid (1≤l→3*(s 2*4)<l→zg6 s l 0 2):=fun h1 h2=>.inr (.inr (.inl ⟨HO.out,h1,h2,rfl,rfl⟩));obtain ⟨S,hS⟩:∃ S,S=s 2*4:=⟨_,rfl⟩;rw [← hS] at CL HM HM2
  have q1:4≤S:=by have:=HD.out.1;omega
  have q2:S≤4000:=by have:=HD.out.2;omega
  clear hS
  by_cases c1:l<1
  ·go_wp2
   exact bodyPost_ret (v:=intR 6 0) (by simp [results,Tryz.results113,go_sem,intR,y0,y1]) rfl ⟨0,6,rfl,.inr (.inl ⟨HO.out,c1,rfl,rfl⟩),(B1.setCell (Nat.le_succ _) _).setCell (Nat.le_succ _) _⟩
  ·go_wp2_with fail
   refine (CL _).mono ?_;rintro e w2 ⟨rfl,B2⟩;have z2:=B2.size;have B12:Below w.heap.size w w2:=B1.trans (B2.mono B1.size);have HX2:Hid (Box w2 (w.heap.size+1) #[.int .i64 0,.int .i64 0] 137):=HX.out.below B2 z1;have HY2:Hid (Box w2 w.heap.size (rwS s).toArray 33):=HX1.out.below B2 (by omega);clear x0 x1 x2 x3 x4 x5 x6 x7 x8 y0 y1 y2 y3 B2 HX HX1;obtain ⟨y0,y1,y2,y3⟩:=zc2 HX2.out;obtain ⟨x0,x1,x2,x3,x4,x5,x6,x7,x8⟩:=box9 HY2.out
   by_cases c2:3*S<l
   ·have t2:decide (3*S<l)=true:=by simp;omega
    go_wp2;exact bodyPost_ret (v:=intR 2 0) (by simp [results,Tryz.results113,go_sem,intR,y0,y1]) rfl ⟨0,2,rfl,HM2.out (by omega) c2,(B12.setCell (Nat.le_succ _) _).setCell (Nat.le_succ _) _⟩
   ·have t2:decide (3*S<l)=false:=by simp;omega
    have q3:0≤l+S-1:=by omega
    go_wp2_with fail
    have K0:Hid (Below w2.heap.size w2 w2):=Below.refl _ _
    go_region_with (go_at_call 114;refine (CL _).mono ?_;rintro ee w3 ⟨rfl,hb3⟩;(first | (have hB2:Below w2.heap.size w2 w3:=hB.trans ((⟨hb3.os,hb3.tape,hb3.output,hb3.size,hb3.block⟩:Below _ _ _).mono hB.size);clear hb3;obtain ⟨v0,v1,v2,v3⟩:=zc2 (HX2.out.below hB2 (by omega));obtain ⟨u0,u1,u2,u3,u4,u5,u6,u7,u8⟩:=box9 (HY2.out.below hB2 (by omega))) | (have hB:Below w2.heap.size w2 w3:=⟨hb3.os,hb3.tape,hb3.output,hb3.size,hb3.block⟩;clear hb3;obtain ⟨u0,u1,u2,u3,u4,u5,u6,u7,u8⟩:=box9 (HY2.out.below hB (by omega)))))
    all_goals
     have B4:Below w.heap.size w w3:=B12.trans (hB2.mono B12.size);go_wp2;exact bodyPost_ret (v:=intR 0 ((l+S-1)/S)) (by simp [results,Tryz.results113,go_sem,intR,v0,v1]) rfl ⟨(l+S-1)/S,0,rfl,HM.out _ rfl (by omega) (by omega),(B4.setCell (Nat.le_succ _) _).setCell (Nat.le_succ _) _⟩
theorem zaE {x a b:Int} {t:Bool} (hab:a≤b) (ht:t=true↔InP x a b) (w:World) :
 Calls Tryz.prog 62 #[.int .i64 x,.int .i64 a,.int .i64 b] w fun e w'=>e=.returned (.bool t)∧w'=w:=by
 by_cases h1:a≤x
 ·by_cases h2:x≤b
  ·obtain rfl:t=true:=ht.2 ⟨h1,h2⟩
   clear ht hab
   go_enter Tryz.func62,Tryz.ntmps62
   go_wp2;go_ret;exact ⟨rfl,rfl⟩
  ·obtain rfl:t=false:=by
    cases t with
    | false=>rfl
    | true=>exact absurd (ht.1 rfl).2 h2
   clear ht hab;have hd:decide (x≤b)=false:=decide_eq_false h2
   go_enter Tryz.func62,Tryz.ntmps62
   go_wp2;go_ret;exact ⟨rfl,rfl⟩
 ·obtain rfl:t=false:=by
   cases t with
   | false=>rfl
   | true=>exact absurd (ht.1 rfl).1 h1
  clear ht hab;have hd:decide (a≤x)=false:=decide_eq_false h1
  go_enter Tryz.func62,Tryz.ntmps62
  go_wp2;go_ret;exact ⟨rfl,rfl⟩
theorem zaS (s:Nat→Int) (h:zaj s) (w:World) :
 Calls Tryz.prog 63 #[zac s] w fun e w'=>e=.returned (.int .i64 (s 0+s 1))∧Below w.heap.size w w':=by
 obtain ⟨h1,h2,_⟩:=h;unfold Shp3 at h1;have B0:=(zav w (rwS s).toArray 33).bel;unfold zac
 have hw:-9223372036854775808≤s 0+s 1∧s 0+s 1≤9223372036854775807:=by omega
 go_enter Tryz.func63,Tryz.ntmps63
 go_wp2;go_ret;exact ⟨rfl,B0⟩
theorem zdj (s:Nat→Int) (h:zaj s) (w:World) :
 Calls Tryz.prog 83 #[zac s] w fun e w'=>e=.returned (.int .i64 (s 2+s 3))∧Below w.heap.size w w':=by
 obtain ⟨h1,h2,_⟩:=h;unfold Shp at h2;have B0:=(zav w (rwS s).toArray 33).bel;unfold zac
 have hw:-9223372036854775808≤s 2+s 3∧s 2+s 3≤9223372036854775807:=by omega
 go_enter Tryz.func83,Tryz.ntmps83
 go_wp2;go_ret;exact ⟨rfl,B0⟩
theorem okB {s:Nat→Int} (h:zaj s):1≤s 0∧s 0≤4∧0≤s 1∧s 1≤2∧1≤s 2∧s 2≤3∧0≤s 3∧s 3≤2∧1≤s 4∧s 4≤6∧1≤s 5∧s 5≤6:=by
 obtain ⟨h1,h2,h3,h4,_⟩:=h;unfold Shp3 at h1;unfold Shp at h2;omega
theorem zc9 {s:Nat→Int} (h:zaj s) {x:Int} {t:Bool} (ht:t=true↔InP x 0 (s 0+s 1-1)) (w:World) :
 Calls Tryz.prog 39 #[zac s,.int .i64 x] w fun e w'=>e=.returned (.bool t)∧Below w.heap.size w w':=by
 have hb:=okB h;have C:=zaS s h;have CB:=fun w'=>zaE (w:=w') (show 0≤s 0+s 1-1 by omega) ht;have T0:=zav w (rwS s).toArray 33;unfold zac at C ⊢;clear ht h
 go_enter Tryz.func39,Tryz.ntmps39
 go_wp2_with fail
 refine (C _).mono ?_;rintro e w1 ⟨rfl,b1⟩;have HB:Hid (Below w.heap.size w w1):=(T0.call b1).bel;clear b1 T0 C
 go_wp2_with fail
 refine (CB _).mono ?_;rintro e w2 ⟨rfl,hw2⟩;obtain rfl:=hw2.symm;go_wp2;go_ret;exact ⟨rfl,HB.out⟩
theorem zdF {s:Nat→Int} (h:zaj s) {x:Int} {t:Bool} (ht:t=true↔InP x 0 (s 0-1)) (w:World) :
 Calls Tryz.prog 109 #[zac s,.int .i64 x] w fun e w'=>e=.returned (.bool t)∧Below w.heap.size w w':=by
 have hb:=okB h;have CB:=fun w'=>zaE (w:=w') (show 0≤s 0-1 by omega) ht;have HB:Hid (Below w.heap.size w (w.alloc (.cells (rwS s).toArray 33))):=(zav w (rwS s).toArray 33).bel;unfold zac;clear ht h
 go_enter Tryz.func109,Tryz.ntmps109
 go_wp2_with fail
 refine (CB _).mono ?_;rintro e w2 ⟨rfl,hw2⟩;obtain rfl:=hw2.symm;go_wp2;go_ret;exact ⟨rfl,HB.out⟩
theorem zgt {s:Nat→Int} (h:zaj s) {x:Int} {t:Bool} (ht:t=true↔InP x 0 (s 4-1)) (w:World) :
 Calls Tryz.prog 110 #[zac s,.int .i64 x] w fun e w'=>e=.returned (.bool t)∧Below w.heap.size w w':=by
 have hb:=okB h;have CB:=fun w'=>zaE (w:=w') (show 0≤s 4-1 by omega) ht;have HB:Hid (Below w.heap.size w (w.alloc (.cells (rwS s).toArray 33))):=(zav w (rwS s).toArray 33).bel;unfold zac;clear ht h
 go_enter Tryz.func110,Tryz.ntmps110
 go_wp2_with fail
 refine (CB _).mono ?_;rintro e w2 ⟨rfl,hw2⟩;obtain rfl:=hw2.symm;go_wp2;go_ret;exact ⟨rfl,HB.out⟩
theorem zda {s:Nat→Int} (h:zaj s) {ao:Option Addr} {n cap:Nat} (hn:n≤9223372036854775807) {t:Bool} (ht:((n:Int)==s 2*4)=t) (w:World) :
 Calls Tryz.prog 111 #[zac s,.slice ao n cap] w fun e w'=>e=.returned (.bool t)∧Below w.heap.size w w':=by
 have hb:=okB h;have C:=fun w'=>zcD s (by omega) (by omega) w';have T0:=zav w (rwS s).toArray 33;unfold zac at C ⊢;clear h
 go_enter Tryz.func111,Tryz.ntmps111
 go_wp2_with fail
 refine (C _).mono ?_;rintro e w1 ⟨rfl,b1⟩;have HB:Hid (Below w.heap.size w w1):=(T0.call b1).bel;clear b1 T0 C;go_wp2;go_ret;exact ⟨by simp [ht],HB.out⟩
theorem zbV (
 v:Value) (n:Nat) (g:Nat→Int) (hi:Nat) (bound:Int) (hb1:1≤bound) (hb2:bound≤1000000) (w:World) (r:RdI w hi v n g) (hcp:CapP v n) (hhi:hi≤w.heap.size) :
 Calls Tryz.prog 85 #[v,.int .i64 bound] w (za8 (zbj n g (bound-1)) w):=by
 have HR:=hid r;obtain ⟨ao,cap,rfl,hm,hc⟩:=r;obtain ⟨_,_,e,hcp⟩:=hcp
 cases e
 unfold maxLen at hm
 go_enter Tryz.func85,Tryz.ntmps85
 go_wp2
 go_loopw [9] (fun i wr=>∃ k:Nat,k≤n∧i=.int .i64 k∧zbj k g (bound-1)∧Below w.heap.size w wr) (fun i _=>n-(intOf i).toNat)
 case atStart=>exact ⟨0,Nat.zero_le _,rfl,fun i hi=>by omega,Below.refl _ _⟩
 case round=>
  obtain ⟨k,hk,rfl,hall,hb⟩:=hrel;have HALL:=hid hall;clear hall
  by_cases hlt:k<n
  ·obtain ⟨b,off,rfl,hblt,hcell⟩:=hc (by omega)
   have hck:wr.cell? ⟨b,off+k,none⟩=some (.int .i64 (g k)):=(hb.cell (p:=⟨b,off+k,none⟩) (by show b<w.heap.size;omega)).trans (hcell k hlt)
   have kcp:k≤cap:=by omega
   obtain ⟨t1,h1⟩:=exB (InP (g k) 0 (bound-1));obtain ⟨t2,h2⟩:=exB (∃ t,t<k∧g t=g k);have C1:=fun w'=>zaE (w:=w') (show 0≤bound-1 by omega) h1;have C2:=za9 (zeo (.slice (some ⟨b,off,none⟩) k cap) k g hi (g k) wr ((HR.out.part hk (by omega)).below hb hhi)) h2;have H1:=hid h1;have H2:=hid h2;obtain ⟨y,hy⟩:∃ y,y=g k:=⟨_,rfl⟩;have HY:=hid hy;rw [← hy] at hck C1 C2;have HB:=hid hb;clear hc hcell h1 h2 hy hb
   go_wp2_with fail
   refine (C1 _).mono ?_;rintro e w' ⟨rfl,hw'⟩;obtain rfl:=hw'.symm;clear C1
   cases t1 with
   | false=>
    go_wp2;go_ret
    exact zal rfl (fun h=>by
     have:=H1.out.2 (h k hlt).1
     simp at this) HB.out
   | true=>
    go_wp2_with fail
    refine C2.mono ?_;rintro e w2 ⟨rfl,b2⟩;have HB2:=hid (HB.out.trans (b2.mono HB.out.size));clear b2 C2
    cases t2 with
    | true=>
     go_wp2;go_ret
     exact zal rfl (fun h=>by
      obtain ⟨t,ht,e⟩:=H2.out.1 (by simp)
      exact (h k hlt).2 t ht e) HB2.out
    | false=>
     go_wp2
     go_roundw
     case rel=>exact ⟨k+1,by omega,by go_num,fun i hi=>by
      by_cases c:i=k
      ·subst c
       exact ⟨H1.out.1 (by simp),fun t ht e=>by
        have:=H2.out.2 ⟨t,ht,e⟩
        simp at this⟩
      ·exact HALL.out i (by omega),HB2.out⟩
     case measure=>simp [intOf];omega
  ·obtain rfl:k=n:=by omega
   go_wp2;go_ret;exact zas rfl HALL.out hb
theorem zdG (b:BlockD) (ao:Option Addr) (cap:Nat) (w:World) :
 Calls Tryz.prog 97 #[.agg #[.int .i64 b.stamp,.slice ao b.bytes.1 cap]] w (za8 (zcj b) w):=by
 obtain ⟨t1,h1⟩:=exB (InP b.stamp 0 1000000000);obtain ⟨b2,h2⟩:∃ x,((b.bytes.1:Int)==4)=x:=⟨_,rfl⟩
 have HE:Hid (zcj b↔(t1=true∧b2=true)):=by
  show zcj b↔_
  rw [h1,← h2];unfold zcj
  simp
  intro _;omega
 have C1:=fun w'=>zaE (w:=w') (show (0:Int)≤1000000000 by omega) h1;have HB:Hid (Below w.heap.size w (w.alloc (.cells #[.int .i64 b.stamp,.slice ao b.bytes.1 cap] 112))):=(Below.refl _ _).alloc (Nat.le_refl _) _;clear h1
 go_enter Tryz.func97,Tryz.ntmps97
 go_wp2_with fail
 refine (C1 _).mono ?_;rintro e w' ⟨rfl,hw'⟩;obtain rfl:=hw'.symm;clear C1
 cases t1 with
 | false=>
  go_wp2;go_ret;exact zal rfl (fun h=>by have:=HE.out.1 h;simp at this) HB.out
 | true=>
  cases b2 with
  | false=>
   go_wp2;go_ret;exact zal rfl (fun h=>by have:=HE.out.1 h;simp at this) HB.out
  | true=>
   go_wp2;go_ret;exact zas rfl (HE.out.2 (by simp)) HB.out
theorem zdH (s:Nat→Int) (hs:zaj s) (p:Nat×(Nat→BlockD)) (t:TypeId) (v:Value) (hi:Nat) (w:World) (h:(zak.slice t).rd w hi p [v]) (hhi:hi≤w.heap.size) :
 Calls Tryz.prog 84 #[zac s,v] w (za8 (zc7 s p) w):=by
 obtain ⟨ao,cap,e,hm,hc⟩:=h
 cases e
 unfold maxLen at hm;have HC:=hid hc;have HT0:Hid (One w (w.alloc (.cells (rwS s).toArray 33)) (rwS s).toArray 33):=zav w (rwS s).toArray 33;clear hc;unfold zac
 go_enter Tryz.func84,Tryz.ntmps84
 by_cases hl:(p.1:Int)=s 4
 ·have hne:((p.1:Int) != s 4)=false:=by simpa using hl
  have HL:=hid hl;clear hl;go_wp2
  go_loopw [14] (fun i wr=>∃ k:Nat,k≤p.1∧i=.int .i64 k∧(∀ i,i<k→zcj (p.2 i))∧Below w.heap.size w wr) (fun i _=>p.1-(intOf i).toNat)
  case atStart=>exact ⟨0,Nat.zero_le _,rfl,fun i hi=>by omega,HT0.out.bel⟩
  case round=>
   obtain ⟨k,hk,rfl,hal,hb⟩:=hrel;have HAL:=hid hal;have HB:=hid hb;clear hal
   by_cases hlt:k<p.1
   ·obtain ⟨b,off,he,hbl,hel⟩:=HC.out (by omega)
    subst he;obtain ⟨ck,hrk,hcell⟩:=zar (t:=0) hel hb hhi hbl hlt;obtain ⟨ao1,cap1,rfl,-⟩:=zbe hrk;have c0:wr.cell? ⟨b,off+k*2,none⟩=some (.int .i64 (p.2 k).stamp):=hcell 0 (by decide);have c1:wr.cell? ⟨b,off+k*2+1,none⟩=some (.slice ao1 (p.2 k).bytes.1 cap1):=hcell 1 (by decide);have C:=fun w'=>zdG (p.2 k) ao1 cap1 w';clear hel hcell hrk hb
    go_wp2_with fail
    refine (C _).mono ?_;rintro e w2 ⟨t2,rfl,ht2,b2⟩;have HB2:Hid (Below w.heap.size w w2):=HB.out.trans ((bnew b2).mono HB.out.size);have HT2:=hid ht2;clear C b2 ht2
    cases t2 with
    | false=>
     go_wp2;go_ret;exact zal rfl (fun h=>by have:=HT2.out.2 (h.2 k hlt);simp at this) HB2.out
    | true=>
     go_wp2
     go_roundw
     case rel=>exact ⟨k+1,by omega,by go_num,fun i hi=>by
      by_cases c:i=k
      ·subst c;exact HT2.out.1 (by simp)
      ·exact HAL.out i (by omega),HB2.out⟩
     case measure=>simp [intOf];omega
   ·obtain rfl:k=p.1:=by omega
    go_wp2;go_ret;exact zas rfl ⟨HL.out,HAL.out⟩ hb
 ·have hne:((p.1:Int) != s 4)=true:=by simpa using hl
  have HN:=hid hl;clear hl;go_wp2;go_ret;exact zal rfl (fun h=>HN.out h.1) HT0.out.bel
theorem zeq (wp:Bool) (n:Nat) (hn:n≤9223372036854775807) (ao:Option Addr) (cap:Nat) (w:World) :
 Calls Tryz.prog 59 #[.agg #[.bool wp,.slice ao n cap]] w (za8 (200<n) w):=by
 obtain ⟨P,hP⟩:∃ P:Prop,P=(200<n):=⟨_,rfl⟩;have HB:Hid (Below w.heap.size w (w.alloc (.cells #[.bool wp,.slice ao n cap] 77))):=(Below.refl _ _).alloc (Nat.le_refl _) _;have HP:=hid hP;rw [← hP];clear hP
 by_cases h:200<n
 ·have h1:decide (200<(n:Int))=true:=by simp;omega
  go_enter Tryz.func59,Tryz.ntmps59
  go_wp2;go_ret;exact zas (by simp [h1]) (by rw [HP.out];exact h) HB.out
 ·have h1:decide (200<(n:Int))=false:=by simp;omega
  go_enter Tryz.func59,Tryz.ntmps59
  go_wp2;go_ret;exact zal (by simp [h1]) (by rw [HP.out];exact h) HB.out
theorem zdI (wp:Bool) (n:Nat) (hn:n≤9223372036854775807) (ao:Option Addr) (cap:Nat) (w:World) :
 Calls Tryz.prog 61 #[.agg #[.bool wp,.slice ao n cap]] w (za8 (wp=true∧0<n) w):=by
 obtain ⟨P,hP⟩:∃ P:Prop,P=(wp=true∧0<n):=⟨_,rfl⟩;have HB:Hid (Below w.heap.size w (w.alloc (.cells #[.bool wp,.slice ao n cap] 77))):=(Below.refl _ _).alloc (Nat.le_refl _) _;have HP:=hid hP;rw [← hP];clear hP
 cases wp with
 | false=>
  go_enter Tryz.func61,Tryz.ntmps61
  go_wp2;go_ret;exact zal rfl (by rw [HP.out];simp) HB.out
 | true=>
  by_cases h:0<n
  ·have h1:decide (0<(n:Int))=true:=by simp;omega
   go_enter Tryz.func61,Tryz.ntmps61
   go_wp2;go_ret;exact zas (by simp [h]) (by rw [HP.out];exact ⟨by simp,h⟩) HB.out
  ·have h1:decide (0<(n:Int))=false:=by simp;omega
   go_enter Tryz.func61,Tryz.ntmps61
   go_wp2;go_ret;exact zal (by simp [h]) (by rw [HP.out];exact fun x=>h x.2) HB.out
end Go.Proofs.YtkmglpaaeogapaaGreat
