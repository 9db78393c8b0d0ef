/- Walk of the specification's RecFault. -/
import Derived.Test.YtaldlfoochmfcaaGreatZPoldbyac
import Derived.Deep.Cut
import Derived.Test.YtaldlfoochmfcaaGreatZPoldbyaa
import Derived.Deep.RegionLaw
import Derived.Deep.DeepCutAuto
import Derived.Laws.Tables
import Derived.Laws.Rows
import Derived.Test.YtaldlfoochmfcaaGreatZPoldbyab
import Derived.Laws.CopyOwn
import Derived.Maps.AppendAt
import Derived.BigQuiet
import Derived.Deep.QuietTactic
import Derived.StillTailTactics
import Derived.Lib.MinMax
import Derived.Laws.StructEq
import Derived.BigRegion
set_option linter.unusedVariables false
set_option linter.unusedSimpArgs false
namespace Go.Proofs.YtaldlfoochmfcaaGreat
open Go.RowKit F256
def RecPost (s:Nat → Int) (r:RecD) (w:World) (e:Ending) (w':World):Prop:=∃ x,e = .returned (.int .i64 x) ∧ RecAns s r x ∧ Below w.heap.size w w'
theorem recP {s:Nat → Int} {r:RecD} {w:World} {e:Ending} {w':World} {x:Int} (he:e = .returned (.int .i64 x)) (h:RecAns s r x) (hb:Below w.heap.size w w'):RecPost s r w e w':=⟨x,he,h,hb⟩
theorem exBT {P:Prop} (h:P):true = true ↔ P:=⟨fun _ => h,fun _ => rfl⟩
theorem exBF {P:Prop} (h:¬ P):false = true ↔ P:=⟨fun h => (by cases h),fun hh => absurd hh h⟩
set_option maxHeartbeats 16000000 in
set_option maxRecDepth 20000 in
theorem specRec_any (s:Nat → Int) (r:RecD) (cs:List Value) (hi:Nat) (w:World) (h:layRec.rd w hi r cs) (hhi:hi ≤ w.heap.size) (hnm:r.name.size ≤ 1048576) :
    Calls Tryz.prog 67 #[shapeV s,.agg cs.toArray] w (RecPost s r w):=by
  obtain ⟨kind,seq,name,length,group,row,rows,data,delta⟩:=r;obtain ⟨ao6,cap6,ao7,cap7,ao8,cap8,rfl,g6,g7,g8,k0,k1,k2,k3,k4,k5⟩:=Rec_rd h;have HRD:Hid (layRec.rd w hi ⟨kind,seq,name,length,group,row,rows,data,delta⟩ [.int .i64 kind,.int .i64 seq,.string name,.int .i64 length,.int .i64 group,.int .i64 row,.slice ao6 rows.1 cap6,.slice ao7 data.1 cap7,.slice ao8 delta.1 cap8]):=h;obtain ⟨v6,e6,⟨h6,hcp6⟩,_⟩:=g6
  cases e6
  have H6:Hid (RdI w hi (.slice ao6 rows.1 cap6) rows.1 rows.2):=h6;have hm6:rows.1 ≤ maxLen:=h6.mx;obtain ⟨v7,e7,⟨_,_,e7',hm7,_⟩,_⟩:=g7
  cases e7
  cases e7'
  obtain ⟨v8,e8,⟨_,_,e8',hm8,_⟩,_⟩:=g8
  cases e8
  cases e8'
  unfold maxLen at hm6 hm7 hm8
  simp only at k0 k1 k2 k3 k4 k5 hm6 hm7 hm8 hnm
  clear h h6 hcp6;have T0:=two_newb w #[.int .i64 (s 0),.int .i64 (s 1),.int .i64 (s 2),.int .i64 (s 3),.int .i64 (s 4),.int .i64 (s 5),.int .i64 (s 6),.int .i64 (s 7),.int .i64 (s 8)] #[.int .i64 kind,.int .i64 seq,.string name,.int .i64 length,.int .i64 group,.int .i64 row,.slice ao6 rows.1 cap6,.slice ao7 data.1 cap7,.slice ao8 delta.1 cap8] 34 110;have CSh:=fun w' => specShape_any s w';unfold shapeV at CSh ⊢
  go_enter Tryz.func67,Tryz.ntmps67
  go_wp2_with fail
  refine (CSh _).mono ?_;rintro e w1 ⟨x,rfl,hx,b1⟩;have T1:Two w w1 #[.int .i64 (s 0),.int .i64 (s 1),.int .i64 (s 2),.int .i64 (s 3),.int .i64 (s 4),.int .i64 (s 5),.int .i64 (s 6),.int .i64 (s 7),.int .i64 (s 8)] #[.int .i64 kind,.int .i64 seq,.string name,.int .i64 length,.int .i64 group,.int .i64 row,.slice ao6 rows.1 cap6,.slice ao7 data.1 cap7,.slice ao8 delta.1 cap8] 34 110:=T0.call b1;have HT1:Hid (Two w w1 #[.int .i64 (s 0),.int .i64 (s 1),.int .i64 (s 2),.int .i64 (s 3),.int .i64 (s 4),.int .i64 (s 5),.int .i64 (s 6),.int .i64 (s 7),.int .i64 (s 8)] #[.int .i64 kind,.int .i64 seq,.string name,.int .i64 length,.int .i64 group,.int .i64 row,.slice ao6 rows.1 cap6,.slice ao7 data.1 cap7,.slice ao8 delta.1 cap8] 34 110):=T1;have z1:w.heap.size + 1 < w1.heap.size:=T1.b2.lt;clear b1 T0 CSh;have x1_0:w1.cell? ⟨w.heap.size,0,none⟩ = some (.int .i64 (s 0)):=T1.b1.cell 0;have x1_1:w1.cell? ⟨w.heap.size,1,none⟩ = some (.int .i64 (s 1)):=T1.b1.cell 1;have x1_2:w1.cell? ⟨w.heap.size,2,none⟩ = some (.int .i64 (s 2)):=T1.b1.cell 2;have x1_3:w1.cell? ⟨w.heap.size,3,none⟩ = some (.int .i64 (s 3)):=T1.b1.cell 3;have x1_4:w1.cell? ⟨w.heap.size,4,none⟩ = some (.int .i64 (s 4)):=T1.b1.cell 4;have x1_5:w1.cell? ⟨w.heap.size,5,none⟩ = some (.int .i64 (s 5)):=T1.b1.cell 5;have x1_6:w1.cell? ⟨w.heap.size,6,none⟩ = some (.int .i64 (s 6)):=T1.b1.cell 6;have x1_7:w1.cell? ⟨w.heap.size,7,none⟩ = some (.int .i64 (s 7)):=T1.b1.cell 7;have x1_8:w1.cell? ⟨w.heap.size,8,none⟩ = some (.int .i64 (s 8)):=T1.b1.cell 8;have y1_0:w1.cell? ⟨w.heap.size + 1,0,none⟩ = some (.int .i64 kind):=T1.b2.cell 0;have y1_1:w1.cell? ⟨w.heap.size + 1,1,none⟩ = some (.int .i64 seq):=T1.b2.cell 1;have y1_2:w1.cell? ⟨w.heap.size + 1,2,none⟩ = some (.string name):=T1.b2.cell 2;have y1_3:w1.cell? ⟨w.heap.size + 1,3,none⟩ = some (.int .i64 length):=T1.b2.cell 3;have y1_4:w1.cell? ⟨w.heap.size + 1,4,none⟩ = some (.int .i64 group):=T1.b2.cell 4;have y1_5:w1.cell? ⟨w.heap.size + 1,5,none⟩ = some (.int .i64 row):=T1.b2.cell 5;have y1_6:w1.cell? ⟨w.heap.size + 1,6,none⟩ = some (.slice ao6 rows.1 cap6):=T1.b2.cell 6;have y1_7:w1.cell? ⟨w.heap.size + 1,7,none⟩ = some (.slice ao7 data.1 cap7):=T1.b2.cell 7;have y1_8:w1.cell? ⟨w.heap.size + 1,8,none⟩ = some (.slice ao8 delta.1 cap8):=T1.b2.cell 8;clear T1
  rcases hx with ⟨rfl,hno⟩ | ⟨rfl,hok⟩
  · go_wp2
    go_ret;exact recP rfl (Stair.fall hno) HT1.out.bel
  have HOK:Hid (OkShape s):=hok
  have hsb:1 ≤ s 0 ∧ s 0 ≤ 4 ∧ 0 ≤ s 1 ∧ s 1 ≤ 2 ∧ 1 ≤ s 2 ∧ s 2 ≤ 3 ∧ 1 ≤ s 4 ∧ s 4 ≤ 6:=by
    obtain ⟨h1,h2,h3,_⟩:=hok;unfold Shp3 at h1;unfold Shp at h2;omega
  clear hok
  by_cases hk:InP kind 1 4
  · go_wp2_with fail
    refine (l1In_b (t:=true) (exBT hk) _).mono ?_;rintro e w' ⟨rfl,hw'⟩;obtain rfl:=hw'.symm
    by_cases hq:InP seq 1 1000000000
    · go_wp2_with fail
      refine (l1In_b (t:=true) (exBT hq) _).mono ?_;rintro e w' ⟨rfl,hw'⟩;obtain rfl:=hw'.symm;have HK:Hid (InP kind 1 4):=hk;have HQ:Hid (InP seq 1 1000000000):=hq
      go_upto_region 9 with fail
      have bA:Below w1.heap.size w1 (w1.alloc (.cells #[.int .i64 kind,.int .i64 seq,.string name,.int .i64 length,.int .i64 group,.int .i64 row,.slice ao6 rows.1 cap6,.slice ao7 data.1 cap7,.slice ao8 delta.1 cap8] 110)):=(Below.refl _ _).alloc (Nat.le_refl _) _;have T2:Two w (w1.alloc (.cells #[.int .i64 kind,.int .i64 seq,.string name,.int .i64 length,.int .i64 group,.int .i64 row,.slice ao6 rows.1 cap6,.slice ao7 data.1 cap7,.slice ao8 delta.1 cap8] 110)) #[.int .i64 (s 0),.int .i64 (s 1),.int .i64 (s 2),.int .i64 (s 3),.int .i64 (s 4),.int .i64 (s 5),.int .i64 (s 6),.int .i64 (s 7),.int .i64 (s 8)] #[.int .i64 kind,.int .i64 seq,.string name,.int .i64 length,.int .i64 group,.int .i64 row,.slice ao6 rows.1 cap6,.slice ao7 data.1 cap7,.slice ao8 delta.1 cap8] 34 110:=HT1.out.call bA;have X2:Box (w1.alloc (.cells #[.int .i64 kind,.int .i64 seq,.string name,.int .i64 length,.int .i64 group,.int .i64 row,.slice ao6 rows.1 cap6,.slice ao7 data.1 cap7,.slice ao8 delta.1 cap8] 110)) w1.heap.size #[.int .i64 kind,.int .i64 seq,.string name,.int .i64 length,.int .i64 group,.int .i64 row,.slice ao6 rows.1 cap6,.slice ao7 data.1 cap7,.slice ao8 delta.1 cap8] 110:=box_new _ _ _;obtain ⟨W2,hW2⟩:∃ W2,W2 = w1.alloc (.cells #[.int .i64 kind,.int .i64 seq,.string name,.int .i64 length,.int .i64 group,.int .i64 row,.slice ao6 rows.1 cap6,.slice ao7 data.1 cap7,.slice ao8 delta.1 cap8] 110):=⟨_,rfl⟩;rw [← hW2] at T2 X2 ⊢;have HT2:Hid (Two w W2 #[.int .i64 (s 0),.int .i64 (s 1),.int .i64 (s 2),.int .i64 (s 3),.int .i64 (s 4),.int .i64 (s 5),.int .i64 (s 6),.int .i64 (s 7),.int .i64 (s 8)] #[.int .i64 kind,.int .i64 seq,.string name,.int .i64 length,.int .i64 group,.int .i64 row,.slice ao6 rows.1 cap6,.slice ao7 data.1 cap7,.slice ao8 delta.1 cap8] 34 110):=T2;have HX2:Hid (Box W2 w1.heap.size #[.int .i64 kind,.int .i64 seq,.string name,.int .i64 length,.int .i64 group,.int .i64 row,.slice ao6 rows.1 cap6,.slice ao7 data.1 cap7,.slice ao8 delta.1 cap8] 110):=X2;clear bA hW2 x1_0 y1_0 x1_1 y1_1 x1_2 y1_2 x1_3 y1_3 x1_4 y1_4 x1_5 y1_5 x1_6 y1_6 x1_7 y1_7 x1_8 y1_8;have x2_0:W2.cell? ⟨w.heap.size,0,none⟩ = some (.int .i64 (s 0)):=T2.b1.cell 0;have kx2_0:=cell_regrown x2_0;have x2_1:W2.cell? ⟨w.heap.size,1,none⟩ = some (.int .i64 (s 1)):=T2.b1.cell 1;have kx2_1:=cell_regrown x2_1;have x2_2:W2.cell? ⟨w.heap.size,2,none⟩ = some (.int .i64 (s 2)):=T2.b1.cell 2;have kx2_2:=cell_regrown x2_2;have x2_3:W2.cell? ⟨w.heap.size,3,none⟩ = some (.int .i64 (s 3)):=T2.b1.cell 3;have kx2_3:=cell_regrown x2_3;have x2_4:W2.cell? ⟨w.heap.size,4,none⟩ = some (.int .i64 (s 4)):=T2.b1.cell 4;have kx2_4:=cell_regrown x2_4;have x2_5:W2.cell? ⟨w.heap.size,5,none⟩ = some (.int .i64 (s 5)):=T2.b1.cell 5;have kx2_5:=cell_regrown x2_5;have x2_6:W2.cell? ⟨w.heap.size,6,none⟩ = some (.int .i64 (s 6)):=T2.b1.cell 6;have kx2_6:=cell_regrown x2_6
      have x2_7:W2.cell? ⟨w.heap.size,7,none⟩ = some (.int .i64 (s 7)):=T2.b1.cell 7;have kx2_7:=cell_regrown x2_7;have x2_8:W2.cell? ⟨w.heap.size,8,none⟩ = some (.int .i64 (s 8)):=T2.b1.cell 8;have kx2_8:=cell_regrown x2_8;have y2_0:W2.cell? ⟨w.heap.size + 1,0,none⟩ = some (.int .i64 kind):=T2.b2.cell 0;have ky2_0:=cell_regrown y2_0;have y2_1:W2.cell? ⟨w.heap.size + 1,1,none⟩ = some (.int .i64 seq):=T2.b2.cell 1;have ky2_1:=cell_regrown y2_1;have y2_2:W2.cell? ⟨w.heap.size + 1,2,none⟩ = some (.string name):=T2.b2.cell 2;have ky2_2:=cell_regrown y2_2;have y2_3:W2.cell? ⟨w.heap.size + 1,3,none⟩ = some (.int .i64 length):=T2.b2.cell 3;have ky2_3:=cell_regrown y2_3;have y2_4:W2.cell? ⟨w.heap.size + 1,4,none⟩ = some (.int .i64 group):=T2.b2.cell 4;have ky2_4:=cell_regrown y2_4;have y2_5:W2.cell? ⟨w.heap.size + 1,5,none⟩ = some (.int .i64 row):=T2.b2.cell 5;have ky2_5:=cell_regrown y2_5;have y2_6:W2.cell? ⟨w.heap.size + 1,6,none⟩ = some (.slice ao6 rows.1 cap6):=T2.b2.cell 6;have ky2_6:=cell_regrown y2_6;have y2_7:W2.cell? ⟨w.heap.size + 1,7,none⟩ = some (.slice ao7 data.1 cap7):=T2.b2.cell 7;have ky2_7:=cell_regrown y2_7;have y2_8:W2.cell? ⟨w.heap.size + 1,8,none⟩ = some (.slice ao8 delta.1 cap8):=T2.b2.cell 8;have ky2_8:=cell_regrown y2_8;have z2_0:W2.cell? ⟨w1.heap.size,0,none⟩ = some (.int .i64 kind):=X2.cell 0;have f2_0:W2.frozen? ⟨w1.heap.size,0,none⟩ = false:=X2.frozen 0;have z2_1:W2.cell? ⟨w1.heap.size,1,none⟩ = some (.int .i64 seq):=X2.cell 1;have f2_1:W2.frozen? ⟨w1.heap.size,1,none⟩ = false:=X2.frozen 1;have z2_2:W2.cell? ⟨w1.heap.size,2,none⟩ = some (.string name):=X2.cell 2;have f2_2:W2.frozen? ⟨w1.heap.size,2,none⟩ = false:=X2.frozen 2;have z2_3:W2.cell? ⟨w1.heap.size,3,none⟩ = some (.int .i64 length):=X2.cell 3;have f2_3:W2.frozen? ⟨w1.heap.size,3,none⟩ = false:=X2.frozen 3;have z2_4:W2.cell? ⟨w1.heap.size,4,none⟩ = some (.int .i64 group):=X2.cell 4;have f2_4:W2.frozen? ⟨w1.heap.size,4,none⟩ = false:=X2.frozen 4;have z2_5:W2.cell? ⟨w1.heap.size,5,none⟩ = some (.int .i64 row):=X2.cell 5;have f2_5:W2.frozen? ⟨w1.heap.size,5,none⟩ = false:=X2.frozen 5;have z2_6:W2.cell? ⟨w1.heap.size,6,none⟩ = some (.slice ao6 rows.1 cap6):=X2.cell 6;have f2_6:W2.frozen? ⟨w1.heap.size,6,none⟩ = false:=X2.frozen 6;have z2_7:W2.cell? ⟨w1.heap.size,7,none⟩ = some (.slice ao7 data.1 cap7):=X2.cell 7;have f2_7:W2.frozen? ⟨w1.heap.size,7,none⟩ = false:=X2.frozen 7;have z2_8:W2.cell? ⟨w1.heap.size,8,none⟩ = some (.slice ao8 delta.1 cap8):=X2.cell 8;have f2_8:W2.frozen? ⟨w1.heap.size,8,none⟩ = false:=X2.frozen 8;clear T2 X2
      have hk4:kind = 1 ∨ kind = 2 ∨ kind = 3 ∨ kind = 4:=by unfold InP at hk;omega
      have ws0:IntKind.i64.wrap (s 0 - 1) = s 0 - 1:=by rw [IntKind.wrap_i64];omega
      have ws4:IntKind.i64.wrap (s 4 - 1) = s 4 - 1:=by rw [IntKind.wrap_i64];omega
      have wsA:IntKind.i64.wrap (s 0 + s 1 - 1) = s 0 + s 1 - 1:=by rw [IntKind.wrap_i64];omega
      clear hk hq
      rcases hk4 with rfl | rfl | rfl | rfl
      · go_wp2_with fail
        refine (specName_any name hnm _).mono ?_;rintro e w' ⟨x,rfl,hx,hw'⟩;obtain rfl:=hw'.symm
        rcases hx with ⟨rfl,hno⟩ | ⟨rfl,hyes⟩
        · go_wp2
          go_ret;exact recP rfl (Stair.pass HOK.out (Stair.pass HK.out (Stair.pass HQ.out (Stair.fall (fun h => hno (h rfl)))))) HT2.out.bel
        · have HN:Hid (NamedP ⟨1,seq,name,length,group,row,rows,data,delta⟩):=fun _ => hyes
          clear hyes;obtain ⟨t3,h3⟩:=exB (ItemP s ⟨1,seq,name,length,group,row,rows,data,delta⟩);have CI:=det_b (l5Item_any s HOK.out ⟨1,seq,name,length,group,row,rows,data,delta⟩ _ hi W2 (layRec.rd_below HRD.out HT2.out.bel hhi) (Nat.le_trans hhi HT2.out.bel.size)) h3;unfold shapeV at CI
          go_wp2_with fail
          refine CI.mono ?_;rintro e w3 ⟨rfl,b3⟩;have X3:Box w3 w1.heap.size #[.int .i64 1,.int .i64 seq,.string name,.int .i64 length,.int .i64 group,.int .i64 row,.slice ao6 rows.1 cap6,.slice ao7 data.1 cap7,.slice ao8 delta.1 cap8] 110:=HX2.out.call b3;have HB3:Hid (Below w.heap.size w w3):=(HT2.out.call b3).bel;have z3_0:w3.cell? ⟨w1.heap.size,0,none⟩ = some (.int .i64 1):=X3.cell 0;have f3_0:w3.frozen? ⟨w1.heap.size,0,none⟩ = false:=X3.frozen 0;have z3_1:w3.cell? ⟨w1.heap.size,1,none⟩ = some (.int .i64 seq):=X3.cell 1;have f3_1:w3.frozen? ⟨w1.heap.size,1,none⟩ = false:=X3.frozen 1;have z3_2:w3.cell? ⟨w1.heap.size,2,none⟩ = some (.string name):=X3.cell 2;have f3_2:w3.frozen? ⟨w1.heap.size,2,none⟩ = false:=X3.frozen 2;have z3_3:w3.cell? ⟨w1.heap.size,3,none⟩ = some (.int .i64 length):=X3.cell 3;have f3_3:w3.frozen? ⟨w1.heap.size,3,none⟩ = false:=X3.frozen 3;have z3_4:w3.cell? ⟨w1.heap.size,4,none⟩ = some (.int .i64 group):=X3.cell 4;have f3_4:w3.frozen? ⟨w1.heap.size,4,none⟩ = false:=X3.frozen 4;have z3_5:w3.cell? ⟨w1.heap.size,5,none⟩ = some (.int .i64 row):=X3.cell 5;have f3_5:w3.frozen? ⟨w1.heap.size,5,none⟩ = false:=X3.frozen 5;have z3_6:w3.cell? ⟨w1.heap.size,6,none⟩ = some (.slice ao6 rows.1 cap6):=X3.cell 6;have f3_6:w3.frozen? ⟨w1.heap.size,6,none⟩ = false:=X3.frozen 6;have z3_7:w3.cell? ⟨w1.heap.size,7,none⟩ = some (.slice ao7 data.1 cap7):=X3.cell 7;have f3_7:w3.frozen? ⟨w1.heap.size,7,none⟩ = false:=X3.frozen 7;have z3_8:w3.cell? ⟨w1.heap.size,8,none⟩ = some (.slice ao8 delta.1 cap8):=X3.cell 8;have f3_8:w3.frozen? ⟨w1.heap.size,8,none⟩ = false:=X3.frozen 8;clear X3 b3;clear x2_0 kx2_0 y2_0 ky2_0 z2_0 f2_0 x2_1 kx2_1 y2_1 ky2_1 z2_1 f2_1 x2_2 kx2_2 y2_2 ky2_2 z2_2 f2_2 x2_3 kx2_3 y2_3 ky2_3 z2_3 f2_3 x2_4 kx2_4 y2_4 ky2_4 z2_4 f2_4 x2_5 kx2_5 y2_5 ky2_5 z2_5 f2_5 x2_6 kx2_6 y2_6 ky2_6 z2_6 f2_6 x2_7 kx2_7 y2_7 ky2_7 z2_7 f2_7 x2_8 kx2_8 y2_8 ky2_8 z2_8 f2_8 CI;have H3:Hid (t3 = true ↔ ItemP s ⟨1,seq,name,length,group,row,rows,data,delta⟩):=h3;clear h3
          cases t3 with
          | false =>
            go_wp2;go_ret
            exact recP rfl (Stair.pass HOK.out (Stair.pass HK.out (Stair.pass HQ.out (Stair.pass HN.out (Stair.fall (fun h => by
              have:ItemP s ⟨1,seq,name,length,group,row,rows,data,delta⟩:=by
                unfold KindP at h
                simpa using h
              have:=H3.out.2 this
              simp at this)))))) HB3.out
          | true =>
            have HKP:Hid (KindP s ⟨1,seq,name,length,group,row,rows,data,delta⟩):=.inl ⟨rfl,H3.out.1 (by simp)⟩
            go_wp2_with fail
            refine (l5Empty_any _ _ _ _ _ _ _ _ _ _ _ _ _ _ _ _).mono ?_;rintro e w9 ⟨t9,rfl,ht9,b9⟩
            have HB9:Hid (Below w.heap.size w w9):=by
              show Below w.heap.size w w9
              refine Below.trans ?_ (b9.mono ?_)
              · repeat (refine below_set ?_ (by omega))
                exact HB3.out
              · simp
                exact HB3.out.size
            clear b9
            have HT9:Hid (t9 = true ↔ BlankP ⟨1,seq,name,length,group,row,rows,data,delta⟩):=by
              show t9 = true ↔ BlankP ⟨1,seq,name,length,group,row,rows,data,delta⟩
              rw [ht9];unfold EmptyQ BlankP noName
              simp [and_assoc]
              try (intros;rfl)
            clear ht9
            cases t9 with
            | false =>
              go_wp2;go_ret;exact recP rfl (Stair.pass HOK.out (Stair.pass HK.out (Stair.pass HQ.out (Stair.pass HN.out (Stair.pass HKP.out (Stair.fall (fun h => by have:=HT9.out.2 h;simp at this))))))) HB9.out
            | true =>
              go_wp2;go_ret;exact recP rfl (Stair.pass HOK.out (Stair.pass HK.out (Stair.pass HQ.out (Stair.pass HN.out (Stair.pass HKP.out (Stair.pass (HT9.out.1 (by simp)) (Stair.last rfl))))))) HB9.out
      · have HN:Hid (NamedP ⟨2,seq,name,length,group,row,rows,data,delta⟩):=fun h => by simp at h
        obtain ⟨t1,h1⟩:=exB (InP group 0 (s 0 - 1));obtain ⟨t2,h2⟩:=exB (InP row 0 (s 4 - 1));obtain ⟨b3',h3⟩:∃ b,((data.1:Int) != s 2 * 4) = b:=⟨_,rfl⟩;obtain ⟨b4',h4⟩:∃ b,((delta.1:Int) != s 2 * 4) = b:=⟨_,rfl⟩;have cG:=q_same (W:=W2) (fun w' => l1In_b h1 w');have cR:=q_same (W:=W2) (fun w' => l1In_b h2 w');have cW:=q_below (W:=W2) (fun w' _ => l4Wide_any s (by omega) (by omega) w');unfold shapeV at cW
        have HE:Hid (KindP s ⟨2,seq,name,length,group,row,rows,data,delta⟩ ↔ (t1 = true ∧ t2 = true ∧ b3' = false ∧ b4' = false)):=by
          show KindP s ⟨2,seq,name,length,group,row,rows,data,delta⟩ ↔ _
          rw [h1,h2,← h3,← h4];unfold KindP MoveP
          simp
        have hst:(t1 = false) ∨ (t1 = true ∧ t2 = false) ∨ (t1 = true ∧ t2 = true ∧ b3' = true) ∨ (t1 = true ∧ t2 = true ∧ b3' = false ∧ b4' = true) ∨ (t1 = true ∧ t2 = true ∧ b3' = false ∧ b4' = false):=by
          clear HE h1 h2 h3 h4 cG cR
          cases t1 <;> simp
          cases t2 <;> simp
          cases b3' <;> simp
        clear h1 h2;go_wp2
        rcases hst with rfl | ⟨rfl,rfl⟩ | ⟨rfl,rfl,rfl⟩ | ⟨rfl,rfl,rfl,rfl⟩ | ⟨rfl,rfl,rfl,rfl⟩
        all_goals
          refine WQ.region (by kernel_rfl) (by kernel_rfl) ?_
          repeat (first | (apply WQ.skip;(case hw => rfl);intro K hK;go_simp;apply hK;clear hK K) | (apply WQ.want;(case hw => rfl);intro K hK;go_simp;first | (apply hK;clear hK K) | (apply Exists.intro;apply And.intro;(case left => intro p;(first | (go_at_call_of 43 (Value.int .i64 group);exact cG _ _) | (go_at_call_of 43 (Value.int .i64 row);exact cR _ _) | (go_at_call 44;exact cW _ _)));apply hK;clear hK K)))
          refine WQ.nil ?_;intro w3 hw3;have b3:=below_rg hw3;have X3:Box w3 w1.heap.size #[.int .i64 2,.int .i64 seq,.string name,.int .i64 length,.int .i64 group,.int .i64 row,.slice ao6 rows.1 cap6,.slice ao7 data.1 cap7,.slice ao8 delta.1 cap8] 110:=HX2.out.call b3;have HB3:Hid (Below w.heap.size w w3):=(HT2.out.call b3).bel;have z3_0:w3.cell? ⟨w1.heap.size,0,none⟩ = some (.int .i64 2):=X3.cell 0;have f3_0:w3.frozen? ⟨w1.heap.size,0,none⟩ = false:=X3.frozen 0;have z3_1:w3.cell? ⟨w1.heap.size,1,none⟩ = some (.int .i64 seq):=X3.cell 1;have f3_1:w3.frozen? ⟨w1.heap.size,1,none⟩ = false:=X3.frozen 1;have z3_2:w3.cell? ⟨w1.heap.size,2,none⟩ = some (.string name):=X3.cell 2;have f3_2:w3.frozen? ⟨w1.heap.size,2,none⟩ = false:=X3.frozen 2;have z3_3:w3.cell? ⟨w1.heap.size,3,none⟩ = some (.int .i64 length):=X3.cell 3;have f3_3:w3.frozen? ⟨w1.heap.size,3,none⟩ = false:=X3.frozen 3;have z3_4:w3.cell? ⟨w1.heap.size,4,none⟩ = some (.int .i64 group):=X3.cell 4;have f3_4:w3.frozen? ⟨w1.heap.size,4,none⟩ = false:=X3.frozen 4;have z3_5:w3.cell? ⟨w1.heap.size,5,none⟩ = some (.int .i64 row):=X3.cell 5;have f3_5:w3.frozen? ⟨w1.heap.size,5,none⟩ = false:=X3.frozen 5;have z3_6:w3.cell? ⟨w1.heap.size,6,none⟩ = some (.slice ao6 rows.1 cap6):=X3.cell 6;have f3_6:w3.frozen? ⟨w1.heap.size,6,none⟩ = false:=X3.frozen 6;have z3_7:w3.cell? ⟨w1.heap.size,7,none⟩ = some (.slice ao7 data.1 cap7):=X3.cell 7;have f3_7:w3.frozen? ⟨w1.heap.size,7,none⟩ = false:=X3.frozen 7;have z3_8:w3.cell? ⟨w1.heap.size,8,none⟩ = some (.slice ao8 delta.1 cap8):=X3.cell 8;have f3_8:w3.frozen? ⟨w1.heap.size,8,none⟩ = false:=X3.frozen 8;clear X3 b3;clear hw3 x2_0 kx2_0 y2_0 ky2_0 z2_0 f2_0 x2_1 kx2_1 y2_1 ky2_1 z2_1 f2_1 x2_2 kx2_2 y2_2 ky2_2 z2_2 f2_2 x2_3 kx2_3 y2_3 ky2_3 z2_3 f2_3 x2_4 kx2_4 y2_4 ky2_4 z2_4 f2_4 x2_5 kx2_5 y2_5 ky2_5 z2_5 f2_5 x2_6 kx2_6 y2_6 ky2_6 z2_6 f2_6 x2_7 kx2_7 y2_7 ky2_7 z2_7 f2_7 x2_8 kx2_8 y2_8 ky2_8 z2_8 f2_8
        · go_wp2
          go_ret;exact recP rfl (Stair.pass HOK.out (Stair.pass HK.out (Stair.pass HQ.out (Stair.pass HN.out (Stair.fall (fun h => by have:=HE.out.1 h;simp at this)))))) HB3.out
        · go_wp2
          go_ret;exact recP rfl (Stair.pass HOK.out (Stair.pass HK.out (Stair.pass HQ.out (Stair.pass HN.out (Stair.fall (fun h => by have:=HE.out.1 h;simp at this)))))) HB3.out
        · go_wp2
          go_ret;exact recP rfl (Stair.pass HOK.out (Stair.pass HK.out (Stair.pass HQ.out (Stair.pass HN.out (Stair.fall (fun h => by have:=HE.out.1 h;simp at this)))))) HB3.out
        · go_wp2
          go_ret;exact recP rfl (Stair.pass HOK.out (Stair.pass HK.out (Stair.pass HQ.out (Stair.pass HN.out (Stair.fall (fun h => by have:=HE.out.1 h;simp at this)))))) HB3.out
        · have HKP:Hid (KindP s ⟨2,seq,name,length,group,row,rows,data,delta⟩):=HE.out.2 (by simp)
          go_wp2_with fail
          refine (l5Empty_any _ _ _ _ _ _ _ _ _ _ _ _ _ _ _ _).mono ?_;rintro e w9 ⟨t9,rfl,ht9,b9⟩
          have HB9:Hid (Below w.heap.size w w9):=by
            show Below w.heap.size w w9
            refine Below.trans ?_ (b9.mono ?_)
            · repeat (refine below_set ?_ (by omega))
              exact HB3.out
            · simp
              exact HB3.out.size
          clear b9
          have HT9:Hid (t9 = true ↔ BlankP ⟨2,seq,name,length,group,row,rows,data,delta⟩):=by
            show t9 = true ↔ BlankP ⟨2,seq,name,length,group,row,rows,data,delta⟩
            rw [ht9];unfold EmptyQ BlankP noName
            simp [and_assoc]
            try (intros;rfl)
          clear ht9
          cases t9 with
          | false =>
            go_wp2;go_ret;exact recP rfl (Stair.pass HOK.out (Stair.pass HK.out (Stair.pass HQ.out (Stair.pass HN.out (Stair.pass HKP.out (Stair.fall (fun h => by have:=HT9.out.2 h;simp at this))))))) HB9.out
          | true =>
            go_wp2;go_ret;exact recP rfl (Stair.pass HOK.out (Stair.pass HK.out (Stair.pass HQ.out (Stair.pass HN.out (Stair.pass HKP.out (Stair.pass (HT9.out.1 (by simp)) (Stair.last rfl))))))) HB9.out
      · have HN:Hid (NamedP ⟨3,seq,name,length,group,row,rows,data,delta⟩):=fun h => by simp at h
        obtain ⟨t1,h1⟩:=exB (InP group 0 (s 0 + s 1 - 1));have cG:=q_same (W:=W2) (fun w' => l1In_b h1 w');have cA:=q_below (W:=W2) (fun w' _ => l5All_any s HOK.out w');unfold shapeV at cA
        have HE:Hid (KindP s ⟨3,seq,name,length,group,row,rows,data,delta⟩ ↔ (t1 = true)):=by
          show KindP s ⟨3,seq,name,length,group,row,rows,data,delta⟩ ↔ _
          rw [h1];unfold KindP DoneP
          simp
        have hst:(t1 = false) ∨ (t1 = true):=by
          clear HE h1 cG
          cases t1 <;> simp
        clear h1;go_wp2
        rcases hst with rfl | rfl
        all_goals
          refine WQ.region (by kernel_rfl) (by kernel_rfl) ?_
          repeat (first | (apply WQ.skip;(case hw => rfl);intro K hK;go_simp;apply hK;clear hK K) | (apply WQ.want;(case hw => rfl);intro K hK;go_simp;first | (apply hK;clear hK K) | (apply Exists.intro;apply And.intro;(case left => intro p;(first | (go_at_call 43;exact cG _ _) | (go_at_call 21;exact cA _ _)));apply hK;clear hK K)))
          refine WQ.nil ?_;intro w3 hw3;have b3:=below_rg hw3;have X3:Box w3 w1.heap.size #[.int .i64 3,.int .i64 seq,.string name,.int .i64 length,.int .i64 group,.int .i64 row,.slice ao6 rows.1 cap6,.slice ao7 data.1 cap7,.slice ao8 delta.1 cap8] 110:=HX2.out.call b3;have HB3:Hid (Below w.heap.size w w3):=(HT2.out.call b3).bel;have z3_0:w3.cell? ⟨w1.heap.size,0,none⟩ = some (.int .i64 3):=X3.cell 0;have f3_0:w3.frozen? ⟨w1.heap.size,0,none⟩ = false:=X3.frozen 0;have z3_1:w3.cell? ⟨w1.heap.size,1,none⟩ = some (.int .i64 seq):=X3.cell 1;have f3_1:w3.frozen? ⟨w1.heap.size,1,none⟩ = false:=X3.frozen 1;have z3_2:w3.cell? ⟨w1.heap.size,2,none⟩ = some (.string name):=X3.cell 2;have f3_2:w3.frozen? ⟨w1.heap.size,2,none⟩ = false:=X3.frozen 2;have z3_3:w3.cell? ⟨w1.heap.size,3,none⟩ = some (.int .i64 length):=X3.cell 3;have f3_3:w3.frozen? ⟨w1.heap.size,3,none⟩ = false:=X3.frozen 3;have z3_4:w3.cell? ⟨w1.heap.size,4,none⟩ = some (.int .i64 group):=X3.cell 4;have f3_4:w3.frozen? ⟨w1.heap.size,4,none⟩ = false:=X3.frozen 4;have z3_5:w3.cell? ⟨w1.heap.size,5,none⟩ = some (.int .i64 row):=X3.cell 5;have f3_5:w3.frozen? ⟨w1.heap.size,5,none⟩ = false:=X3.frozen 5;have z3_6:w3.cell? ⟨w1.heap.size,6,none⟩ = some (.slice ao6 rows.1 cap6):=X3.cell 6;have f3_6:w3.frozen? ⟨w1.heap.size,6,none⟩ = false:=X3.frozen 6;have z3_7:w3.cell? ⟨w1.heap.size,7,none⟩ = some (.slice ao7 data.1 cap7):=X3.cell 7;have f3_7:w3.frozen? ⟨w1.heap.size,7,none⟩ = false:=X3.frozen 7;have z3_8:w3.cell? ⟨w1.heap.size,8,none⟩ = some (.slice ao8 delta.1 cap8):=X3.cell 8;have f3_8:w3.frozen? ⟨w1.heap.size,8,none⟩ = false:=X3.frozen 8;clear X3 b3;clear hw3 x2_0 kx2_0 y2_0 ky2_0 z2_0 f2_0 x2_1 kx2_1 y2_1 ky2_1 z2_1 f2_1 x2_2 kx2_2 y2_2 ky2_2 z2_2 f2_2 x2_3 kx2_3 y2_3 ky2_3 z2_3 f2_3 x2_4 kx2_4 y2_4 ky2_4 z2_4 f2_4 x2_5 kx2_5 y2_5 ky2_5 z2_5 f2_5 x2_6 kx2_6 y2_6 ky2_6 z2_6 f2_6 x2_7 kx2_7 y2_7 ky2_7 z2_7 f2_7 x2_8 kx2_8 y2_8 ky2_8 z2_8 f2_8
        · go_wp2
          go_ret;exact recP rfl (Stair.pass HOK.out (Stair.pass HK.out (Stair.pass HQ.out (Stair.pass HN.out (Stair.fall (fun h => by have:=HE.out.1 h;simp at this)))))) HB3.out
        · have HKP:Hid (KindP s ⟨3,seq,name,length,group,row,rows,data,delta⟩):=HE.out.2 (by simp)
          go_wp2_with fail
          refine (l5Empty_any _ _ _ _ _ _ _ _ _ _ _ _ _ _ _ _).mono ?_;rintro e w9 ⟨t9,rfl,ht9,b9⟩
          have HB9:Hid (Below w.heap.size w w9):=by
            show Below w.heap.size w w9
            refine Below.trans ?_ (b9.mono ?_)
            · repeat (refine below_set ?_ (by omega))
              exact HB3.out
            · simp
              exact HB3.out.size
          clear b9
          have HT9:Hid (t9 = true ↔ BlankP ⟨3,seq,name,length,group,row,rows,data,delta⟩):=by
            show t9 = true ↔ BlankP ⟨3,seq,name,length,group,row,rows,data,delta⟩
            rw [ht9];unfold EmptyQ BlankP noName
            simp [and_assoc]
            try (intros;rfl)
          clear ht9
          cases t9 with
          | false =>
            go_wp2;go_ret;exact recP rfl (Stair.pass HOK.out (Stair.pass HK.out (Stair.pass HQ.out (Stair.pass HN.out (Stair.pass HKP.out (Stair.fall (fun h => by have:=HT9.out.2 h;simp at this))))))) HB9.out
          | true =>
            go_wp2;go_ret;exact recP rfl (Stair.pass HOK.out (Stair.pass HK.out (Stair.pass HQ.out (Stair.pass HN.out (Stair.pass HKP.out (Stair.pass (HT9.out.1 (by simp)) (Stair.last rfl))))))) HB9.out
      · have HN:Hid (NamedP ⟨4,seq,name,length,group,row,rows,data,delta⟩):=fun h => by simp at h
        obtain ⟨t1,h1⟩:=exB (InP group 0 (s 0 + s 1 - 1));obtain ⟨t2,h2⟩:=exB (InP row 0 (s 4 - 1));obtain ⟨t3,h3⟩:=exB (RiseP rows.1 rows.2 (s 0 + s 1 - 1));obtain ⟨b4',h4⟩:∃ b,((data.1:Int) != s 2 * 4) = b:=⟨_,rfl⟩;obtain ⟨t5,h5⟩:=exB (WeightsP s ⟨4,seq,name,length,group,row,rows,data,delta⟩);have cG:=q_same (W:=W2) (fun w' => l1In_b h1 w');have cR:=q_same (W:=W2) (fun w' => l1In_b h2 w');have cA:=q_below (W:=W2) (fun w' _ => l5All_any s HOK.out w');have cW:=q_below (W:=W2) (fun w' _ => l4Wide_any s (by omega) (by omega) w');have cS:=q_below (W:=W2) (fun w' hw' => det_b (l2Rise_any _ rows.1 rows.2 hi (s 0 + s 1 - 1) w' ((H6.out.below HT2.out.bel hhi).below hw' (Nat.le_trans hhi HT2.out.bel.size))) h3);have cX:t1 = true → t3 = true → ∀ d os,Calls Tryz.prog 99 #[shapeV s,.agg #[.int .i64 4,.int .i64 seq,.string name,.int .i64 length,.int .i64 group,.int .i64 row,.slice ao6 rows.1 cap6,.slice ao7 data.1 cap7,.slice ao8 delta.1 cap8]] (Go.Sort.grow (redrawn W2 d) os) fun e w'' => e = .returned (.bool t5) ∧ ∃ p:Regrown,w'' = Go.Sort.grow (redrawn W2 p.d) p.os:=fun e1 e3 => q_below (W:=W2) (fun w' hw' => det_b (l5Weights_any s HOK.out ⟨4,seq,name,length,group,row,rows,data,delta⟩ _ hi w' (layRec.rd_below (layRec.rd_below HRD.out HT2.out.bel hhi) hw' (Nat.le_trans hhi HT2.out.bel.size)) (Nat.le_trans hhi (Nat.le_trans HT2.out.bel.size hw'.size)) (h1.1 e1) (h3.1 e3)) h5);unfold shapeV at cW cA cX
        have HE:Hid (KindP s ⟨4,seq,name,length,group,row,rows,data,delta⟩ ↔ (t1 = true ∧ t2 = true ∧ t3 = true ∧ b4' = false ∧ t5 = true)):=by
          show KindP s ⟨4,seq,name,length,group,row,rows,data,delta⟩ ↔ _
          rw [h1,h2,h3,← h4,h5];unfold KindP ShareP
          simp
        have hst:(t1 = false) ∨ (t1 = true ∧ t2 = false) ∨ (t1 = true ∧ t2 = true ∧ t3 = false) ∨ (t1 = true ∧ t2 = true ∧ t3 = true ∧ b4' = true) ∨ (t1 = true ∧ t2 = true ∧ t3 = true ∧ b4' = false ∧ t5 = false) ∨ (t1 = true ∧ t2 = true ∧ t3 = true ∧ b4' = false ∧ t5 = true):=by
          clear HE h1 h2 h3 h4 h5 cG cR cS cX
          cases t1 <;> simp
          cases t2 <;> simp
          cases t3 <;> simp
          cases b4' <;> simp
        clear h1 h2 h3 h5;go_wp2
        rcases hst with rfl | ⟨rfl,rfl⟩ | ⟨rfl,rfl,rfl⟩ | ⟨rfl,rfl,rfl,rfl⟩ | ⟨rfl,rfl,rfl,rfl,rfl⟩ | ⟨rfl,rfl,rfl,rfl,rfl⟩
        all_goals
          refine WQ.region (by kernel_rfl) (by kernel_rfl) ?_
          repeat (first | (apply WQ.skip;(case hw => rfl);intro K hK;go_simp;apply hK;clear hK K) | (apply WQ.want;(case hw => rfl);intro K hK;go_simp;first | (apply hK;clear hK K) | (apply Exists.intro;apply And.intro;(case left => intro p;(first | (go_at_call_of 43 (Value.int .i64 group);exact cG _ _) | (go_at_call_of 43 (Value.int .i64 row);exact cR _ _) | (go_at_call 44;exact cW _ _) | (go_at_call 21;exact cA _ _) | (go_at_call 98;exact cS _ _) | (go_at_call 99;exact cX rfl rfl _ _)));apply hK;clear hK K)))
          refine WQ.nil ?_;intro w3 hw3;have b3:=below_rg hw3;have X3:Box w3 w1.heap.size #[.int .i64 4,.int .i64 seq,.string name,.int .i64 length,.int .i64 group,.int .i64 row,.slice ao6 rows.1 cap6,.slice ao7 data.1 cap7,.slice ao8 delta.1 cap8] 110:=HX2.out.call b3;have HB3:Hid (Below w.heap.size w w3):=(HT2.out.call b3).bel;have z3_0:w3.cell? ⟨w1.heap.size,0,none⟩ = some (.int .i64 4):=X3.cell 0;have f3_0:w3.frozen? ⟨w1.heap.size,0,none⟩ = false:=X3.frozen 0;have z3_1:w3.cell? ⟨w1.heap.size,1,none⟩ = some (.int .i64 seq):=X3.cell 1;have f3_1:w3.frozen? ⟨w1.heap.size,1,none⟩ = false:=X3.frozen 1;have z3_2:w3.cell? ⟨w1.heap.size,2,none⟩ = some (.string name):=X3.cell 2;have f3_2:w3.frozen? ⟨w1.heap.size,2,none⟩ = false:=X3.frozen 2;have z3_3:w3.cell? ⟨w1.heap.size,3,none⟩ = some (.int .i64 length):=X3.cell 3;have f3_3:w3.frozen? ⟨w1.heap.size,3,none⟩ = false:=X3.frozen 3;have z3_4:w3.cell? ⟨w1.heap.size,4,none⟩ = some (.int .i64 group):=X3.cell 4;have f3_4:w3.frozen? ⟨w1.heap.size,4,none⟩ = false:=X3.frozen 4;have z3_5:w3.cell? ⟨w1.heap.size,5,none⟩ = some (.int .i64 row):=X3.cell 5;have f3_5:w3.frozen? ⟨w1.heap.size,5,none⟩ = false:=X3.frozen 5;have z3_6:w3.cell? ⟨w1.heap.size,6,none⟩ = some (.slice ao6 rows.1 cap6):=X3.cell 6;have f3_6:w3.frozen? ⟨w1.heap.size,6,none⟩ = false:=X3.frozen 6;have z3_7:w3.cell? ⟨w1.heap.size,7,none⟩ = some (.slice ao7 data.1 cap7):=X3.cell 7;have f3_7:w3.frozen? ⟨w1.heap.size,7,none⟩ = false:=X3.frozen 7;have z3_8:w3.cell? ⟨w1.heap.size,8,none⟩ = some (.slice ao8 delta.1 cap8):=X3.cell 8;have f3_8:w3.frozen? ⟨w1.heap.size,8,none⟩ = false:=X3.frozen 8;clear X3 b3;clear hw3 x2_0 kx2_0 y2_0 ky2_0 z2_0 f2_0 x2_1 kx2_1 y2_1 ky2_1 z2_1 f2_1 x2_2 kx2_2 y2_2 ky2_2 z2_2 f2_2 x2_3 kx2_3 y2_3 ky2_3 z2_3 f2_3 x2_4 kx2_4 y2_4 ky2_4 z2_4 f2_4 x2_5 kx2_5 y2_5 ky2_5 z2_5 f2_5 x2_6 kx2_6 y2_6 ky2_6 z2_6 f2_6 x2_7 kx2_7 y2_7 ky2_7 z2_7 f2_7 x2_8 kx2_8 y2_8 ky2_8 z2_8 f2_8
        · go_wp2
          go_ret;exact recP rfl (Stair.pass HOK.out (Stair.pass HK.out (Stair.pass HQ.out (Stair.pass HN.out (Stair.fall (fun h => by have:=HE.out.1 h;simp at this)))))) HB3.out
        · go_wp2
          go_ret;exact recP rfl (Stair.pass HOK.out (Stair.pass HK.out (Stair.pass HQ.out (Stair.pass HN.out (Stair.fall (fun h => by have:=HE.out.1 h;simp at this)))))) HB3.out
        · go_wp2
          go_ret;exact recP rfl (Stair.pass HOK.out (Stair.pass HK.out (Stair.pass HQ.out (Stair.pass HN.out (Stair.fall (fun h => by have:=HE.out.1 h;simp at this)))))) HB3.out
        · go_wp2
          go_ret;exact recP rfl (Stair.pass HOK.out (Stair.pass HK.out (Stair.pass HQ.out (Stair.pass HN.out (Stair.fall (fun h => by have:=HE.out.1 h;simp at this)))))) HB3.out
        · go_wp2
          go_ret;exact recP rfl (Stair.pass HOK.out (Stair.pass HK.out (Stair.pass HQ.out (Stair.pass HN.out (Stair.fall (fun h => by have:=HE.out.1 h;simp at this)))))) HB3.out
        · have HKP:Hid (KindP s ⟨4,seq,name,length,group,row,rows,data,delta⟩):=HE.out.2 (by simp)
          go_wp2_with fail
          refine (l5Empty_any _ _ _ _ _ _ _ _ _ _ _ _ _ _ _ _).mono ?_;rintro e w9 ⟨t9,rfl,ht9,b9⟩
          have HB9:Hid (Below w.heap.size w w9):=by
            show Below w.heap.size w w9
            refine Below.trans ?_ (b9.mono ?_)
            · repeat (refine below_set ?_ (by omega))
              exact HB3.out
            · simp
              exact HB3.out.size
          clear b9
          have HT9:Hid (t9 = true ↔ BlankP ⟨4,seq,name,length,group,row,rows,data,delta⟩):=by
            show t9 = true ↔ BlankP ⟨4,seq,name,length,group,row,rows,data,delta⟩
            rw [ht9];unfold EmptyQ BlankP noName
            simp [and_assoc]
            try (intros;rfl)
          clear ht9
          cases t9 with
          | false =>
            go_wp2;go_ret;exact recP rfl (Stair.pass HOK.out (Stair.pass HK.out (Stair.pass HQ.out (Stair.pass HN.out (Stair.pass HKP.out (Stair.fall (fun h => by have:=HT9.out.2 h;simp at this))))))) HB9.out
          | true =>
            go_wp2;go_ret;exact recP rfl (Stair.pass HOK.out (Stair.pass HK.out (Stair.pass HQ.out (Stair.pass HN.out (Stair.pass HKP.out (Stair.pass (HT9.out.1 (by simp)) (Stair.last rfl))))))) HB9.out
    · go_wp2_with fail
      refine (l1In_b (t:=false) (exBF hq) _).mono ?_;rintro e w' ⟨rfl,hw'⟩;obtain rfl:=hw'.symm;go_wp2;go_ret;exact recP rfl (Stair.pass HOK.out (Stair.pass hk (Stair.fall hq))) HT1.out.bel
  · go_wp2_with fail
    refine (l1In_b (t:=false) (exBF hk) _).mono ?_;rintro e w' ⟨rfl,hw'⟩;obtain rfl:=hw'.symm;go_wp2;go_ret;exact recP rfl (Stair.pass HOK.out (Stair.fall hk)) HT1.out.bel
end Go.Proofs.YtaldlfoochmfcaaGreat
namespace Go.Proofs.YtaldlfoochmfcaaGreat
open Go.RowKit F256
theorem stair_ex {K:Int → Prop} (hK:∃ x,K x):∀ l:List (Prop × Int),∃ x,Stair l K x
  | [] => hK
  | (p,c) :: l => by
    by_cases h:p
    · obtain ⟨x,hx⟩:=stair_ex hK l
      exact ⟨x,.inr ⟨h,hx⟩⟩
    · exact ⟨c,.inl ⟨h,rfl⟩⟩
theorem rec_det {s:Nat → Int} {d:RecD} {X:Int} {w:World} {f:Nat} {args:Array Value} (hX:RecAns s d X) (h:Calls Tryz.prog f args w (RecPost s d w)):Calls Tryz.prog f args w fun e w' => e = .returned (.int .i64 X) ∧ Below w.heap.size w w' :=
  h.mono fun e w' ⟨x,h1,h2,h3⟩ => ⟨by rw [h1,h2.one hX],h3⟩
def WldPost (d:WorldD) (w:World) (e:Ending) (w':World):Prop:=∃ x,e = .returned (.int .i64 x) ∧ WldAns d x ∧ Below w.heap.size w w'
theorem wldP {d:WorldD} {w:World} {e:Ending} {w':World} {x:Int} (he:e = .returned (.int .i64 x)) (h:WldAns d x) (hb:Below w.heap.size w w'):WldPost d w e w':=⟨x,he,h,hb⟩
def RcsPost (s:Nat → Int) (p:Nat × (Nat → TapeD)) (w:World) (e:Ending) (w':World):Prop:=∃ x,e = .returned (.int .i64 x) ∧ RecsAns s p.1 p.2 x ∧ Below w.heap.size w w'
theorem WQ.free {P:Program} {ops:Array Oper} {C:World → Prop} {Q:Act → Prop} {a:Act} {o:Oper} {rest:List Oper} (hw:o.guard = none)
    (h:∀ K:Act → Prop,(∀ a,WQ P ops C Q rest a → K a) → o.quiet P a C K):WQ P ops C Q (o :: rest) a:=WQ.want (by simp [Region.wanted,hw]) h
end Go.Proofs.YtaldlfoochmfcaaGreat
namespace Go.Proofs.YtaldlfoochmfcaaGreat
open Go.RowKit F256
theorem recs_row (s:Nat → Int) (y:Nat → RecD):∀ k,(∀ i,i < k → RecAns s (y i) 0) ∨ ∃ i c,i < k ∧ c ≠ 0 ∧ RecAns s (y i) c ∧ ∀ j,j < i → RecAns s (y j) 0
  | 0 => .inl (fun i hi => by omega)
  | k + 1 => by
    rcases recs_row s y k with h | ⟨i,c,h1,h2,h3,h4⟩
    · obtain ⟨X,hX⟩:∃ X,RecAns s (y k) X:=stair_ex (K:=isZ) ⟨0,rfl⟩ _
      by_cases hx:X = 0
      · subst hx
        exact .inl (fun i hi => by
          by_cases c:i = k
          · subst c;exact hX
          · exact h i (by omega))
      · exact .inr ⟨k,X,by omega,hx,hX,h⟩
    · exact .inr ⟨i,c,by omega,h2,h3,h4⟩
theorem recs_ex (s:Nat → Int) (x:Nat → TapeD):∀ n,∃ c,RecsAns s n x c
  | 0 => ⟨0,.inl ⟨rfl,fun t ht => by omega⟩⟩
  | n + 1 => by
    obtain ⟨c,hc⟩:=recs_ex s x n
    rcases hc with ⟨rfl,h⟩ | ⟨hc,t,i,ht,hi,hr,hb,hu⟩
    · rcases recs_row s (x n).recs.2 (x n).recs.1 with k | ⟨i,c,h1,h2,h3,h4⟩
      · exact ⟨0,.inl ⟨rfl,fun t ht => by
          by_cases c:t = n
          · subst c;exact k
          · exact h t (by omega)⟩⟩
      · exact ⟨c,.inr ⟨h2,n,i,by omega,h1,h3,h4,h⟩⟩
    · exact ⟨c,.inr ⟨hc,t,i,by omega,hi,hr,hb,hu⟩⟩
theorem world_ex (d:WorldD):∃ X,WldAns d X:=by
  unfold WldAns;refine stair_ex ?_ _;obtain ⟨c,hc⟩:=recs_ex d.shape d.tapes.2 d.tapes.1
  by_cases h:c = 0
  · subst h
    obtain ⟨x,hx⟩:=stair_ex (K:=isZ) ⟨0,rfl⟩ [(CleanP d,1),(CountP d,3)];exact ⟨x,.inr ⟨hc,hx⟩⟩
  · exact ⟨c,.inl ⟨h,hc⟩⟩
end Go.Proofs.YtaldlfoochmfcaaGreat
namespace Go.Proofs.YtaldlfoochmfcaaGreat
open Go.RowKit F256
structure ElInfo {α:Type} (E:Lay α) (T e:TypeId) (by_:Nat) (zs:List Value):Prop where
  hs:0 < E.sz
  hzs:zs.length = E.sz
  hu:Tryz.prog.underlying T = some (.slice e)
  hi:(Tryz.prog.info? e).map (fun i => (i.zero.map (·.cells),i.size,i.bytes)) = some (some zs.toArray,E.sz,by_)
  few:by_ ≤ 1000
section
variable {α:Type} {E:Lay α} {t:TypeId} {w w':World} {lo n:Nat} {v:Value} {x:Nat → α}
end
end Go.Proofs.YtaldlfoochmfcaaGreat
namespace Go.Proofs.YtaldlfoochmfcaaGreat
open Go.RowKit F256
end Go.Proofs.YtaldlfoochmfcaaGreat
namespace Go.Proofs.YtaldlfoochmfcaaGreat
open Go.RowKit F256
section
variable {α:Type} {E:Lay α} {t:TypeId} {w w1:World} {lo g cap n k:Nat} {x:Nat → α} {ce:Nat → List Value} {Ls:Nat → List Nat}
end
theorem run_makeT {α:Type} {E:Lay α} {T e:TypeId} {by_:Nat} {zs:List Value} (I:ElInfo E T e by_ zs) (x:Nat → α) (Ls:Nat → List Nat) (w:World) (n:Nat) (hn:n ≤ 10000000) :
    ∃ w',(Instr.makeSlice T (.int .i64 (n:Int)) (.int .i64 (n:Int))).run Tryz.prog w = .ok (.slice (some ⟨w.heap.size,0,none⟩) n n) w' ∧ SlP E e w' w.heap.size w.heap.size n n 0 x (fun _ => zs) Ls ∧ Below w.heap.size w w':=by
  obtain ⟨hs,hzs,hu,hi,few⟩:=I
  obtain ⟨i0,hi0⟩:∃ i0,Tryz.prog.info? e = some i0:=by
    cases h:Tryz.prog.info? e with
    | none => rw [h] at hi;cases hi
    | some i0 => exact ⟨i0,rfl⟩
  rw [hi0] at hi
  simp only [Option.map_some,Option.some.injEq,Prod.mk.injEq] at hi
  obtain ⟨h1,h2,h3⟩:=hi
  obtain ⟨z,hz,hzc⟩:∃ z,i0.zero = some z ∧ z.cells = zs.toArray:=by
    cases h:i0.zero with
    | none => rw [h] at h1;cases h1
    | some z => rw [h] at h1;exact ⟨z,rfl,by simpa using h1⟩
  obtain ⟨w',hrun,hown,hgrow⟩:=run_make_full (P:=Tryz.prog) w w.heap.size T e i0 z E.sz hu hi0 hz h2 .i64 .i64 n (by
    rw [h3];have:by_ * n ≤ 1000 * 10000000:=Nat.mul_le_mul few hn
    omega) (by unfold maxLen;omega) (Nat.le_refl _)
  rw [hzc,← hzs,catN_made zs (by omega)] at hown;rw [hzs] at hown;exact ⟨w',hrun,⟨hown,fun _ _ => hzs,fun i hi => by omega,by simp [catN_zero],fun b hb => by rw [catN_zero] at hb;cases hb⟩,below_of_grown hgrow⟩
end Go.Proofs.YtaldlfoochmfcaaGreat
namespace Go.Proofs.YtaldlfoochmfcaaGreat
open Go.RowKit F256
def noRec:RecD:=⟨0,0,ByteArray.empty,0,0,0,(0,fun _ => 0),(0,fun _ => 0),(0,fun _ => 0)⟩
def zeroT:TapeD:=⟨false,(0,fun _ => noRec)⟩
theorem ChgL.bel {K:List Nat} {w w':World} {B:Nat} (hc:ChgL K w w') (hK:∀ b,b ∈ K → B ≤ b) (hB:B ≤ w.heap.size):Below B w w':=⟨hc.os,hc.tape,hc.output,hc.size,fun k hk => hc.block k (by omega) (fun h => by have:=hK k h;omega)⟩
structure NewBx (cs:Array Value) (w1 wx:World) (P t:Nat):Prop where
  box:Box wx P cs 38
  tp:(layTape.slice 86).own wx (2,fun _ => zeroT) [.slice (some ⟨t,0,none⟩) 2 2] [t]
  p1:w1.heap.size ≤ P
  t1:w1.heap.size ≤ t
  ne:t ≠ P
  bel:Below w1.heap.size w1 wx
end Go.Proofs.YtaldlfoochmfcaaGreat
namespace Go.Proofs.YtaldlfoochmfcaaGreat
open Go.RowKit F256
theorem mark_T {α:Type} {A:Lay α} {c:α → Nat} {mk:Nat → α → α} {fn:Nat} (hm:MkV A c mk fn) {w:World} {lo hi:Nat} {d:α} {cs:List Value} (h:OwnT A w lo hi d cs) (j:Nat) (hj:j + c d ≤ 100000000) :
    Calls Tryz.prog fn #[.agg cs.toArray,.int .i64 j] w fun e w' => e = .returned (.int .i64 ((j + c d:Nat):Int)) ∧ OwnT A w' lo hi (mk j d) cs ∧ Chg lo hi w w':=by
  obtain ⟨L,h1,h2,h3⟩:=h;exact (hm cs d L j w h1 h2 hj).mono fun e w' ⟨he,ho,hc⟩ => ⟨he,⟨L,ho,h2,h3⟩,hc.chg h3⟩
theorem Chg.bel {lo hi B:Nat} {w w':World} (h:Chg lo hi w w') (hl:B ≤ lo) (hB:B ≤ w.heap.size):Below B w w':=⟨h.os,h.tape,h.output,h.size,fun k hk => h.block k (by omega) (.inl (by omega))⟩
theorem sumN_mono2 {f g:Nat → Nat}:∀ {n:Nat},(∀ i,i < n → f i ≤ g i) → sumN f n ≤ sumN g n
  | 0,_ => Nat.le_refl _
  | n + 1,h => by
    rw [sumN_succ,sumN_succ];exact Nat.add_le_add (sumN_mono2 (fun i hi => h i (by omega))) (h n (by omega))
theorem sumN_const (c:Nat):∀ n:Nat,sumN (fun _ => c) n = n * c
  | 0 => by simp [sumN]
  | n + 1 => by rw [sumN_succ,sumN_const c n,Nat.succ_mul]
theorem sumN_plus (f:Nat → Nat) (c k:Nat):∀ n:Nat,sumN (fun i => c + k * f i) n = n * c + k * sumN f n
  | 0 => by simp [sumN]
  | n + 1 => by rw [sumN_succ,sumN_plus f c k n,sumN_succ,Nat.succ_mul,Nat.mul_add];omega
theorem cSl_le {α:Type} {c s:α → Nat} {k:Nat} (h:∀ a,c a ≤ k + k * s a) (p:Nat × (Nat → α)):cSl c p ≤ k * szSl s p:=by
  unfold cSl szSl;have h1:sumN (fun i => c (p.2 i)) p.1 ≤ sumN (fun i => k + k * s (p.2 i)) p.1:=sumN_mono2 (fun i _ => h (p.2 i));rw [sumN_plus (fun i => s (p.2 i)) k k p.1] at h1;rw [Nat.mul_add];have:p.1 * k = k * p.1:=Nat.mul_comm _ _;omega
theorem cBlock_le (d:BlockD):cBlockD d ≤ 6 + 6 * szBlockD d:=by unfold cBlockD szBlockD;omega
theorem cDrive_le (d:DriveD):cDriveD d ≤ 6 + 6 * szDriveD d:=by
  have:=cSl_le (k:=6) cBlock_le d.blocks;unfold cDriveD szDriveD;omega
theorem cRec_le (d:RecD):cRecD d ≤ 6 + 6 * szRecD d:=by unfold cRecD szRecD;omega
theorem cTape_le (d:TapeD):cTapeD d ≤ 6 + 6 * szTapeD d:=by
  have:=cSl_le (k:=6) cRec_le d.recs;unfold cTapeD szTapeD;omega
theorem cvWorld_le (d:WorldD):cvWorldD d ≤ 6 * szWorldD d:=by
  have h1:=cSl_le (c:=cSl cDriveD) (s:=szSl szDriveD) (k:=6) (fun p => Nat.le_trans (cSl_le (k:=6) cDrive_le p) (by omega)) d.groups;have h3:=cSl_le (k:=6) cTape_le d.tapes;unfold cvWorldD szWorldD;omega
end Go.Proofs.YtaldlfoochmfcaaGreat
namespace Go.Proofs.YtaldlfoochmfcaaGreat
open Go.RowKit F256
theorem OwnT.one {α:Type} {A:Lay α} {w:World} {lo hi:Nat} {a:α} {cs:List Value} (h:OwnT A w lo hi a cs):∀ v,v ∈ cs → v.oneCell' = true:=by
  obtain ⟨L,h1,_⟩:=h;exact fun v hv => A.own_one h1 v hv
theorem wp_allocStore {ops:Array Oper} {rest:List Oper} {o1 o2:Oper} {a:Act} {w:World} {Q:Exit → Act → World → Prop} (T:TypeId) (k:Nat) (x:Operand) (cs:List Value) (zs:Array Value) (n:Nat)
    (hop1:o1.op = Op.alloc T) (hop2:o2.op = Op.store T (.tmp k) x) (hg1:o1.guard = none) (hg2:o2.guard = none) (hd1:o1.dst = some k) (hd2:o2.dst = none)
    (hp:(a.put (some k) (.pointer (some ⟨w.heap.size,0,none⟩))).eval (.tmp k) = .pointer (some ⟨w.heap.size,0,none⟩)) (hx:(a.put (some k) (.pointer (some ⟨w.heap.size,0,none⟩))).eval x = .agg cs.toArray)
    (hi:(Tryz.prog.info? T).map (fun i => (i.zero.map (·.cells),i.size)) = some (some zs,n)) (hz:zs.size = n) (hl:cs.length = n) (h1:∀ v,v ∈ cs → v.oneCell' = true)
    (h:wpList Tryz.prog ops Q rest (a.put (some k) (.pointer (some ⟨w.heap.size,0,none⟩))) (w.alloc (.cells cs.toArray T))):wpList Tryz.prog ops Q (o1 :: o2 :: rest) a w:=by
  obtain ⟨i0,hi0⟩:∃ i0,Tryz.prog.info? T = some i0:=by
    cases h:Tryz.prog.info? T with
    | none => rw [h] at hi;cases hi
    | some i0 => exact ⟨i0,rfl⟩
  rw [hi0] at hi
  simp only [Option.map_some,Option.some.injEq,Prod.mk.injEq] at hi
  obtain ⟨h2,h3⟩:=hi
  obtain ⟨z,hzz,hzc⟩:∃ z,i0.zero = some z ∧ z.cells = zs:=by
    cases h:i0.zero with
    | none => rw [h] at h2;cases h2
    | some z => rw [h] at h2;exact ⟨z,rfl,by simpa using h2⟩
  have hr:(Instr.alloc T true (.tuple #[])).run Tryz.prog w = .ok (.pointer (some ⟨w.heap.size,0,none⟩)) (w.alloc (.cells zs T)):=by
    simp [Instr.alloc,zeroValue,typeInfo,hi0,hzz,hzc,newVar,newRow]
  have hw:(w.alloc (.cells zs T)).setRow w.heap.size cs.toArray = w.alloc (.cells cs.toArray T):=by
    have hh:((w.alloc (.cells zs T)).setRow w.heap.size cs.toArray).heap = w.heap.push (.cells cs.toArray T):=by
      apply Array.ext_getElem?
      intro i
      by_cases c:i = w.heap.size
      · subst c
        rw [setRow_heap (w.alloc (.cells zs T)) w.heap.size zs cs.toArray T (0,0) (box_new w zs T),Array.getElem?_push,if_pos rfl]
      · rw [setRow_other _ _ _ _ c,Array.getElem?_push,if_neg c]
        show (w.heap.push _)[i]? = _
        rw [Array.getElem?_push,if_neg c]
    show ({ w with heap:=((w.alloc (.cells zs T)).setRow w.heap.size cs.toArray).heap }:World) = _
    rw [hh];rfl
  refine wpList_plain hg1 fun K hK => ?_;unfold Oper.wp execOp
  simp only [hop1,Sem.run_bind,hr,Result.andThen_ok]
  refine hK _ _ ?_;rw [hd1];refine wpList_store_row hg2 T (.tmp k) x hop2 w.heap.size cs.toArray hp hx T zs (box_new w zs T) (by rw [hi0];simp [h3,hl]) (by simp [hz,hl]) (by simp;exact h1) ?_;rw [hw,hd2];exact h
theorem wp_loadBox {ops:Array Oper} {rest:List Oper} {o:Oper} {a:Act} {w:World} {Q:Exit → Act → World → Prop} (T:TypeId) (x:Operand) (ho:o.op = .load T x) (hgd:o.guard = none) (b:Nat) (hx:a.eval x = .pointer (some ⟨b,0,none⟩)) {cs:List Value} (hB:Box w b cs.toArray T) {fs:Array Field} (hu:Tryz.prog.underlying T = some (.struct fs)) {n:Nat} (hi:(Tryz.prog.info? T).map (·.size) = some n) (hl:cs.length = n)
    (h:wpList Tryz.prog ops Q rest (a.put o.dst (.agg cs.toArray)) w):wpList Tryz.prog ops Q (o :: rest) a w :=
  wpList_load_row hgd T x ho b hx T cs.toArray (0,0) (.struct fs) hB hu rfl (by rw [hi];simp [hl]) h
theorem size_W:(Tryz.prog.info? 38).map (·.size) = some 15:=by kernel_rfl
theorem size_LW:(Tryz.prog.info? 28).map (·.size) = some 15:=by kernel_rfl
theorem info_W:(Tryz.prog.info? 38).map (fun i => (i.zero.map (·.cells),i.size)) = some (some #[.int .i64 0,.int .i64 0,.int .i64 0,.int .i64 0,.int .i64 0,.int .i64 0,.int .i64 0,.int .i64 0,.int .i64 0,.slice none 0 0,.slice none 0 0,.slice none 0 0,.int .i64 0,.int .i64 0,.bool false],15):=by kernel_rfl
end Go.Proofs.YtaldlfoochmfcaaGreat
namespace Go.Proofs.YtaldlfoochmfcaaGreat
open Go.RowKit F256
end Go.Proofs.YtaldlfoochmfcaaGreat
namespace Go.Proofs.YtaldlfoochmfcaaGreat
open Go.RowKit F256
theorem run_append_none' {P:Program} (w:World) (base:Nat) (t ty e:TypeId) (i:TypeInfo) (size:Nat) (ht:P.underlying t = some (.slice e)) (hi:P.info? e = some i) (v:Value) (n c:Nat) (xs:List Value) (hown:w.ownsRow base e size v n xs) :
    (Builtin.append_ #[t,t] ty #[v,.slice none 0 c]).run P w = .ok v w:=by
  rcases hown.2 with ⟨rfl,rfl⟩ | ⟨g,cap,cur,rfl,_,_,hnc,_⟩
  · simp [Builtin.append_,run_underlying ht,sizeOf,typeInfo,hi,Builtin.lenOf,Builtin.firstCells]
  · simp [Builtin.append_,run_underlying ht,sizeOf,typeInfo,hi,Builtin.lenOf,Builtin.firstCells,hnc,storeCells]
theorem wp_run2 {ops:Array Oper} {rest:List Oper} {o:Oper} {a:Act} {W w':World} {Q:Exit → Act → World → Prop} {T:TypeId} {v' x1 x2:Value} (hg:o.guard = none) (s y:Operand) (hop:o.op = Op.call { callee:=Callee.builtin Builtin.append,args:=#[s,y],argTypes:=#[T,T] })
    (h1:a.eval s = x1) (h2:a.eval y = x2) (hrun:(Builtin.append_ #[T,T] o.type #[x1,x2]).run Tryz.prog W = .ok v' w') (hK:wpList Tryz.prog ops Q rest (a.put o.dst v') w'):wpList Tryz.prog ops Q (o :: rest) a W:=by
  refine wpList_plain hg fun K hK' => ?_;unfold Oper.wp
  simp [execOp,hop,resolve,invoke,builtin,h1,h2,hrun,Result.andThen]
  exact hK' _ _ hK
end Go.Proofs.YtaldlfoochmfcaaGreat
namespace Go.Proofs.YtaldlfoochmfcaaGreat
open Go.RowKit F256
def RdOne {α:Type} (E:Lay α):Prop:=∀ (w:World) (hi:Nat) (a:α) (cs:List Value),E.rd w hi a cs → ∀ u,u ∈ cs → u.oneCell' = true
theorem rdOne_bytes:RdOne layBytes:=fun w hi p cs h u hu => by
  obtain ⟨v,rfl,⟨ao,cap,rfl,_⟩,_⟩:=h
  simp at hu
  subst hu;rfl
def cat2 {β:Type} (x:Nat → β) (n:Nat) (y:Nat → β):Nat → β:=fun i => if i < n then x i else y (i - n)
theorem cat2_lt {β:Type} (x:Nat → β) {n i:Nat} (y:Nat → β) (h:i < n):cat2 x n y i = x i:=if_pos h
theorem cat2_ge {β:Type} (x:Nat → β) (n:Nat) (y:Nat → β) (i:Nat):cat2 x n y (n + i) = y i:=by
  unfold cat2;rw [if_neg (by omega)]
  congr 1
  omega
theorem catN_cat2 {β:Type} (x:Nat → List β) (n:Nat) (y:Nat → List β):∀ m,catN (n + m) (cat2 x n y) = catN n x ++ catN m y
  | 0 => by rw [catN_zero,List.append_nil];exact catN_congr (fun i hi => cat2_lt x y hi)
  | m + 1 => by rw [← Nat.add_assoc,catN_succ,catN_cat2 x n y m,catN_succ,cat2_ge,List.append_assoc]
structure View {α:Type} (E:Lay α) (t:TypeId) (w:World) (lo hi:Nat) (v:Value) (n:Nat) (x:Nat → α) (ce:Nat → List Value):Prop where
  row:w.ownsRow lo t E.sz v n (catN n ce)
  each:∀ i,i < n → E.rd w hi (x i) (ce i)
section
variable {α:Type} {E:Lay α} {t:TypeId} {w w':World} {lo hi n:Nat} {v:Value} {x:Nat → α} {ce:Nat → List Value}
theorem View.nil (x:Nat → α) (ce:Nat → List Value) (w:World) (lo hi:Nat):View E t w lo hi (.slice none 0 0) 0 x ce:=⟨World.ownsRow_nil w lo t E.sz,fun i hi => by omega⟩
theorem View.lit0 (x:Nat → α) (ce:Nat → List Value) (w:World) (hi:Nat):View E t (w.alloc (.cells #[] t)) w.heap.size hi (.slice (some ⟨w.heap.size,0,none⟩) 0 0) 0 x ce:=by
  have h:=World.ownsRow_lit (base:=w.heap.size) (e:=t) (size:=E.sz) w #[] 0 (Nat.le_refl _) (Nat.zero_le _) (by simp);exact ⟨by simpa [catN_zero] using h,fun i hi => by omega⟩
theorem View.form (h:View E t w lo hi v n x ce):∃ ao cap,v = .slice ao n cap:=by
  rcases h.row.2 with ⟨hv,hn⟩ | ⟨g,cap,cur,rfl,_⟩
  · exact ⟨none,0,by rw [hv,hn]⟩
  · exact ⟨_,_,rfl⟩
theorem View.form0 (h:View E t w lo hi v n x ce) (h0:n ≠ 0):∃ g cap,v = .slice (some ⟨g,0,none⟩) n cap:=by
  rcases h.row.2 with ⟨hv,hn⟩ | ⟨g,cap,cur,rfl,_⟩
  · exact absurd hn h0
  · exact ⟨_,_,rfl⟩
theorem View.len (h:View E t w lo hi v n x ce):n ≤ maxLen:=by
  rcases h.row.2 with ⟨hv,hn⟩ | ⟨g,cap,cur,rfl,hbg,hgg,hnc,hcm,rest⟩
  · omega
  · omega
theorem View.kept (h:View E t w lo hi v n x ce) (hk:∀ b,v.ownBlock = some b → w'.heap[b]? = w.heap[b]?) (hb:Below hi w w'):View E t w' lo hi v n x ce:=by
  refine ⟨⟨h.row.1,?_⟩,fun i hi => E.rd_below (h.each i hi) hb (Nat.le_refl _)⟩
  rcases h.row.2 with hn | ⟨g,cap,cur,rfl,hbg,hgg,rest⟩
  · exact .inl hn
  · exact .inr ⟨g,cap,cur,rfl,hbg,(hk g (by simp [Value.ownBlock])).trans hgg,rest⟩
theorem View.below (h:View E t w lo hi v n x ce) (hb:Below w.heap.size w w') (hh:hi ≤ w.heap.size):View E t w' lo hi v n x ce :=
  h.kept (fun b hv => hb.block b (h.row.lt b hv).2) (hb.mono hh)
theorem View.congr {y:Nat → α} (h:View E t w lo hi v n x ce) (hy:∀ i,i < n → x i = y i):View E t w lo hi v n y ce:=⟨h.row,fun i hi => by rw [← hy i hi];exact h.each i hi⟩
theorem View.lens (h:View E t w lo hi v n x ce):∀ i,i < n → (ce i).length = E.sz:=fun i hi => E.rd_len (h.each i hi)
theorem View.cell {g cap:Nat} (h:View E t w lo hi (.slice (some ⟨g,0,none⟩) n cap) n x ce) {i j:Nat} (hi:i < n) (hj:j < E.sz):w.cell? ⟨g,i * E.sz + j,none⟩ = (ce i)[j]?:=by
  rw [h.row.cellAt _ (mul_lt hi hj),catN_get h.lens hi hj]
theorem View.store1 {g cap:Nat} (h:View E t w lo hi (.slice (some ⟨g,0,none⟩) n cap) n x ce) (h1:E.sz = 1) (hlo:hi ≤ lo) {i:Nat} (hi':i < n) {u:Value} {a:α} (ha:E.rd w hi a [u]) :
    View E t (w.setCell ⟨g,i,none⟩ u) lo hi (.slice (some ⟨g,0,none⟩) n cap) n (upd x i a) (upd ce i [u]) ∧ Below lo w (w.setCell ⟨g,i,none⟩ u):=by
  have hg:=h.row.lt g rfl;have hb:Below lo w (w.setCell ⟨g,i,none⟩ u):=(Below.refl _ _).setCell hg.1 _;refine ⟨⟨?_,fun m hm => ?_⟩,hb⟩
  · have:=(h.row.stored (i * E.sz + 0) u).1
    rw [catN_set h.lens hi' (by omega)] at this;rw [show i * E.sz + 0 = i by rw [h1];omega] at this;have hl:=h.lens i hi';rw [h1] at hl;obtain ⟨c,hc⟩:=List.length_eq_one_iff.1 hl;rw [hc] at this;exact this
  · by_cases c:m = i
    · subst c
      rw [upd_at,upd_at];exact E.rd_below ha hb hlo
    · rw [upd_ne x a c,upd_ne ce _ c]
      exact E.rd_below (h.each m hm) hb hlo
def Src (E:Lay α) (w:World) (hi:Nat) (ao:Option Addr) (m:Nat) (y:Nat → α) (cy:Nat → List Value):Prop :=
  (m ≠ 0 → ∃ b off,ao = some ⟨b,off,none⟩ ∧ ∀ j,j < m → ∀ k,k < E.sz → w.cell? ⟨b,off + (j * E.sz + k),none⟩ = (cy j)[k]?) ∧ ∀ j,j < m → E.rd w hi (y j) (cy j)
theorem src_one {b:Nat} {y:α} {cs:List Value} (hc:∀ k,k < E.sz → w.cell? ⟨b,k,none⟩ = cs[k]?) (hy:E.rd w hi y cs):Src E w hi (some ⟨b,0,none⟩) 1 (fun _ => y) (fun _ => cs) :=
  ⟨fun _ => ⟨b,0,rfl,fun j hj k hk => by
    obtain rfl:j = 0:=by omega
    rw [← hc k hk]
    congr 2
    omega⟩,fun _ _ => hy⟩
theorem add_oo (b o j:Nat):(⟨b,o,none⟩:Addr).add j = ⟨b,o + j,none⟩:=by unfold Addr.add;split <;> simp_all
end
theorem run_appendV {α:Type} {E:Lay α} {T e:TypeId} {by_:Nat} {zs:List Value} (I:ElInfo E T e by_ zs) (R1:RdOne E) (ty:TypeId) {W:World} {lo hi n:Nat} {v:Value} {x:Nat → α} {ce:Nat → List Value} (h:View E e W lo hi v n x ce)
    {ao:Option Addr} {m:Nat} (c:Nat) {y:Nat → α} {cy:Nat → List Value} (hs:Src E W hi ao m y cy) (hlo:lo ≤ W.heap.size) (hhi:hi ≤ lo) (hn:n + m ≤ 10000000) (hc0:ao = none → c = 0 ∨ m = 0) :
    ∃ v' w',(Builtin.append_ #[T,T] ty #[v,.slice ao m c]).run Tryz.prog W = .ok v' w' ∧ View E e w' lo hi v' (n + m) (cat2 x n y) (cat2 ce n cy) ∧ W.grownBy w' v.ownBlock ∧ Below lo W w':=by
  obtain ⟨hz,hzs,hu,hinf,few⟩:=I
  obtain ⟨i0,hi0⟩:∃ i0,Tryz.prog.info? e = some i0:=by
    cases h:Tryz.prog.info? e with
    | none => rw [h] at hinf;cases hinf
    | some i0 => exact ⟨i0,rfl⟩
  rw [hi0] at hinf
  simp only [Option.map_some,Option.some.injEq,Prod.mk.injEq] at hinf
  obtain ⟨h1,h2,h3⟩:=hinf
  obtain ⟨z,hz0,hzc⟩:∃ z,i0.zero = some z ∧ z.cells = zs.toArray:=by
    cases h:i0.zero with
    | none => rw [h] at h1;cases h1
    | some z => rw [h] at h1;exact ⟨z,rfl,by simpa using h1⟩
  obtain ⟨hcell,hrd⟩:=hs;have hlen:(catN m cy).length = m * E.sz:=catN_len (fun j hj => E.rd_len (hrd j hj))
  have big:∀ ad,ao = some ad → (∀ j u,(catN m cy)[j]? = some u → W.cell? (ad.add j) = some u) → ∃ v' w',(Builtin.append_ #[T,T] ty #[v,.slice ao m c]).run Tryz.prog W = .ok v' w' ∧ View E e w' lo hi v' (n + m) (cat2 x n y) (cat2 ce n cy) ∧ W.grownBy w' v.ownBlock ∧ Below lo W w':=fun ad ha hc => by
    subst ha
    obtain ⟨v',w',hr,r1,r2,r3,r4⟩:=run_append_own_at (P:=Tryz.prog) W lo T ty e i0 z E.sz by_ hu hi0 hz0 h2 h3 (by rw [hzc];simpa using hzs) hz v n (catN n ce) h.row ad m c (catN m cy) hlen hc
      (fun u hu => by
        obtain ⟨i,hi,hm⟩:=mem_catN.1 hu
        exact R1 _ _ _ _ (hrd i hi) u hm) (by unfold maxLen;omega) (by
        have:(n + m) * by_ ≤ 10000000 * 1000:=Nat.mul_le_mul hn few
        omega) hlo
    have hb:Below lo W w':=(Below.refl _ _).grown r2 hlo (fun k hk => (h.row.lt k hk).1);refine ⟨v',w',hr,⟨by rw [catN_cat2];exact r1,fun i hi => ?_⟩,r2,hb⟩
    by_cases c1:i < n
    · rw [cat2_lt x y c1,cat2_lt ce cy c1]
      exact E.rd_below (h.each i c1) hb hhi
    · obtain ⟨k,rfl⟩:∃ k,i = n + k:=⟨i - n,by omega⟩
      rw [cat2_ge,cat2_ge];exact E.rd_below (hrd k (by omega)) hb hhi
  by_cases hm:m = 0
  · subst hm
    cases ao with
    | some ad => exact big ad rfl (fun j u hj => by rw [catN_zero] at hj;simp at hj)
    | none =>
      refine ⟨v,W,run_append_none' W lo T ty e i0 E.sz hu hi0 v n c _ h.row,⟨by rw [catN_cat2,catN_zero,List.append_nil];exact h.row,fun i hi => ?_⟩,⟨rfl,rfl,rfl,Nat.le_refl _,fun _ _ _ => rfl⟩,Below.refl _ _⟩
      have hi':i < n:=by omega
      rw [cat2_lt x y hi',cat2_lt ce cy hi'];exact h.each i hi'
  · obtain ⟨b,off,rfl,hcc⟩:=hcell hm
    refine big _ rfl (fun j u hj => ?_)
    have hj':j < m * E.sz:=by rw [← hlen];exact (List.getElem?_eq_some_iff.1 hj).1
    have e1:j / E.sz < m:=Nat.div_lt_of_lt_mul (by rw [Nat.mul_comm];exact hj');have e2:j % E.sz < E.sz:=Nat.mod_lt _ hz
    have e3:j / E.sz * E.sz + j % E.sz = j:=by rw [Nat.mul_comm];exact Nat.div_add_mod j E.sz
    rw [add_oo,← e3,hcc _ e1 _ e2,← catN_get (fun j hj => E.rd_len (hrd j hj)) e1 e2,e3];exact hj
end Go.Proofs.YtaldlfoochmfcaaGreat
namespace Go.Proofs.YtaldlfoochmfcaaGreat
open Go.RowKit F256
def wipedN (x:Nat → DriveD):Nat → Nat
  | 0 => 0
  | n + 1 => wipedN x n + (if (x n).wiped = true then 1 else 0)
theorem wipedN_le (x:Nat → DriveD):∀ n,wipedN x n ≤ n
  | 0 => Nat.le_refl _
  | n + 1 => by
    have:=wipedN_le x n;unfold wipedN
    split <;> omega
def DeadP (d:WorldD) (G:Nat):Prop:=d.shape 3 < (wipedN (d.groups.2 G).2 (d.groups.2 G).1:Int)
set_option maxHeartbeats 8000000 in
set_option maxRecDepth 20000 in
theorem isDead_any (d:WorldD) (cs:List Value) (hi:Nat) (G:Nat) (w:World) (h:layWorld.rd w hi d cs) (hhi:hi ≤ w.heap.size) (hG:G < d.groups.1) :
    Calls Tryz.prog 82 #[.agg cs.toArray,.int .i64 (G:Int)] w (BoolP (DeadP d G) w):=by
  obtain ⟨ao1,cap1,ao2,cap2,ao3,cap3,rfl,g1,g2,g3,k0,k4,k5⟩:=World_rd h;obtain ⟨_,_,e1,hm1,hc1⟩:=g1
  cases e1
  obtain ⟨b1,off1,he1,hb1,hel1⟩:=hc1 (by omega);subst he1;obtain ⟨cg,hrg,hcg⟩:=hel1 G hG;obtain ⟨ao9,cap9,rfl⟩:=sl_form hrg
  have c0:w.cell? ⟨b1,off1 + G,none⟩ = some (.slice ao9 (d.groups.2 G).1 cap9):=by
    have:=hcg 0 (by decide)
    have e:off1 + (G * (layDrive.slice 94).sz + 0) = off1 + G:=by show off1 + (G * 1 + 0) = off1 + G;omega
    rw [e] at this;exact this
  obtain ⟨_,_,e9,hm9,hc9⟩:=hrg
  cases e9
  unfold maxLen at hm9
  have i1:(0:Int) ≤ (G:Int):=by omega
  have i2:(G:Int) < (d.groups.1:Int):=by omega
  clear g2 g3 k0 k4 k5 hcg hel1 hc1 hm1;have T0:=one_new w #[.int .i64 (d.shape 0),.int .i64 (d.shape 1),.int .i64 (d.shape 2),.int .i64 (d.shape 3),.int .i64 (d.shape 4),.int .i64 (d.shape 5),.int .i64 (d.shape 6),.int .i64 (d.shape 7),.int .i64 (d.shape 8),.slice (some ⟨b1,off1,none⟩) d.groups.1 cap1,.slice ao2 d.on.1 cap2,.slice ao3 d.tapes.1 cap3,.int .i64 d.writes,.int .i64 d.stop,.bool d.down] 38;have x9:=T0.b1.cell 9;have c0':=(T0.bel.cell (p:=⟨b1,off1 + G,none⟩) (by show b1 < w.heap.size;omega)).trans c0
  go_enter Tryz.func82,Tryz.ntmps82
  go_wp2
  go_loopw [5,14] (fun v i wr => ∃ k:Nat,k ≤ (d.groups.2 G).1 ∧ i = .int .i64 k ∧ v = .int .i64 (wipedN (d.groups.2 G).2 k:Int) ∧ One w wr #[.int .i64 (d.shape 0),.int .i64 (d.shape 1),.int .i64 (d.shape 2),.int .i64 (d.shape 3),.int .i64 (d.shape 4),.int .i64 (d.shape 5),.int .i64 (d.shape 6),.int .i64 (d.shape 7),.int .i64 (d.shape 8),.slice (some ⟨b1,off1,none⟩) d.groups.1 cap1,.slice ao2 d.on.1 cap2,.slice ao3 d.tapes.1 cap3,.int .i64 d.writes,.int .i64 d.stop,.bool d.down] 38) (fun _ i _ => (d.groups.2 G).1 - (intOf i).toNat)
  case atStart => exact ⟨0,Nat.zero_le _,rfl,rfl,T0⟩
  case round =>
    clear T0 x9 c0';obtain ⟨k,hk,rfl,rfl,T⟩:=hrel;have HT:Hid (One w wr #[.int .i64 (d.shape 0),.int .i64 (d.shape 1),.int .i64 (d.shape 2),.int .i64 (d.shape 3),.int .i64 (d.shape 4),.int .i64 (d.shape 5),.int .i64 (d.shape 6),.int .i64 (d.shape 7),.int .i64 (d.shape 8),.slice (some ⟨b1,off1,none⟩) d.groups.1 cap1,.slice ao2 d.on.1 cap2,.slice ao3 d.tapes.1 cap3,.int .i64 d.writes,.int .i64 d.stop,.bool d.down] 38):=T;have x3:wr.cell? ⟨w.heap.size,3,none⟩ = some (.int .i64 (d.shape 3)):=T.b1.cell 3;have hwk:=wipedN_le (d.groups.2 G).2 k
    by_cases hlt:k < (d.groups.2 G).1
    · have t1:(k:Int) < ((d.groups.2 G).1:Int):=by omega
      obtain ⟨b,off,rfl,hblt,hcell⟩:=hc9 (by omega);obtain ⟨cd,hrd,hcd⟩:=hcell k hlt;obtain ⟨ao5,cap5,rfl,g5⟩:=Drive_rd hrd;have c2:wr.cell? ⟨b,off + k * 2,none⟩ = some (.bool ((d.groups.2 G).2 k).wiped):=(T.bel.cell (p:=⟨b,off + k * 2,none⟩) (by show b < w.heap.size;omega)).trans (hcd 0 (by decide));have c3:wr.cell? ⟨b,off + k * 2 + 1,none⟩ = some (.slice ao5 ((d.groups.2 G).2 k).blocks.1 cap5):=(T.bel.cell (p:=⟨b,off + k * 2 + 1,none⟩) (by show b < w.heap.size;omega)).trans (hcd 1 (by decide));obtain ⟨D,hD⟩:∃ D,D = (d.groups.2 G).2 k:=⟨_,rfl⟩;have HD:Hid (D = (d.groups.2 G).2 k):=hD;rw [← hD] at c2 c3;obtain ⟨m,hm⟩:∃ m,m = wipedN (d.groups.2 G).2 k:=⟨_,rfl⟩;have HM:Hid (m = wipedN (d.groups.2 G).2 k):=hm;rw [← hm] at hwk ⊢;have HT9:Hid (One w (wr.alloc (.cells #[.bool D.wiped,.slice ao5 D.blocks.1 cap5] 94)) #[.int .i64 (d.shape 0),.int .i64 (d.shape 1),.int .i64 (d.shape 2),.int .i64 (d.shape 3),.int .i64 (d.shape 4),.int .i64 (d.shape 5),.int .i64 (d.shape 6),.int .i64 (d.shape 7),.int .i64 (d.shape 8),.slice (some ⟨b1,off1,none⟩) d.groups.1 cap1,.slice ao2 d.on.1 cap2,.slice ao3 d.tapes.1 cap3,.int .i64 d.writes,.int .i64 d.stop,.bool d.down] 38):=HT.out.call ((Below.refl _ _).alloc (Nat.le_refl _) _);clear hc9 hcell hcd hrd g5 T hD hm x3
      cases hw:D.wiped with
      | true =>
        rw [hw] at c2 HT9;have HW:Hid (D.wiped = true):=hw
        have zz:IntKind.i64.wrap ((m:Int) + 1) = (m:Int) + 1:=by rw [IntKind.wrap_i64];omega
        clear hw;go_wp2
        go_roundw
        case rel => exact ⟨k + 1,by omega,by go_num,by
          have e:wipedN (d.groups.2 G).2 (k + 1) = m + 1:=by
            show wipedN (d.groups.2 G).2 k + (if ((d.groups.2 G).2 k).wiped = true then 1 else 0) = m + 1
            rw [← HD.out,if_pos HW.out,← HM.out]
          rw [e];go_num,HT9.out⟩
        case measure => simp [intOf];omega
      | false =>
        rw [hw] at c2 HT9;have HW:Hid (D.wiped = false):=hw;clear hw;go_wp2
        go_roundw
        case rel => exact ⟨k + 1,by omega,by go_num,by
          have e:wipedN (d.groups.2 G).2 (k + 1) = m:=by
            show wipedN (d.groups.2 G).2 k + (if ((d.groups.2 G).2 k).wiped = true then 1 else 0) = m
            rw [← HD.out,if_neg (by rw [HW.out];decide),← HM.out];rfl
          rw [e],HT9.out⟩
        case measure => simp [intOf];omega
    · obtain rfl:k = (d.groups.2 G).1:=by omega
      clear hlt T hc9
      by_cases hd:d.shape 3 < (wipedN (d.groups.2 G).2 (d.groups.2 G).1:Int)
      · have HD:Hid (DeadP d G):=hd
        have dd:decide (d.shape 3 < (wipedN (d.groups.2 G).2 (d.groups.2 G).1:Int)) = true:=decide_eq_true hd;clear hd;go_wp2;go_ret;exact boolYes rfl HD.out HT.out.bel
      · have HD:Hid (¬ DeadP d G):=hd
        have dd:decide (d.shape 3 < (wipedN (d.groups.2 G).2 (d.groups.2 G).1:Int)) = false:=decide_eq_false hd;clear hd;go_wp2;go_ret;exact boolNo rfl HD.out HT.out.bel
set_option maxHeartbeats 8000000 in
set_option maxRecDepth 20000 in
theorem l7Dead_any (d:WorldD) (cs:List Value) (hi B:Nat) (G:Nat) (w:World) (h:layWorld.rd w hi d cs) (hhi:hi ≤ w.heap.size) (hB:Box w B cs.toArray 38) (hG:G < d.groups.1) :
    Calls Tryz.prog 46 #[.pointer (some ⟨B,0,none⟩),.int .i64 (G:Int)] w (BoolP (DeadP d G) w):=by
  obtain ⟨ao1,cap1,ao2,cap2,ao3,cap3,rfl,g1,g2,g3,k0,k4,k5⟩:=World_rd h;obtain ⟨_,_,e1,hm1,hc1⟩:=g1
  cases e1
  obtain ⟨b1,off1,he1,hb1,hel1⟩:=hc1 (by omega);subst he1;obtain ⟨cg,hrg,hcg⟩:=hel1 G hG;obtain ⟨ao9,cap9,rfl⟩:=sl_form hrg
  have c0:w.cell? ⟨b1,off1 + G,none⟩ = some (.slice ao9 (d.groups.2 G).1 cap9):=by
    have:=hcg 0 (by decide)
    have e:off1 + (G * (layDrive.slice 94).sz + 0) = off1 + G:=by show off1 + (G * 1 + 0) = off1 + G;omega
    rw [e] at this;exact this
  obtain ⟨_,_,e9,hm9,hc9⟩:=hrg
  cases e9
  unfold maxLen at hm9
  have i1:(0:Int) ≤ (G:Int):=by omega
  have i2:(G:Int) < (d.groups.1:Int):=by omega
  clear g2 g3 k0 k4 k5 hcg hel1 hc1 hm1;have x9:w.cell? ⟨B,9,none⟩ = some (.slice (some ⟨b1,off1,none⟩) d.groups.1 cap1):=hB.cell 9;have x3:w.cell? ⟨B,3,none⟩ = some (.int .i64 (d.shape 3)):=hB.cell 3;clear hB
  go_enter Tryz.func46,Tryz.ntmps46
  go_wp2
  go_loopw [5,6] (fun v i wr => ∃ k:Nat,k ≤ (d.groups.2 G).1 ∧ i = .int .i64 k ∧ v = .int .i64 (wipedN (d.groups.2 G).2 k:Int) ∧ wr = w) (fun _ i _ => (d.groups.2 G).1 - (intOf i).toNat)
  case atStart => exact ⟨0,Nat.zero_le _,rfl,rfl,rfl⟩
  case round =>
    obtain ⟨k,hk,rfl,rfl,e⟩:=hrel;obtain rfl:=e.symm;have hwk:=wipedN_le (d.groups.2 G).2 k
    by_cases hlt:k < (d.groups.2 G).1
    · have t1:(k:Int) < ((d.groups.2 G).1:Int):=by omega
      obtain ⟨b,off,rfl,hblt,hcell⟩:=hc9 (by omega);obtain ⟨cd,hrd,hcd⟩:=hcell k hlt;obtain ⟨ao5,cap5,rfl,g5⟩:=Drive_rd hrd;have c2:w.cell? ⟨b,off + k * 2,none⟩ = some (.bool ((d.groups.2 G).2 k).wiped):=hcd 0 (by decide);obtain ⟨D,hD⟩:∃ D,D = (d.groups.2 G).2 k:=⟨_,rfl⟩;have HD:Hid (D = (d.groups.2 G).2 k):=hD;rw [← hD] at c2;obtain ⟨m,hm⟩:∃ m,m = wipedN (d.groups.2 G).2 k:=⟨_,rfl⟩;have HM:Hid (m = wipedN (d.groups.2 G).2 k):=hm;rw [← hm] at hwk ⊢;clear hc9 hcell hcd hrd g5 hD hm
      cases hw:D.wiped with
      | true =>
        rw [hw] at c2;have HW:Hid (D.wiped = true):=hw
        have zz:IntKind.i64.wrap ((m:Int) + 1) = (m:Int) + 1:=by rw [IntKind.wrap_i64];omega
        clear hw;go_wp2
        go_roundw
        case rel => exact ⟨k + 1,by omega,by go_num,by
          have e:wipedN (d.groups.2 G).2 (k + 1) = m + 1:=by
            show wipedN (d.groups.2 G).2 k + (if ((d.groups.2 G).2 k).wiped = true then 1 else 0) = m + 1
            rw [← HD.out,if_pos HW.out,← HM.out]
          rw [e];go_num,trivial⟩
        case measure => simp [intOf];omega
      | false =>
        rw [hw] at c2;have HW:Hid (D.wiped = false):=hw;clear hw;go_wp2
        go_roundw
        case rel => exact ⟨k + 1,by omega,by go_num,by
          have e:wipedN (d.groups.2 G).2 (k + 1) = m:=by
            show wipedN (d.groups.2 G).2 k + (if ((d.groups.2 G).2 k).wiped = true then 1 else 0) = m
            rw [← HD.out,if_neg (by rw [HW.out];decide),← HM.out];rfl
          rw [e],trivial⟩
        case measure => simp [intOf];omega
    · obtain rfl:k = (d.groups.2 G).1:=by omega
      clear hlt hc9
      by_cases hd:d.shape 3 < (wipedN (d.groups.2 G).2 (d.groups.2 G).1:Int)
      · have HD:Hid (DeadP d G):=hd
        have dd:decide (d.shape 3 < (wipedN (d.groups.2 G).2 (d.groups.2 G).1:Int)) = true:=decide_eq_true hd;clear hd;go_wp2;go_ret;exact boolYes rfl HD.out (Below.refl _ _)
      · have HD:Hid (¬ DeadP d G):=hd
        have dd:decide (d.shape 3 < (wipedN (d.groups.2 G).2 (d.groups.2 G).1:Int)) = false:=decide_eq_false hd;clear hd;go_wp2;go_ret;exact boolNo rfl HD.out (Below.refl _ _)
end Go.Proofs.YtaldlfoochmfcaaGreat
namespace Go.Proofs.YtaldlfoochmfcaaGreat
open Go.RowKit F256
set_option maxHeartbeats 1000000 in
theorem index_any (v:Value) (n:Nat) (g:Nat → Int) (hi:Nat) (x:Int) (w:World) (r:RdI w hi v n g) :
    Calls Tryz.prog 134 #[v,.int .i64 x] w fun e w' => ∃ z:Int,e = .returned (.int .i64 z) ∧ (0 ≤ z ↔ ∃ t,t < n ∧ g t = x) ∧ w' = w:=by
  obtain ⟨ao,cap,rfl,hm,hc⟩:=r;unfold maxLen at hm
  go_enter Tryz.func134,Tryz.ntmps134
  go_wp2
  go_loop [8] (fun i => ∃ k:Nat,k ≤ n ∧ i = .int .i64 k ∧ ∀ i,i < k → g i ≠ x) (fun i => n - (intOf i).toNat)
  case atStart => exact ⟨0,Nat.zero_le _,rfl,fun i hi => by omega⟩
  case round =>
    obtain ⟨k,hk,rfl,hall⟩:=hrel;have HALL:Hid (∀ i,i < k → g i ≠ x):=hall;clear hall
    by_cases hlt:k < n
    · obtain ⟨b,off,rfl,hblt,hcell⟩:=hc (by omega)
      have hck:w.cell? ⟨b,off + k,none⟩ = some (.int .i64 (g k)):=hcell k hlt;obtain ⟨y,hy⟩:∃ y,y = g k:=⟨_,rfl⟩;have HY:Hid (y = g k):=hy;rw [← hy] at hck;clear hc hcell hy
      by_cases heq:x = y
      · have HP:Hid (0 ≤ (k:Int) ↔ ∃ t,t < n ∧ g t = x):=⟨fun _ => ⟨k,hlt,by rw [← HY.out,heq]⟩,fun _ => by omega⟩
        have te:(x == y) = true:=by simp [heq]
        clear heq;go_wp2;go_ret;exact ⟨_,rfl,HP.out,rfl⟩
      · have te:(x == y) = false:=by simp [heq]
        have HN:Hid (g k ≠ x):=by show g k ≠ x;rw [← HY.out];exact fun h => heq h.symm
        clear heq;go_wp2
        go_round
        case rel => exact ⟨k + 1,by omega,by go_num,fun i hi => by
                      by_cases c:i = k
                      · rw [c];exact HN.out
                      · exact HALL.out i (by omega)⟩
        case measure => simp [intOf];omega
    · obtain rfl:k = n:=by omega
      have HP:Hid (0 ≤ (-1:Int) ↔ ∃ t,t < k ∧ g t = x):=⟨fun h => by omega,fun ⟨t,ht,he⟩ => absurd he (HALL.out t ht)⟩;clear hc;go_wp2;go_ret;exact ⟨-1,rfl,HP.out,rfl⟩
theorem contains_any (v:Value) (n:Nat) (g:Nat → Int) (hi:Nat) (x:Int) (w:World) (r:RdI w hi v n g) :
    Calls Tryz.prog 122 #[v,.int .i64 x] w (BoolP (∃ t,t < n ∧ g t = x) w):=by
  have C:=index_any v n g hi x w r;obtain ⟨ao,cap,rfl,hm,hc⟩:=r;clear hc hm;have HI:Hid (Calls Tryz.prog 134 #[.slice ao n cap,.int .i64 x] w fun e w' => ∃ z:Int,e = .returned (.int .i64 z) ∧ (0 ≤ z ↔ ∃ t,t < n ∧ g t = x) ∧ w' = w):=C;clear C;obtain ⟨P,hP⟩:∃ P:Prop,P = ∃ t,t < n ∧ g t = x:=⟨_,rfl⟩;rw [← hP] at HI ⊢;clear hP
  go_enter Tryz.func122,Tryz.ntmps122
  go_wp2_with fail
  refine HI.out.mono ?_;rintro e w1 ⟨z,rfl,hz,hw1⟩;obtain rfl:=hw1.symm;have HZ:Hid (0 ≤ z ↔ P):=hz;clear hz HI
  by_cases h0:0 ≤ z
  · have HP:Hid P:=HZ.out.mp h0
    go_wp2;go_ret;exact boolYes rfl HP.out (Below.refl _ _)
  · have HP:Hid (¬ P):=fun h => h0 (HZ.out.mpr h)
    have td:decide (0 ≤ z) = false:=by simp;omega
    clear h0;go_wp2;go_ret;exact boolNo rfl HP.out (Below.refl _ _)
end Go.Proofs.YtaldlfoochmfcaaGreat
namespace Go.Proofs.YtaldlfoochmfcaaGreat
open Go.RowKit
theorem Box.allocd {w:World} {b:Nat} {cs:Array Value} {t:TypeId} (h:Box w b cs t) (o:Obj):Box (w.alloc o) b cs t:=(Below.heap_alloc w o b h.lt).trans h
end Go.Proofs.YtaldlfoochmfcaaGreat
namespace Go.Proofs.YtaldlfoochmfcaaGreat
open Go.RowKit F256
theorem nearest_any (x a b:Int) (w:World) :
    Calls Tryz.prog 120 #[.int .i64 x,.int .i64 a,.int .i64 b] w fun e w' => e = .returned (.int .i64 (max a (min x b))) ∧ w' = w:=by
  go_enter Tryz.func120,Tryz.ntmps120
  go_wp2;go_ret;exact ⟨rfl,rfl⟩
def nearZ (x a b:Int):Int:=max a (min x b)
theorem nearZ_iff (x a b:Int) (h:a ≤ b):x = nearZ x a b ↔ a ≤ x ∧ x ≤ b:=by
  unfold nearZ;omega
theorem nearest_z (x a b:Int) (w:World) :
    Calls Tryz.prog 120 #[.int .i64 x,.int .i64 a,.int .i64 b] w fun e w' => e = .returned (.int .i64 (nearZ x a b)) ∧ w' = w:=nearest_any x a b w
set_option maxRecDepth 20000 in
set_option maxHeartbeats 8000000 in
theorem nearestShape_any (a0 a1 a2 a3 a4 a5 a6 a7 a8:Int) (w:World) :
    Calls Tryz.prog 104 #[.agg #[.int .i64 a0,.int .i64 a1,.int .i64 a2,.int .i64 a3,.int .i64 a4,.int .i64 a5,.int .i64 a6,.int .i64 a7,.int .i64 a8]] w fun e w' => e = .returned (.agg #[.int .i64 (nearZ a0 1 4),.int .i64 (nearZ a1 0 2),.int .i64 (nearZ a2 1 3),.int .i64 (nearZ a3 0 2),.int .i64 (nearZ a4 1 6),.int .i64 (nearZ a5 1 6),.int .i64 (nearZ a6 1 4),.int .i64 (nearZ a7 1 6),.int .i64 (nearZ a8 0 400)]) ∧ Below w.heap.size w w':=by
  go_enter Tryz.func104,Tryz.ntmps104
  go_wp2_with fail
  have XA:=(box_new w #[.int .i64 a0,.int .i64 a1,.int .i64 a2,.int .i64 a3,.int .i64 a4,.int .i64 a5,.int .i64 a6,.int .i64 a7,.int .i64 a8] 34).allocd (.cells #[.int .i64 0,.int .i64 0,.int .i64 0,.int .i64 0,.int .i64 0,.int .i64 0,.int .i64 0,.int .i64 0,.int .i64 0] 34);have XZ:=box_new (w.alloc (.cells #[.int .i64 a0,.int .i64 a1,.int .i64 a2,.int .i64 a3,.int .i64 a4,.int .i64 a5,.int .i64 a6,.int .i64 a7,.int .i64 a8] 34)) #[.int .i64 0,.int .i64 0,.int .i64 0,.int .i64 0,.int .i64 0,.int .i64 0,.int .i64 0,.int .i64 0,.int .i64 0] 34
  have hz:(w.alloc (.cells #[.int .i64 a0,.int .i64 a1,.int .i64 a2,.int .i64 a3,.int .i64 a4,.int .i64 a5,.int .i64 a6,.int .i64 a7,.int .i64 a8] 34)).heap.size = w.heap.size + 1:=by simp
  rw [hz] at XZ;have BA:Below w.heap.size w ((w.alloc (.cells #[.int .i64 a0,.int .i64 a1,.int .i64 a2,.int .i64 a3,.int .i64 a4,.int .i64 a5,.int .i64 a6,.int .i64 a7,.int .i64 a8] 34)).alloc (.cells #[.int .i64 0,.int .i64 0,.int .i64 0,.int .i64 0,.int .i64 0,.int .i64 0,.int .i64 0,.int .i64 0,.int .i64 0] 34)):=((Below.refl _ _).alloc (Nat.le_refl _) _).alloc (by simp) _;obtain ⟨wA,hwA⟩:∃ x,x = (w.alloc (.cells #[.int .i64 a0,.int .i64 a1,.int .i64 a2,.int .i64 a3,.int .i64 a4,.int .i64 a5,.int .i64 a6,.int .i64 a7,.int .i64 a8] 34)).alloc (.cells #[.int .i64 0,.int .i64 0,.int .i64 0,.int .i64 0,.int .i64 0,.int .i64 0,.int .i64 0,.int .i64 0,.int .i64 0] 34):=⟨_,rfl⟩;rw [← hwA] at XA XZ BA ⊢;clear hwA hz;refine wp_region_still_tail 28 (by kernel_rfl) (by kernel_rfl) ?_;have XA':Box { wA with drawn:=wA.drawn + 1 } w.heap.size #[.int .i64 a0,.int .i64 a1,.int .i64 a2,.int .i64 a3,.int .i64 a4,.int .i64 a5,.int .i64 a6,.int .i64 a7,.int .i64 a8] 34:=XA;have XZ':Box { wA with drawn:=wA.drawn + 1 } (w.heap.size + 1) #[.int .i64 0,.int .i64 0,.int .i64 0,.int .i64 0,.int .i64 0,.int .i64 0,.int .i64 0,.int .i64 0,.int .i64 0] 34:=XZ;have BA':Below w.heap.size w { wA with drawn:=wA.drawn + 1 }:=⟨BA.os,BA.tape,BA.output,BA.size,BA.block⟩;obtain ⟨wB,hwB⟩:∃ x:World,x = { wA with drawn:=wA.drawn + 1 }:=⟨_,rfl⟩;rw [← hwB] at XA' XZ' BA' ⊢;clear XA XZ BA hwB;obtain ⟨x0,x1,x2,x3,x4,x5,x6,x7,x8⟩:=box9 XA';obtain ⟨y0,y1,y2,y3,y4,y5,y6,y7,y8⟩:=box9 XZ'
  simp only [List.take_succ_cons,List.take_zero,List.drop_succ_cons,List.drop_zero]
  still_step
  still_step
  still_call (nearest_z _ _ _ _)
  still_step
  still_step
  still_call (nearest_z _ _ _ _)
  still_step
  still_step
  still_call (nearest_z _ _ _ _)
  still_step
  still_step
  still_call (nearest_z _ _ _ _)
  still_step
  still_step
  still_call (nearest_z _ _ _ _)
  still_step
  still_step
  still_call (nearest_z _ _ _ _)
  still_step
  still_step
  still_call (nearest_z _ _ _ _)
  still_step
  still_step
  still_call (nearest_z _ _ _ _)
  still_step
  still_step
  still_call (nearest_z _ _ _ _)
  still_step
  refine wpStill_nil ?_;have z0:wB.frozen? ⟨w.heap.size + 1,0,none⟩ = false:=XZ'.frozen 0;have z1:wB.frozen? ⟨w.heap.size + 1,1,none⟩ = false:=XZ'.frozen 1;have z2:wB.frozen? ⟨w.heap.size + 1,2,none⟩ = false:=XZ'.frozen 2;have z3:wB.frozen? ⟨w.heap.size + 1,3,none⟩ = false:=XZ'.frozen 3;have z4:wB.frozen? ⟨w.heap.size + 1,4,none⟩ = false:=XZ'.frozen 4;have z5:wB.frozen? ⟨w.heap.size + 1,5,none⟩ = false:=XZ'.frozen 5;have z6:wB.frozen? ⟨w.heap.size + 1,6,none⟩ = false:=XZ'.frozen 6;have z7:wB.frozen? ⟨w.heap.size + 1,7,none⟩ = false:=XZ'.frozen 7;have z8:wB.frozen? ⟨w.heap.size + 1,8,none⟩ = false:=XZ'.frozen 8;go_wp2;refine bodyPost_ret (v:=.agg #[.int .i64 (nearZ a0 1 4),.int .i64 (nearZ a1 0 2),.int .i64 (nearZ a2 1 3),.int .i64 (nearZ a3 0 2),.int .i64 (nearZ a4 1 6),.int .i64 (nearZ a5 1 6),.int .i64 (nearZ a6 1 4),.int .i64 (nearZ a7 1 6),.int .i64 (nearZ a8 0 400)]) (by simp [results,Tryz.results104,go_sem,y0,y1,y2,y3,y4,y5,y6,y7,y8]) rfl ⟨rfl,?_⟩;exact (((((((((BA'.setCell (Nat.le_succ _) _).setCell (Nat.le_succ _) _).setCell (Nat.le_succ _) _).setCell (Nat.le_succ _) _).setCell (Nat.le_succ _) _).setCell (Nat.le_succ _) _).setCell (Nat.le_succ _) _).setCell (Nat.le_succ _) _).setCell (Nat.le_succ _) _)
end Go.Proofs.YtaldlfoochmfcaaGreat
namespace Go.Proofs.YtaldlfoochmfcaaGreat
open Go.RowKit F256
theorem shape_eq_yes (a0 a1 a2 a3 a4 a5 a6 a7 a8:Int) (w:World):(Op.equalIn 10000 34 (.agg #[.int .i64 a0,.int .i64 a1,.int .i64 a2,.int .i64 a3,.int .i64 a4,.int .i64 a5,.int .i64 a6,.int .i64 a7,.int .i64 a8]) (.agg #[.int .i64 a0,.int .i64 a1,.int .i64 a2,.int .i64 a3,.int .i64 a4,.int .i64 a5,.int .i64 a6,.int .i64 a7,.int .i64 a8])).run Tryz.prog w = .ok true w:=by
  have u3:=Tryz.underlying2;rw [show (10000:Nat) = 9999 + 1 from rfl,run_equalIn_agg w 9999 34 _ _ (by kernel_rfl) (by kernel_rfl)]
  simp only [Program.fieldsOf,Tryz.underlying34]
  go_simp
theorem shape_eq_no (a0 a1 a2 a3 a4 a5 a6 a7 a8 b0 b1 b2 b3 b4 b5 b6 b7 b8:Int) (h:¬ (a0 = b0 ∧ a1 = b1 ∧ a2 = b2 ∧ a3 = b3 ∧ a4 = b4 ∧ a5 = b5 ∧ a6 = b6 ∧ a7 = b7 ∧ a8 = b8)) (w:World):(Op.equalIn 10000 34 (.agg #[.int .i64 a0,.int .i64 a1,.int .i64 a2,.int .i64 a3,.int .i64 a4,.int .i64 a5,.int .i64 a6,.int .i64 a7,.int .i64 a8]) (.agg #[.int .i64 b0,.int .i64 b1,.int .i64 b2,.int .i64 b3,.int .i64 b4,.int .i64 b5,.int .i64 b6,.int .i64 b7,.int .i64 b8])).run Tryz.prog w = .ok false w:=by
  have u3:=Tryz.underlying2;rw [show (10000:Nat) = 9999 + 1 from rfl,run_equalIn_agg w 9999 34 _ _ (by kernel_rfl) (by kernel_rfl)]
  simp only [Program.fieldsOf,Tryz.underlying34]
  have H:Hid (¬ (a0 = b0 ∧ a1 = b1 ∧ a2 = b2 ∧ a3 = b3 ∧ a4 = b4 ∧ a5 = b5 ∧ a6 = b6 ∧ a7 = b7 ∧ a8 = b8)):=h;clear h;go_simp;exact fun h0 h1 h2 h3 h4 h5 h6 h7 h8 => H.out ⟨h0,h1,h2,h3,h4,h5,h6,h7,h8⟩
theorem ok_near (s:Nat → Int):OkShape s ↔ s 0 = nearZ (s 0) 1 4 ∧ s 1 = nearZ (s 1) 0 2 ∧ s 2 = nearZ (s 2) 1 3 ∧ s 3 = nearZ (s 3) 0 2 ∧ s 4 = nearZ (s 4) 1 6 ∧ s 5 = nearZ (s 5) 1 6 ∧ s 6 = nearZ (s 6) 1 4 ∧ s 7 = nearZ (s 7) 1 6 ∧ s 8 = nearZ (s 8) 0 400:=by
  unfold OkShape Shp3 Shp;rw [nearZ_iff (s 0) 1 4 (by omega),nearZ_iff (s 1) 0 2 (by omega),nearZ_iff (s 2) 1 3 (by omega),nearZ_iff (s 3) 0 2 (by omega),nearZ_iff (s 4) 1 6 (by omega),nearZ_iff (s 5) 1 6 (by omega),nearZ_iff (s 6) 1 4 (by omega),nearZ_iff (s 7) 1 6 (by omega),nearZ_iff (s 8) 0 400 (by omega)];omega
set_option maxHeartbeats 4000000 in
theorem implShape_any (s:Nat → Int) (w:World) :
    Calls Tryz.prog 71 #[shapeV s] w fun e w' => ∃ x,e = .returned (.int .i64 x) ∧ ShFAns s x ∧ Below w.heap.size w w':=by
  have HK:Hid (OkShape s ↔ s 0 = nearZ (s 0) 1 4 ∧ s 1 = nearZ (s 1) 0 2 ∧ s 2 = nearZ (s 2) 1 3 ∧ s 3 = nearZ (s 3) 0 2 ∧ s 4 = nearZ (s 4) 1 6 ∧ s 5 = nearZ (s 5) 1 6 ∧ s 6 = nearZ (s 6) 1 4 ∧ s 7 = nearZ (s 7) 1 6 ∧ s 8 = nearZ (s 8) 0 400):=ok_near s;unfold shapeV;obtain ⟨a0,h0⟩:∃ a,a = s 0:=⟨_,rfl⟩;obtain ⟨a1,h1⟩:∃ a,a = s 1:=⟨_,rfl⟩;obtain ⟨a2,h2⟩:∃ a,a = s 2:=⟨_,rfl⟩;obtain ⟨a3,h3⟩:∃ a,a = s 3:=⟨_,rfl⟩;obtain ⟨a4,h4⟩:∃ a,a = s 4:=⟨_,rfl⟩;obtain ⟨a5,h5⟩:∃ a,a = s 5:=⟨_,rfl⟩;obtain ⟨a6,h6⟩:∃ a,a = s 6:=⟨_,rfl⟩;obtain ⟨a7,h7⟩:∃ a,a = s 7:=⟨_,rfl⟩;obtain ⟨a8,h8⟩:∃ a,a = s 8:=⟨_,rfl⟩;rw [← h0,← h1,← h2,← h3,← h4,← h5,← h6,← h7,← h8]
  have HK2:Hid (OkShape s ↔ a0 = nearZ a0 1 4 ∧ a1 = nearZ a1 0 2 ∧ a2 = nearZ a2 1 3 ∧ a3 = nearZ a3 0 2 ∧ a4 = nearZ a4 1 6 ∧ a5 = nearZ a5 1 6 ∧ a6 = nearZ a6 1 4 ∧ a7 = nearZ a7 1 6 ∧ a8 = nearZ a8 0 400):=by
    show OkShape s ↔ _
    rw [h0,h1,h2,h3,h4,h5,h6,h7,h8];exact HK.out
  clear HK h0 h1 h2 h3 h4 h5 h6 h7 h8;have CN:=nearestShape_any a0 a1 a2 a3 a4 a5 a6 a7 a8;have XA:=box_new w #[.int .i64 a0,.int .i64 a1,.int .i64 a2,.int .i64 a3,.int .i64 a4,.int .i64 a5,.int .i64 a6,.int .i64 a7,.int .i64 a8] 34;obtain ⟨x0,x1,x2,x3,x4,x5,x6,x7,x8⟩:=box9 XA;have HX:Hid (Box (w.alloc (.cells #[.int .i64 a0,.int .i64 a1,.int .i64 a2,.int .i64 a3,.int .i64 a4,.int .i64 a5,.int .i64 a6,.int .i64 a7,.int .i64 a8] 34)) w.heap.size #[.int .i64 a0,.int .i64 a1,.int .i64 a2,.int .i64 a3,.int .i64 a4,.int .i64 a5,.int .i64 a6,.int .i64 a7,.int .i64 a8] 34):=XA;have HB:Hid (Below w.heap.size w (w.alloc (.cells #[.int .i64 a0,.int .i64 a1,.int .i64 a2,.int .i64 a3,.int .i64 a4,.int .i64 a5,.int .i64 a6,.int .i64 a7,.int .i64 a8] 34))):=bnew (Below.refl _ _);obtain ⟨wA,hwA⟩:∃ x,x = w.alloc (.cells #[.int .i64 a0,.int .i64 a1,.int .i64 a2,.int .i64 a3,.int .i64 a4,.int .i64 a5,.int .i64 a6,.int .i64 a7,.int .i64 a8] 34):=⟨_,rfl⟩;rw [← hwA] at x0 x1 x2 x3 x4 x5 x6 x7 x8 HX HB;clear XA
  by_cases ok:OkShape s
  · have HO:Hid (OkShape s):=ok
    obtain ⟨e0,e1,e2,e3,e4,e5,e6,e7,e8⟩:=HK2.out.mp ok;rw [← e0,← e1,← e2,← e3,← e4,← e5,← e6,← e7,← e8] at CN;have heq:=shape_eq_yes a0 a1 a2 a3 a4 a5 a6 a7 a8;clear e0 e1 e2 e3 e4 e5 e6 e7 e8 ok
    go_enter Tryz.func71,Tryz.ntmps71
    go_wp2_with fail
    rw [← hwA];clear hwA
    go_region_with (go_at_call 104;refine (CN _).mono ?_;rintro ee w2 ⟨rfl,hb2⟩;have hB2:Below wA.heap.size wA w2:=⟨hb2.os,hb2.tape,hb2.output,hb2.size,hb2.block⟩;obtain ⟨y0,y1,y2,y3,y4,y5,y6,y7,y8⟩:=box9 (HX.out.below hB2 HX.out.lt))
    all_goals
      go_wp2;go_ret;exact ⟨0,rfl,.inr ⟨rfl,HO.out⟩,HB.out.trans (hB2.mono HB.out.size)⟩
  · have HO:Hid (¬ OkShape s):=ok
    have hno:¬ (a0 = nearZ a0 1 4 ∧ a1 = nearZ a1 0 2 ∧ a2 = nearZ a2 1 3 ∧ a3 = nearZ a3 0 2 ∧ a4 = nearZ a4 1 6 ∧ a5 = nearZ a5 1 6 ∧ a6 = nearZ a6 1 4 ∧ a7 = nearZ a7 1 6 ∧ a8 = nearZ a8 0 400):=fun h => ok (HK2.out.mpr h);have heq:=shape_eq_no a0 a1 a2 a3 a4 a5 a6 a7 a8 (nearZ a0 1 4) (nearZ a1 0 2) (nearZ a2 1 3) (nearZ a3 0 2) (nearZ a4 1 6) (nearZ a5 1 6) (nearZ a6 1 4) (nearZ a7 1 6) (nearZ a8 0 400) hno;clear hno ok
    go_enter Tryz.func71,Tryz.ntmps71
    go_wp2_with fail
    rw [← hwA];clear hwA
    go_region_with (go_at_call 104;refine (CN _).mono ?_;rintro ee w2 ⟨rfl,hb2⟩;have hB2:Below wA.heap.size wA w2:=⟨hb2.os,hb2.tape,hb2.output,hb2.size,hb2.block⟩;obtain ⟨y0,y1,y2,y3,y4,y5,y6,y7,y8⟩:=box9 (HX.out.below hB2 HX.out.lt))
    all_goals
      go_wp2;go_ret;exact ⟨3,rfl,.inl ⟨rfl,HO.out⟩,HB.out.trans (hB2.mono HB.out.size)⟩
end Go.Proofs.YtaldlfoochmfcaaGreat
namespace Go.Proofs.YtaldlfoochmfcaaGreat
open Go.RowKit F256
set_option maxHeartbeats 4000000 in
theorem rowLength_any (s:Nat → Int) (h1:1 ≤ s 2) (h2:s 2 ≤ 1000) (w:World) :
    Calls Tryz.prog 80 #[shapeV s] w fun e w' => e = .returned (.int .i64 (s 2 * 4)) ∧ Below w.heap.size w w':=by
  unfold shapeV;obtain ⟨a2,h0⟩:∃ a,a = s 2:=⟨_,rfl⟩;rw [← h0] at h1 h2 ⊢;clear h0;have B0:Below w.heap.size w (w.alloc (.cells #[.int .i64 (s 0),.int .i64 (s 1),.int .i64 a2,.int .i64 (s 3),.int .i64 (s 4),.int .i64 (s 5),.int .i64 (s 6),.int .i64 (s 7),.int .i64 (s 8)] 34)):=bnew (Below.refl _ _)
  go_enter Tryz.func80,Tryz.ntmps80
  go_wp2;go_ret;exact ⟨rfl,B0⟩
set_option maxHeartbeats 4000000 in
theorem implParts_any (s:Nat → Int) (l:Int) (w:World) :
    Calls Tryz.prog 147 #[shapeV s,.int .i64 l] w fun e w' => ∃ x c,e = .returned (intR c x) ∧ PfAns s l x c ∧ Below w.heap.size w w':=by
  unfold shapeV
  go_enter Tryz.func147,Tryz.ntmps147
  go_wp2_with fail
  refine (implShape_any s _).mono ?_;rintro e w1 ⟨x,rfl,hx,B1'⟩;obtain ⟨X1,X2,B1,z1⟩:=two_new B1';obtain ⟨x0,x1,x2,x3,x4,x5,x6,x7,x8⟩:=box9 X1;obtain ⟨y0,y1,y2,y3⟩:=res_cells X2;have HX:Hid (Box w1 (w.heap.size + 1) #[.int .i64 0,.int .i64 0] 167):=X2;have HX1:Hid (Box w1 w.heap.size #[.int .i64 (s 0),.int .i64 (s 1),.int .i64 (s 2),.int .i64 (s 3),.int .i64 (s 4),.int .i64 (s 5),.int .i64 (s 6),.int .i64 (s 7),.int .i64 (s 8)] 34):=X1;clear B1' X1 X2
  rcases hx with ⟨rfl,hx⟩ | ⟨rfl,hx⟩
  · have HN:Hid (¬ OkShape s):=hx
    clear hx;go_wp2;exact bodyPost_ret (v:=intR 3 0) (by simp [results,Tryz.results147,go_sem,intR,y0,y1]) rfl ⟨0,3,rfl,.inl ⟨HN.out,rfl,rfl⟩,(B1.setCell (Nat.le_succ _) _).setCell (Nat.le_succ _) _⟩
  · have HO:Hid (OkShape s):=hx
    have HD:Hid (1 ≤ s 2 ∧ s 2 ≤ 1000):=by show 1 ≤ s 2 ∧ s 2 ≤ 1000;have:=hx.2.1;unfold Shp at this;omega
    clear hx;have CL:=rowLength_any s HD.out.1 HD.out.2;unfold shapeV at CL;have HM:Hid (∀ m,m = (l + s 2 * 4 - 1) / (s 2 * 4) → 1 ≤ l → l ≤ 3 * (s 2 * 4) → PfAns s l m 0):=fun m hm h1 h2 => .inr (.inr (.inr ⟨HO.out,h1,h2,rfl,hm⟩));have HM2:Hid (1 ≤ l → 3 * (s 2 * 4) < l → PfAns s l 0 2):=fun h1 h2 => .inr (.inr (.inl ⟨HO.out,h1,h2,rfl,rfl⟩));obtain ⟨S,hS⟩:∃ S,S = s 2 * 4:=⟨_,rfl⟩;rw [← hS] at CL HM HM2
    have q1:4 ≤ S:=by have:=HD.out.1;omega
    have q2:S ≤ 4000:=by have:=HD.out.2;omega
    clear hS
    by_cases c1:l < 1
    · go_wp2
      exact bodyPost_ret (v:=intR 6 0) (by simp [results,Tryz.results147,go_sem,intR,y0,y1]) rfl ⟨0,6,rfl,.inr (.inl ⟨HO.out,c1,rfl,rfl⟩),(B1.setCell (Nat.le_succ _) _).setCell (Nat.le_succ _) _⟩
    · go_wp2_with fail
      refine (CL _).mono ?_;rintro e w2 ⟨rfl,B2⟩;have z2:=B2.size;have B12:Below w.heap.size w w2:=B1.trans (B2.mono B1.size);have HX2:Hid (Box w2 (w.heap.size + 1) #[.int .i64 0,.int .i64 0] 167):=HX.out.below B2 z1;have HY2:Hid (Box w2 w.heap.size #[.int .i64 (s 0),.int .i64 (s 1),.int .i64 (s 2),.int .i64 (s 3),.int .i64 (s 4),.int .i64 (s 5),.int .i64 (s 6),.int .i64 (s 7),.int .i64 (s 8)] 34):=HX1.out.below B2 (by omega);clear x0 x1 x2 x3 x4 x5 x6 x7 x8 y0 y1 y2 y3 B2 HX HX1;obtain ⟨y0,y1,y2,y3⟩:=res_cells HX2.out;obtain ⟨x0,x1,x2,x3,x4,x5,x6,x7,x8⟩:=box9 HY2.out
      by_cases c2:3 * S < l
      · have t2:decide (3 * S < l) = true:=by simp;omega
        go_wp2;exact bodyPost_ret (v:=intR 2 0) (by simp [results,Tryz.results147,go_sem,intR,y0,y1]) rfl ⟨0,2,rfl,HM2.out (by omega) c2,(B12.setCell (Nat.le_succ _) _).setCell (Nat.le_succ _) _⟩
      · have t2:decide (3 * S < l) = false:=by simp;omega
        have q3:0 ≤ l + S - 1:=by omega
        go_wp2_with fail
        have K0:Hid (Below w2.heap.size w2 w2):=Below.refl _ _
        go_region_with (go_at_call 80;refine (CL _).mono ?_;rintro ee w3 ⟨rfl,hb3⟩;(first | (have hB2:Below w2.heap.size w2 w3:=hB.trans ((⟨hb3.os,hb3.tape,hb3.output,hb3.size,hb3.block⟩:Below _ _ _).mono hB.size);clear hb3;obtain ⟨v0,v1,v2,v3⟩:=res_cells (HX2.out.below hB2 (by omega));obtain ⟨u0,u1,u2,u3,u4,u5,u6,u7,u8⟩:=box9 (HY2.out.below hB2 (by omega))) | (have hB:Below w2.heap.size w2 w3:=⟨hb3.os,hb3.tape,hb3.output,hb3.size,hb3.block⟩;clear hb3;obtain ⟨u0,u1,u2,u3,u4,u5,u6,u7,u8⟩:=box9 (HY2.out.below hB (by omega)))))
        all_goals
          have B4:Below w.heap.size w w3:=B12.trans (hB2.mono B12.size);go_wp2;exact bodyPost_ret (v:=intR 0 ((l + S - 1) / S)) (by simp [results,Tryz.results147,go_sem,intR,v0,v1]) rfl ⟨(l + S - 1) / S,0,rfl,HM.out _ rfl (by omega) (by omega),(B4.setCell (Nat.le_succ _) _).setCell (Nat.le_succ _) _⟩
end Go.Proofs.YtaldlfoochmfcaaGreat
namespace Go.Proofs.YtaldlfoochmfcaaGreat
open Go.RowKit F256
theorem inBounds_b {x a b:Int} {t:Bool} (hab:a ≤ b) (ht:t = true ↔ InP x a b) (w:World) :
    Calls Tryz.prog 78 #[.int .i64 x,.int .i64 a,.int .i64 b] w fun e w' => e = .returned (.bool t) ∧ w' = w:=by
  by_cases h1:a ≤ x
  · by_cases h2:x ≤ b
    · obtain rfl:t = true:=ht.2 ⟨h1,h2⟩
      clear ht hab
      go_enter Tryz.func78,Tryz.ntmps78
      go_wp2;go_ret;exact ⟨rfl,rfl⟩
    · obtain rfl:t = false:=by
        cases t with
        | false => rfl
        | true => exact absurd (ht.1 rfl).2 h2
      clear ht hab;have hd:decide (x ≤ b) = false:=decide_eq_false h2
      go_enter Tryz.func78,Tryz.ntmps78
      go_wp2;go_ret;exact ⟨rfl,rfl⟩
  · obtain rfl:t = false:=by
      cases t with
      | false => rfl
      | true => exact absurd (ht.1 rfl).1 h1
    clear ht hab;have hd:decide (a ≤ x) = false:=decide_eq_false h1
    go_enter Tryz.func78,Tryz.ntmps78
    go_wp2;go_ret;exact ⟨rfl,rfl⟩
theorem groupCount_any (s:Nat → Int) (h:OkShape s) (w:World) :
    Calls Tryz.prog 79 #[shapeV s] w fun e w' => e = .returned (.int .i64 (s 0 + s 1)) ∧ Below w.heap.size w w':=by
  obtain ⟨h1,h2,_⟩:=h;unfold Shp3 at h1;have B0:=(one_new w #[.int .i64 (s 0),.int .i64 (s 1),.int .i64 (s 2),.int .i64 (s 3),.int .i64 (s 4),.int .i64 (s 5),.int .i64 (s 6),.int .i64 (s 7),.int .i64 (s 8)] 34).bel;unfold shapeV
  have hw:-9223372036854775808 ≤ s 0 + s 1 ∧ s 0 + s 1 ≤ 9223372036854775807:=by omega
  go_enter Tryz.func79,Tryz.ntmps79
  go_wp2;go_ret;exact ⟨rfl,B0⟩
theorem driveCount_any (s:Nat → Int) (h:OkShape s) (w:World) :
    Calls Tryz.prog 56 #[shapeV s] w fun e w' => e = .returned (.int .i64 (s 2 + s 3)) ∧ Below w.heap.size w w':=by
  obtain ⟨h1,h2,_⟩:=h;unfold Shp at h2;have B0:=(one_new w #[.int .i64 (s 0),.int .i64 (s 1),.int .i64 (s 2),.int .i64 (s 3),.int .i64 (s 4),.int .i64 (s 5),.int .i64 (s 6),.int .i64 (s 7),.int .i64 (s 8)] 34).bel;unfold shapeV
  have hw:-9223372036854775808 ≤ s 2 + s 3 ∧ s 2 + s 3 ≤ 9223372036854775807:=by omega
  go_enter Tryz.func56,Tryz.ntmps56
  go_wp2;go_ret;exact ⟨rfl,B0⟩
theorem okB {s:Nat → Int} (h:OkShape s):1 ≤ s 0 ∧ s 0 ≤ 4 ∧ 0 ≤ s 1 ∧ s 1 ≤ 2 ∧ 1 ≤ s 2 ∧ s 2 ≤ 3 ∧ 0 ≤ s 3 ∧ s 3 ≤ 2 ∧ 1 ≤ s 4 ∧ s 4 ≤ 6 ∧ 1 ≤ s 5 ∧ s 5 ≤ 6:=by
  obtain ⟨h1,h2,h3,h4,_⟩:=h;unfold Shp3 at h1;unfold Shp at h2;omega
theorem isGroup_b {s:Nat → Int} (h:OkShape s) {x:Int} {t:Bool} (ht:t = true ↔ InP x 0 (s 0 + s 1 - 1)) (w:World) :
    Calls Tryz.prog 52 #[shapeV s,.int .i64 x] w fun e w' => e = .returned (.bool t) ∧ Below w.heap.size w w':=by
  have hb:=okB h;have C:=groupCount_any s h;have CB:=fun w' => inBounds_b (w:=w') (show 0 ≤ s 0 + s 1 - 1 by omega) ht;have T0:=one_new w #[.int .i64 (s 0),.int .i64 (s 1),.int .i64 (s 2),.int .i64 (s 3),.int .i64 (s 4),.int .i64 (s 5),.int .i64 (s 6),.int .i64 (s 7),.int .i64 (s 8)] 34;unfold shapeV at C ⊢;clear ht h
  go_enter Tryz.func52,Tryz.ntmps52
  go_wp2_with fail
  refine (C _).mono ?_;rintro e w1 ⟨rfl,b1⟩;have HB:Hid (Below w.heap.size w w1):=(T0.call b1).bel;clear b1 T0 C
  go_wp2_with fail
  refine (CB _).mono ?_;rintro e w2 ⟨rfl,hw2⟩;obtain rfl:=hw2.symm;go_wp2;go_ret;exact ⟨rfl,HB.out⟩
theorem isDataGroup_b {s:Nat → Int} (h:OkShape s) {x:Int} {t:Bool} (ht:t = true ↔ InP x 0 (s 0 - 1)) (w:World) :
    Calls Tryz.prog 138 #[shapeV s,.int .i64 x] w fun e w' => e = .returned (.bool t) ∧ Below w.heap.size w w':=by
  have hb:=okB h;have CB:=fun w' => inBounds_b (w:=w') (show 0 ≤ s 0 - 1 by omega) ht;have HB:Hid (Below w.heap.size w (w.alloc (.cells #[.int .i64 (s 0),.int .i64 (s 1),.int .i64 (s 2),.int .i64 (s 3),.int .i64 (s 4),.int .i64 (s 5),.int .i64 (s 6),.int .i64 (s 7),.int .i64 (s 8)] 34))):=(one_new w #[.int .i64 (s 0),.int .i64 (s 1),.int .i64 (s 2),.int .i64 (s 3),.int .i64 (s 4),.int .i64 (s 5),.int .i64 (s 6),.int .i64 (s 7),.int .i64 (s 8)] 34).bel;unfold shapeV;clear ht h
  go_enter Tryz.func138,Tryz.ntmps138
  go_wp2_with fail
  refine (CB _).mono ?_;rintro e w2 ⟨rfl,hw2⟩;obtain rfl:=hw2.symm;go_wp2;go_ret;exact ⟨rfl,HB.out⟩
theorem isRow_b {s:Nat → Int} (h:OkShape s) {x:Int} {t:Bool} (ht:t = true ↔ InP x 0 (s 4 - 1)) (w:World) :
    Calls Tryz.prog 53 #[shapeV s,.int .i64 x] w fun e w' => e = .returned (.bool t) ∧ Below w.heap.size w w':=by
  have hb:=okB h;have CB:=fun w' => inBounds_b (w:=w') (show 0 ≤ s 4 - 1 by omega) ht;have HB:Hid (Below w.heap.size w (w.alloc (.cells #[.int .i64 (s 0),.int .i64 (s 1),.int .i64 (s 2),.int .i64 (s 3),.int .i64 (s 4),.int .i64 (s 5),.int .i64 (s 6),.int .i64 (s 7),.int .i64 (s 8)] 34))):=(one_new w #[.int .i64 (s 0),.int .i64 (s 1),.int .i64 (s 2),.int .i64 (s 3),.int .i64 (s 4),.int .i64 (s 5),.int .i64 (s 6),.int .i64 (s 7),.int .i64 (s 8)] 34).bel;unfold shapeV;clear ht h
  go_enter Tryz.func53,Tryz.ntmps53
  go_wp2_with fail
  refine (CB _).mono ?_;rintro e w2 ⟨rfl,hw2⟩;obtain rfl:=hw2.symm;go_wp2;go_ret;exact ⟨rfl,HB.out⟩
theorem rowLong_b {s:Nat → Int} (h:OkShape s) {ao:Option Addr} {n cap:Nat} (hn:n ≤ 9223372036854775807) {t:Bool} (ht:((n:Int) == s 2 * 4) = t) (w:World) :
    Calls Tryz.prog 54 #[shapeV s,.slice ao n cap] w fun e w' => e = .returned (.bool t) ∧ Below w.heap.size w w':=by
  have hb:=okB h;have C:=fun w' => rowLength_any s (by omega) (by omega) w';have T0:=one_new w #[.int .i64 (s 0),.int .i64 (s 1),.int .i64 (s 2),.int .i64 (s 3),.int .i64 (s 4),.int .i64 (s 5),.int .i64 (s 6),.int .i64 (s 7),.int .i64 (s 8)] 34;unfold shapeV at C ⊢;clear h
  go_enter Tryz.func54,Tryz.ntmps54
  go_wp2_with fail
  refine (C _).mono ?_;rintro e w1 ⟨rfl,b1⟩;have HB:Hid (Below w.heap.size w w1):=(T0.call b1).bel;clear b1 T0 C;go_wp2;go_ret;exact ⟨by simp [ht],HB.out⟩
set_option maxHeartbeats 4000000 in
theorem differWithin_any (v:Value) (n:Nat) (g:Nat → Int) (hi:Nat) (bound:Int) (hb1:1 ≤ bound) (hb2:bound ≤ 1000000) (w:World) (r:RdI w hi v n g) (hcp:CapP v n) (hhi:hi ≤ w.heap.size) :
    Calls Tryz.prog 106 #[v,.int .i64 bound] w (BoolP (ApartP n g (bound - 1)) w):=by
  have HR:Hid (RdI w hi v n g):=r;obtain ⟨ao,cap,rfl,hm,hc⟩:=r;obtain ⟨_,_,e,hcp⟩:=hcp
  cases e
  unfold maxLen at hm
  go_enter Tryz.func106,Tryz.ntmps106
  go_wp2
  go_loopw [9] (fun i wr => ∃ k:Nat,k ≤ n ∧ i = .int .i64 k ∧ ApartP k g (bound - 1) ∧ Below w.heap.size w wr) (fun i _ => n - (intOf i).toNat)
  case atStart => exact ⟨0,Nat.zero_le _,rfl,fun i hi => by omega,Below.refl _ _⟩
  case round =>
    obtain ⟨k,hk,rfl,hall,hb⟩:=hrel;have HALL:Hid (ApartP k g (bound - 1)):=hall;clear hall
    by_cases hlt:k < n
    · obtain ⟨b,off,rfl,hblt,hcell⟩:=hc (by omega)
      have hck:wr.cell? ⟨b,off + k,none⟩ = some (.int .i64 (g k)):=(hb.cell (p:=⟨b,off + k,none⟩) (by show b < w.heap.size;omega)).trans (hcell k hlt)
      have kcp:k ≤ cap:=by omega
      obtain ⟨t1,h1⟩:=exB (InP (g k) 0 (bound - 1));obtain ⟨t2,h2⟩:=exB (∃ t,t < k ∧ g t = g k);have C1:=fun w' => inBounds_b (w:=w') (show 0 ≤ bound - 1 by omega) h1;have C2:=det_b (contains_any (.slice (some ⟨b,off,none⟩) k cap) k g hi (g k) wr ((HR.out.part hk (by omega)).below hb hhi)) h2;have H1:Hid (t1 = true ↔ InP (g k) 0 (bound - 1)):=h1;have H2:Hid (t2 = true ↔ ∃ t,t < k ∧ g t = g k):=h2;obtain ⟨y,hy⟩:∃ y,y = g k:=⟨_,rfl⟩;have HY:Hid (y = g k):=hy;rw [← hy] at hck C1 C2;have HB:Hid (Below w.heap.size w wr):=hb;clear hc hcell h1 h2 hy hb
      go_wp2_with fail
      refine (C1 _).mono ?_;rintro e w' ⟨rfl,hw'⟩;obtain rfl:=hw'.symm;clear C1
      cases t1 with
      | false =>
        go_wp2;go_ret
        exact boolNo rfl (fun h => by
          have:=H1.out.2 (h k hlt).1
          simp at this) HB.out
      | true =>
        go_wp2_with fail
        refine C2.mono ?_;rintro e w2 ⟨rfl,b2⟩;have HB2:Hid (Below w.heap.size w w2):=HB.out.trans (b2.mono HB.out.size);clear b2 C2
        cases t2 with
        | true =>
          go_wp2;go_ret
          exact boolNo rfl (fun h => by
            obtain ⟨t,ht,e⟩:=H2.out.1 (by simp)
            exact (h k hlt).2 t ht e) HB2.out
        | false =>
          go_wp2
          go_roundw
          case rel => exact ⟨k + 1,by omega,by go_num,fun i hi => by
                        by_cases c:i = k
                        · subst c
                          exact ⟨H1.out.1 (by simp),fun t ht e => by
                            have:=H2.out.2 ⟨t,ht,e⟩
                            simp at this⟩
                        · exact HALL.out i (by omega),HB2.out⟩
          case measure => simp [intOf];omega
    · obtain rfl:k = n:=by omega
      go_wp2;go_ret;exact boolYes rfl HALL.out hb
end Go.Proofs.YtaldlfoochmfcaaGreat
namespace Go.Proofs.YtaldlfoochmfcaaGreat
open Go.RowKit F256
theorem run_appendAt (w:World) (ty:TypeId) (lo hi:Nat) (v:Value) (n:Nat) (f:Nat → Nat) (hown:Own w lo hi v n f) (b c:Nat) (hcell:w.cell? ⟨b,0,none⟩ = some (.int .u8 (f n))) (hn:n + 1 ≤ 1000000) (hlo:lo ≤ w.heap.size) :
    ∃ v' w',(Builtin.append_ #[29,29] ty #[v,.slice (some ⟨b,0,none⟩) 1 c]).run Tryz.prog w = .ok v' w' ∧ Own w' lo w'.heap.size v' (n + 1) f ∧ w.grownBy w' v.ownBlock ∧ (v'.ownBlock = v.ownBlock ∨ v'.ownBlock = some w.heap.size):=by
  obtain ⟨i0,hi0,hz0,hz1,hz2⟩:=info_parts info_u8
  obtain ⟨v',w',hr,h2,h3,_,h4⟩:=run_append_own_at (P:=Tryz.prog) w lo 29 ty 5 i0 (.int .u8 0) 1 1 Tryz.underlying29 hi0 hz0 hz1 hz2 rfl (by decide) v n (cellsOf n f) hown.1 ⟨b,0,none⟩ 1 c [.int .u8 (f n)] rfl
    (fun j u hj => by
      match j,hj with
      | 0,hj => simp at hj;subst hj;simpa [Addr.add] using hcell)
    (fun u hu => by simp at hu;subst hu;rfl) (by unfold maxLen;omega) (by omega) hlo
  rw [cellsOf_snoc] at h2;exact ⟨v',w',hr,⟨h2,fun k hk => (h2.lt k hk).2⟩,h3,h4⟩
theorem step_appendAt {ops:Array Oper} {o:Oper} {a:Act} {w:World} {K:Act → World → Prop} {Q:Exit → Act → World → Prop} {E:Prop}
    (hg:o.guard = none) (s x:Operand) (hop:o.op = Op.call { callee:=Callee.builtin Builtin.append,args:=#[s,x],argTypes:=#[29,29] })
    (lo hi:Nat) (v:Value) (n:Nat) (f:Nat → Nat) (hs:a.eval s = v) (hown:Own w lo hi v n f) (b c:Nat) (hx:a.eval x = .slice (some ⟨b,0,none⟩) 1 c) (hcell:w.cell? ⟨b,0,none⟩ = some (.int .u8 (f n)))
    (hn:n + 1 ≤ 1000000) (hlo:lo ≤ w.heap.size)
    (hK:∀ v' w',Own w' lo w'.heap.size v' (n + 1) f → w.grownBy w' v.ownBlock → (v'.ownBlock = v.ownBlock ∨ v'.ownBlock = some w.heap.size) → K (a.put o.dst v') w') :
    if Region.wanted o (yielded ops a.tmps) = true then Oper.wp Tryz.prog o a w K Q else E:=by
  have hw:Region.wanted o (yielded ops a.tmps) = true:=by simp [Region.wanted,hg]
  rw [if_pos hw];obtain ⟨v',w',hrun,r1,r2,r3⟩:=run_appendAt w o.type lo hi v n f hown b c hcell hn hlo;unfold Oper.wp
  simp [execOp,hop,resolve,invoke,builtin,hs,hx,hrun,Result.andThen]
  exact hK v' w' r1 r2 r3
theorem OwnE.grow {w w2:World} {lo:Nat} {v:Value} {R:Nat} {n n':Nat → Nat} {M:Mat} {g cap:Nat} {e:Nat → Value} {x:Value} {o:Obj} (h:OwnE w lo w.heap.size v R n M g cap e) (i:Nat) (hi':i < R)
    (hg:(w.alloc o).grownBy w2 (e i).ownBlock) (ho:Own w2 lo w2.heap.size x (n' i) (M i)) (hx:x.ownBlock = (e i).ownBlock ∨ x.ownBlock = some (w.heap.size + 1)) (hn:∀ j,j < R → j ≠ i → n' j = n j) :
    OwnE (w2.setCell ⟨g,i,none⟩ x) lo w2.heap.size v R n' M g cap (fun j => if j = i then x else e j):=by
  have hs:w.heap.size + 1 ≤ w2.heap.size:=by have:=hg.size;simpa using this
  have hhi:=h.high
  have kp:∀ b,b < w.heap.size → (e i).ownBlock ≠ some b → w2.heap[b]? = w.heap[b]?:=fun b hb hne =>
    (hg.block b (by simp;omega) (fun hh => hne hh.symm)).trans (Below.heap_alloc w o b hb)
  have hr:=row_kept (w':=w2) h.row fun b hb => by
    have e1:b = g:=by rw [h.val] at hb;simpa [Value.ownBlock] using hb.symm
    subst e1;exact kp b hhi (h.apart.1 i hi')
  rw [h.val] at hr;have hst:=(hr.stored i x).1;rw [valsOf_set R e (fun j => if j = i then x else e j) i x hi' (fun j _ => rfl)] at hst;have oth:∀ b,b ≠ g → (w2.setCell ⟨g,i,none⟩ x).heap[b]? = w2.heap[b]?:=fun b hbg => heap_setCell_other w2 ⟨g,i,none⟩ b _ hbg;have low:∀ q,q < R → ∀ k,(e q).ownBlock = some k → k < w.heap.size:=fun q hq k hk => (h.each q hq).2 k hk
  have xng:x.ownBlock ≠ some g:=fun hh => by
    rcases hx with hx | hx
    · rw [hx] at hh
      exact h.apart.1 i hi' hh
    · rw [hx] at hh
      cases hh
      omega
  refine ⟨h.val,h.low,by omega,by rw [h.val];exact hst,fun j hj => ?_,⟨fun j hj => ?_,fun j l hj hl hne k hk => ?_⟩⟩
  · by_cases c:j = i
    · subst c
      simp only [if_pos]
      exact ho.kept fun k hk => oth k fun hkg => xng (by rw [hk,hkg])
    · simp only [if_neg c]
      rw [hn j hj c];refine ((h.each j hj).kept fun k hk => ?_).weaken (Nat.le_refl _) (by omega);exact (oth k fun hkg => h.apart.1 j hj (by rw [hk,hkg])).trans (kp k (low j hj k hk) fun hh => h.apart.2 i j hi' hj (fun z => c z.symm) k hh hk)
  · by_cases c:j = i
    · simp only [if_pos c]
      exact xng
    · simp only [if_neg c]
      exact h.apart.1 j hj
  · by_cases c:j = i
    · have c2:¬ l = i:=fun z => hne (by rw [c,z])
      simp only [if_pos c] at hk
      simp only [if_neg c2]
      intro hh
      rcases hx with hx | hx
      · rw [hx] at hk
        exact h.apart.2 i l hi' hl (fun z => c2 z.symm) k hk hh
      · rw [hx] at hk
        cases hk
        have:=low l hl _ hh;omega
    · simp only [if_neg c] at hk
      by_cases c2:l = i
      · simp only [if_pos c2]
        intro hh
        rcases hx with hx | hx
        · rw [hx] at hh
          exact h.apart.2 i j hi' hj (fun z => c z.symm) k hh hk
        · rw [hx] at hh
          cases hh
          have:=low j hj _ hk;omega
      · simp only [if_neg c2]
        exact h.apart.2 j l hj hl hne k hk
end Go.Proofs.YtaldlfoochmfcaaGreat
namespace Go.Proofs.YtaldlfoochmfcaaGreat
open Go.RowKit F256
set_option maxHeartbeats 1000000 in
theorem firstLeading_any (v:Value) (R C:Nat) (M:Mat) (hi:Nat) (r c:Nat) (hr:r ≤ R) (hc:c < C) (hR:R ≤ 1000000) (hC:C ≤ 1000000) (w:World) (h:RdM w hi v R (fun _ => C) M) :
    Calls Tryz.prog 154 #[v,.int .i64 r,.int .i64 c] w fun e w' => e = .returned (.int .i64 (lead M c R r)) ∧ w' = w:=by
  obtain ⟨ao,cap,e,rfl,hm,hcc,he⟩:=h
  go_enter Tryz.func154,Tryz.ntmps154
  go_wp2
  go_loop [7] (fun i => ∃ k:Nat,r ≤ k ∧ k ≤ R ∧ i = .int .i64 k ∧ ∀ j,r ≤ j → j < k → M j c = 0) (fun i => R - (intOf i).toNat)
  case atStart => exact ⟨r,Nat.le_refl _,hr,rfl,fun j h1 h2 => by omega⟩
  case round =>
    obtain ⟨k,hk1,hk,rfl,hz⟩:=hrel
    by_cases hlt:k < R
    · obtain ⟨b,off,rfl,hblt,hcell⟩:=hcc (by omega)
      obtain ⟨aok,capk,hsk,hmk,hqk⟩:=he k hlt;obtain ⟨b2,off2,rfl,hlt2,hcell2⟩:=hqk (by omega)
      have hck:w.cell? ⟨b,off + k,none⟩ = some (.slice (some ⟨b2,off2,none⟩) C capk):=by rw [← hsk];exact hcell k hlt
      have hcc2:w.cell? ⟨b2,off2 + c,none⟩ = some (.int .u8 (M k c)):=hcell2 c hc;have HZ:Hid (∀ j,r ≤ j → j < k → M j c = 0):=hz;obtain ⟨x,hx⟩:∃ x,x = M k c:=⟨_,rfl⟩;have HX:Hid (x = M k c):=hx;rw [← hx] at hcc2;clear hcc he hcell hsk hcell2 hz hx
      by_cases h0:x = 0
      · subst h0
        go_wp2
        go_round
        case rel => exact ⟨k + 1,by omega,by omega,by go_num,fun j h1 h2 => by
                      by_cases ej:j = k
                      · rw [ej,← HX.out]
                      · exact HZ.out j h1 (by omega)⟩
        case measure => simp [intOf];omega
      · have ht:((x:Int) != 0) = true:=by simp;omega
        go_wp2;go_ret;exact ⟨ret_eq (by rw [lead_eq (a:=k) ⟨hk1,by omega,HZ.out,fun _ => by rw [← HX.out];exact h0⟩]),rfl⟩
    · have hkn:k = R:=by omega
      subst hkn;have HZ:Hid (∀ j,r ≤ j → j < k → M j c = 0):=hz;clear hz;go_wp2;go_ret;exact ⟨ret_eq (by rw [lead_eq (a:=k) ⟨hk1,Nat.le_refl _,HZ.out,fun h => by omega⟩]),rfl⟩
theorem addScaled_two (v1 v2:Value) (n:Nat) (f l g:Nat → Nat) (c:Nat) (lo hi:Nat) (w:World) (hs:Own w lo hi v1 n f) (hr:Own w lo hi v2 n l) (hne:∀ k,v1.ownBlock = some k → v2.ownBlock ≠ some k) (hlh:lo ≤ hi) (hhi:hi ≤ w.heap.size)
    (kf:∀ i,f i < 256) (kl:∀ i,l i < 256) (hc:c < 256) (hg:∀ i,i < n → g i = f i ^^^ mulN c (l i)) (hn:n ≤ 1000000000) :
    Calls Tryz.prog 129 #[v1,v2,.int .u8 c] w fun e w' => e = .returned (.tuple #[]) ∧ Own w' lo hi v1 n g ∧ Chg (tlo v1 lo) (thi v1 lo) w w':=by
  by_cases h0:n = 0
  · subst h0
    refine (addScaled_nil v1 v2 f l c hi hi w hs.rd hr.rd hc).mono fun e w' ⟨he,hb⟩ => ⟨he,(hs.below hb hhi).congr (fun i hi => by omega),Below.chg hb _ _⟩
  · obtain ⟨g0,cap0,rfl,h1,h2,h3,h4⟩:=hs.form h0
    obtain ⟨b,cap,rfl,h1',h2',h3',h4'⟩:=hr.form h0;have hbg:b ≠ g0:=fun hh => hne g0 rfl (by simp [Value.ownBlock,hh]);have ht:tlo (.slice (some ⟨g0,0,none⟩) n cap0) lo = g0:=rfl;have ht2:thi (.slice (some ⟨g0,0,none⟩) n cap0) lo = g0 + 1:=rfl;have hst:=hs.tight;rw [ht,ht2] at hst ⊢
    have hcell:∀ i,i < n → w.cell? ⟨b,0 + i,none⟩ = some (.int .u8 (l i)):=fun i hi => by rw [Nat.zero_add,hr.1.cellAt i (by omega),cellsOf_get _ _ _ hi]
    refine (addScaled_core g0 cap0 n f l g c g0 (g0 + 1) b 0 cap w hst (by omega) h3' (by omega) hcell (Nat.le_refl _) (Nat.lt_succ_self _) kf kl hc hg hn).mono fun e w' ⟨he,ho,hch⟩ => ⟨he,?_,hch⟩;exact hs.untight ho
set_option maxHeartbeats 2000000 in
theorem clearColumn_any (v:Value) (R C:Nat) (M:Mat) (lo hi:Nat) (r c:Nat) (g cap:Nat) (e:Nat → Value) (hr:r < R) (hc:c < C) (hR:R ≤ 1000000) (hC:C ≤ 1000000) (kM:Byt M) (w:World) (h:OwnE w lo hi v R (fun _ => C) M g cap e) (hhi:hi ≤ w.heap.size) :
    Calls Tryz.prog 156 #[v,.int .i64 r,.int .i64 c] w fun ee w' => ee = .returned (.tuple #[]) ∧ OwnE w' lo hi v R (fun _ => C) (clearM M r c R) g cap e ∧ Chg lo hi w w':=by
  obtain rfl:=h.val;have hlh:lo ≤ hi:=Nat.le_trans h.low (Nat.le_of_lt h.high)
  go_enter Tryz.func156,Tryz.ntmps156
  go_wp2
  go_loopw [6,9] (fun _ i wr => ∃ k:Nat,k ≤ R ∧ i = .int .i64 k ∧ OwnE wr lo hi (.slice (some ⟨g,0,none⟩) R cap) R (fun _ => C) (clearM M r c k) g cap e ∧ Chg lo hi w wr) (fun _ i _ => R - (intOf i).toNat)
  case atStart => exact ⟨0,Nat.zero_le _,rfl,by rw [clearM_zero];exact h,Chg.refl' _ _ _⟩
  case round =>
    clear h;obtain ⟨k,hk,rfl,hE,hch⟩:=hrel
    by_cases hlt:k < R
    · by_cases hkr:k = r
      · subst hkr
        have E:Hid (OwnE wr lo hi (.slice (some ⟨g,0,none⟩) R cap) R (fun _ => C) (clearM M k c (k + 1)) g cap e):=by rw [clearM_skip];exact hE
        clear hE;go_wp2
        go_roundw
        case rel => exact ⟨k + 1,by omega,by go_num,E.out,hch⟩
        case measure => simp [intOf];omega
      · have ht:((k:Int) != (r:Int)) = true:=by simp;omega
        have kB:=clearM_byt kM r c k;have ck:=hE.cell k hlt;have cr:=hE.cell r hr;have ok:=hE.each k hlt;have or:=hE.each r hr;obtain ⟨gk,capk,hek,_,_,hgk,_⟩:=ok.form (by omega)
        have hcc:wr.cell? ⟨gk,c,none⟩ = some (.int .u8 (clearM M r c k k c)):=by
          have:=ok.1;rw [hek] at this;rw [this.cellAt c (by omega),cellsOf_get _ _ _ hc]
        have hcy:=kB k c;obtain ⟨y,hy⟩:∃ y,y = clearM M r c k k c:=⟨_,rfl⟩;have hsz:=hch.size
        have A:=addScaled_two (e k) (e r) C (clearM M r c k k) (clearM M r c k r) (clearM M r c (k + 1) k) y lo hi (wr.drewN 1) ok or (hE.apart.2 k r hlt hr hkr) hlh (by show hi ≤ wr.heap.size;omega) (kB k) (kB r) (by rw [hy];exact hcy)
          (fun j hj => by rw [clearM_next hkr,hy];simp) (by omega)
        rw [← hy] at hcc hcy;obtain ⟨ek,hek'⟩:∃ x,x = e k:=⟨_,rfl⟩;obtain ⟨er,her'⟩:∃ x,x = e r:=⟨_,rfl⟩;rw [← hek'] at ck A hek;rw [← her'] at cr A;have HEK:Hid (ek = e k):=hek';subst hek;have HE:Hid (OwnE wr lo hi (.slice (some ⟨g,0,none⟩) R cap) R (fun _ => C) (clearM M r c k) g cap e):=hE;have HTS:Hid (lo ≤ tlo (e k) lo ∧ thi (e k) lo ≤ hi):=tight_sub ok hlh;clear hy hek' her' ok or hE kB;go_wp2
        go_region_with (go_at_call 129;refine A.mono ?_;rintro ee w3 ⟨rfl,ho3,hc3⟩)
        all_goals
          have c3:Chg (tlo (e k) lo) (thi (e k) lo) wr w3:=by rw [← HEK.out];exact ⟨hc3.os,hc3.tape,hc3.output,hc3.size,hc3.block⟩
          have E3:OwnE w3 lo hi (.slice (some ⟨g,0,none⟩) R cap) R (fun _ => C) (clearM M r c (k + 1)) g cap e:=HE.out.upd k hlt c3 (by rw [← HEK.out];exact ho3) (fun j hj hne => by rw [clearM_next hkr];simp [hne]);have C3:Chg lo hi w w3:=hch.trans (c3.widen HTS.out.1 HTS.out.2);clear c3 hc3 ho3 HE A HEK HTS;go_wp2
          go_roundw
          case rel => exact ⟨k + 1,by omega,by go_num,E3,C3⟩
          case measure => simp [intOf];omega
    · have hkn:k = R:=by omega
      subst hkn;go_wp2
      go_end0
      exact ⟨rfl,hE,hch⟩
end Go.Proofs.YtaldlfoochmfcaaGreat
namespace Go.Proofs.YtaldlfoochmfcaaGreat
open Go.RowKit F256
theorem undrewN' {B:Nat} {w w2:World} {m:Nat} (h:Below B (w.drewN m) w2):Below B w w2:=⟨h.os,h.tape,h.output,h.size,h.block⟩
set_option maxHeartbeats 4000000 in
theorem reduceRows_any (v:Value) (R C n:Nat) (M:Mat) (lo:Nat) (g cap:Nat) (e:Nat → Value) (hn:n ≤ C) (hR:R ≤ 1000000) (hC:C ≤ 1000000) (kM:Byt M) (w:World) (h:OwnE w lo w.heap.size v R (fun _ => C) M g cap e) :
    Calls Tryz.prog 151 #[v,.int .i64 n] w fun ee w' => ee = .returned (.int .i64 ((gaussM R M n).2)) ∧ (∃ e',OwnE w' lo w'.heap.size v R (fun _ => C) (gaussM R M n).1 g cap e') ∧ Below lo w w':=by
  obtain rfl:=h.val
  go_enter Tryz.func151,Tryz.ntmps151
  go_wp2
  go_loopw [5,6,7,9] (fun d _ _ i wr => ∃ k:Nat,k ≤ n ∧ i = .int .i64 k ∧ d = .int .i64 ((gaussM R M k).2) ∧ (∃ e',OwnE wr lo wr.heap.size (.slice (some ⟨g,0,none⟩) R cap) R (fun _ => C) (gaussM R M k).1 g cap e') ∧ Below lo w wr) (fun _ _ _ i _ => n - (intOf i).toNat)
  case atStart => exact ⟨0,Nat.zero_le _,rfl,rfl,⟨e,h⟩,Below.refl _ _⟩
  case round =>
    clear h e;obtain ⟨k,hk,rfl,rfl,⟨e,hE⟩,hbel⟩:=hrel;have hle:=gaussM_le (R:=R) (M:=M) k;have kB:=gaussM_byt (R:=R) kM k;have hstep:gaussM R M (k + 1) = stepM R (gaussM R M k) k:=rfl;obtain ⟨S,hS⟩:∃ S,S = gaussM R M k:=⟨_,rfl⟩;rw [← hS] at hle kB hstep hE
    by_cases hlt:k < n
    · have L:=firstLeading_any _ R C S.1 _ S.2 k hle.1 (by omega) hR hC wr hE.rd
      have HS:Hid (S = gaussM R M k):=hS;have HST:Hid (gaussM R M (k + 1) = stepM R S k):=hstep;rw [← hS];clear hS hstep;obtain ⟨r,hr⟩:∃ r,r = S.2:=⟨_,rfl⟩;obtain ⟨a,hal⟩:∃ a,a = lead S.1 k R S.2:=⟨_,rfl⟩;have hlead:=lead_is S.1 k R S.2 hle.1;rw [← hal] at hlead L;rw [← hr] at hle hlead L ⊢;have HR:Hid (r = S.2):=hr;have HA:Hid (a = lead S.1 k R S.2):=hal;clear hr hal
      go_wp2_with fail
      refine L.mono ?_;rintro ee wx ⟨rfl,hwx⟩;obtain rfl:=hwx.symm;clear L;have ha:=hlead.2.1;have hra:=hlead.1
      by_cases haR:a = R
      · have N0:gaussM R M (k + 1) = S:=by
          rw [HST.out];unfold stepM;rw [if_pos (by rw [← HA.out];exact haR)]
        have N:Hid (gaussM R M (k + 1) = S):=N0;clear N0;subst haR;clear hlead;go_wp2
        go_roundw
        case rel => exact ⟨k + 1,by omega,by go_num,val_eq (by rw [N.out,HR.out]),⟨e,by rw [N.out];exact hE⟩,hbel⟩
        case measure => simp [intOf];omega
      · have haR':a < R:=by omega
        have hrR:r < R:=by omega
        have t1:((a:Int) == (R:Int)) = false:=by simp;omega
        have ca:=hE.cell a haR';have cr:=hE.cell r hrR;have fa:=hE.frozen a;have fr:=hE.frozen r;have hsw:=hE.swap r a hrR haR' (Nat.le_refl _);have oa:=hE.each a haR';have or:=hE.each r hrR;obtain ⟨ga,capa,hea,_,_,_,_⟩:=oa.form (by omega);obtain ⟨gr,capr,her,_,_,_,_⟩:=or.form (by omega);obtain ⟨ea,hea'⟩:∃ x,x = e a:=⟨_,rfl⟩;obtain ⟨er,her'⟩:∃ x,x = e r:=⟨_,rfl⟩;rw [← hea'] at ca hea hsw;rw [← her'] at cr her hsw;have HSW:Hid (OwnE ((wr.setCell ⟨g,r,none⟩ ea).setCell ⟨g,a,none⟩ er) lo wr.heap.size (.slice (some ⟨g,0,none⟩) R cap) R (fun _ => C) (swapM S.1 r a) g cap (fun j => if j = r then ea else if j = a then er else e j)):=hsw;clear hsw hE oa or hea' her';subst hea her;obtain ⟨va,hva⟩:=cell?_setCell_some (w:=wr) (p:=⟨g,r,none⟩) (x:=.slice (some ⟨ga,0,none⟩) C capa) (q:=⟨g,a,none⟩) ca;go_wp2
        go_region
        have hE1:=HSW.out.drewN 1;have hb1:Below lo w (((wr.setCell ⟨g,r,none⟩ (.slice (some ⟨ga,0,none⟩) C capa)).setCell ⟨g,a,none⟩ (.slice (some ⟨gr,0,none⟩) C capr)).drewN 1):=below_drewN ((hbel.setCell hE1.low _).setCell hE1.low _) 1
        have hz1:wr.heap.size = (((wr.setCell ⟨g,r,none⟩ (.slice (some ⟨ga,0,none⟩) C capa)).setCell ⟨g,a,none⟩ (.slice (some ⟨gr,0,none⟩) C capr)).drewN 1).heap.size:=by simp
        rw [hz1] at hE1;have kB1:Byt (swapM S.1 r a):=swapM_byt kB r a;rw [World.drew_is_drewN];clear HSW hbel hz1 ca cr fa fr hva kB
        generalize ((wr.setCell ⟨g,r,none⟩ (.slice (some ⟨ga,0,none⟩) C capa)).setCell ⟨g,a,none⟩ (.slice (some ⟨gr,0,none⟩) C capr)).drewN 1 = wq at hE1 hb1 ⊢
        generalize (fun j => if j = r then Value.slice (some ⟨ga,0,none⟩) C capa else if j = a then Value.slice (some ⟨gr,0,none⟩) C capr else e j) = e1 at hE1
        obtain ⟨M1,hM1⟩:∃ M1,M1 = swapM S.1 r a:=⟨_,rfl⟩;have HM1:Hid (M1 = swapM S.1 r a):=hM1;rw [← hM1] at hE1 kB1;clear hM1;have c1:=hE1.cell r hrR;have o1:=hE1.each r hrR;obtain ⟨gq,capq,heq,hq1,hq2,hq3,_⟩:=o1.form (by omega)
        have hcc:wq.cell? ⟨gq,k,none⟩ = some (.int .u8 (M1 r k)):=by
          have:=o1.1;rw [heq] at this;rw [this.cellAt k (by omega),cellsOf_get _ _ _ (by omega)]
        have hy:=kB1 r k;have fz:=hE1.frozen r;have hgl:=hE1.high;obtain ⟨y,hyd⟩:∃ y,y = M1 r k:=⟨_,rfl⟩;have HY:Hid (y = M1 r k):=hyd;rw [← hyd] at hcc hy;have I:=implInv_any y hy (wq.drewN 1)
        have SC:∀ w2,Below wq.heap.size wq w2 → Calls Tryz.prog 155 #[e1 r,.int .u8 (powN y 254)] w2 fun e w' => ∃ v',e = .returned v' ∧ Own w' w2.heap.size w'.heap.size v' C (fun j => mulN (powN y 254) (M1 r j)) ∧ Below w2.heap.size w2 w':=fun w2 hb2 =>
          scaled_any (e1 r) C (M1 r) (fun j => mulN (powN y 254) (M1 r j)) (powN y 254) wq.heap.size w2 (o1.rd.below hb2 (Nat.le_refl _)) hb2.size (kB1 r) (powN_lt _) (fun _ _ => rfl) (by omega)
        obtain ⟨er1,her1⟩:∃ x,x = e1 r:=⟨_,rfl⟩;rw [← her1] at c1 SC heq;have HO:Hid (OwnE wq lo wq.heap.size (.slice (some ⟨g,0,none⟩) R cap) R (fun _ => C) M1 g cap e1):=hE1;clear hyd her1 o1 hE1 hlead;subst heq;go_wp2
        go_region_with (first | (go_at_call 153;refine I.mono ?_;rintro ee w2 ⟨rfl,hb2⟩;have q0:w2.cell? ⟨g,r,none⟩ = some (.slice (some ⟨gq,0,none⟩) C capq):=((undrewN' hb2).cell (p:=⟨g,r,none⟩) hgl).trans c1) | (go_at_call 155;refine (SC _ (undrewN' hb2)).mono ?_;rintro ee w3 ⟨v3,rfl,ho3,hb3⟩;obtain ⟨ao3,cap3,rfl⟩:=ho3.slice;have q1:w3.cell? ⟨g,r,none⟩ = some (.slice (some ⟨gq,0,none⟩) C capq):=((bthen (w:=wq) (undrewN' hb2) hb3).cell (p:=⟨g,r,none⟩) hgl).trans c1;have q2:w3.frozen? ⟨g,r,none⟩ = false:=((bthen (w:=wq) (undrewN' hb2) hb3).frozen (p:=⟨g,r,none⟩) hgl).trans fz))
        all_goals
          have hb23:Below wq.heap.size wq w3:=bthen (w:=wq) (undrewN' hb2) hb3
          have hsr:scaleM M1 r k r = fun j => mulN (powN y 254) (M1 r j):=by simp only [scaleM,if_pos,HY.out]
          have ho4:Own w3 wq.heap.size w3.heap.size (.slice ao3 C cap3) C (scaleM M1 r k r):=by rw [hsr];exact ho3.weaken (by have:=(undrewN' hb2).size;omega) (Nat.le_refl _)
          have E4:=HO.out.put r hrR hb23 (Nat.le_refl _) ho4 (fun j hj hne => by simp only [scaleM,if_neg hne]);have B4:Below lo w (w3.setCell ⟨g,r,none⟩ (.slice ao3 C cap3)):=(hb1.trans (hb23.mono (by have:=HO.out.low;have:=HO.out.high;omega))).setCell HO.out.low _
          have Z4:w3.heap.size = (w3.setCell ⟨g,r,none⟩ (.slice ao3 C cap3)).heap.size:=by simp
          rw [Z4] at E4;have kB4:Byt (scaleM M1 r k):=scaleM_byt kB1 r k;clear hb23 hsr ho4 ho3 hb2 hb3 q0 q1 q2 Z4 HO c1 hcc fz I SC hgl hq1 hq2 hq3
          generalize w3.setCell ⟨g,r,none⟩ (.slice ao3 C cap3) = w4 at E4 B4 ⊢
          generalize (fun j => if j = r then Value.slice ao3 C cap3 else e1 j) = e4 at E4
          have CC:=clearColumn_any _ R C (scaleM M1 r k) lo w4.heap.size r k g cap e4 hrR (by omega) hR hC kB4 w4 E4 (Nat.le_refl _)
          go_wp2_with fail
          refine CC.mono ?_;rintro ee w5 ⟨rfl,E5,C5⟩
          have hlo:lo ≤ w4.heap.size:=by have:=E4.low;have:=E4.high;omega
          have E6:=E5.weaken C5.size;have B6:Below lo w w5:=B4.trans (C5.below (Nat.le_refl _) hlo)
          have N0:gaussM R M (k + 1) = (clearM (scaleM M1 r k) r k R,r + 1):=by
            rw [HST.out];unfold stepM;rw [if_neg (by rw [← HA.out];exact haR),← HA.out,← HR.out,← HM1.out]
          have N:Hid (gaussM R M (k + 1) = (clearM (scaleM M1 r k) r k R,r + 1)):=N0;clear N0 CC E4 E5 B4 C5 hlo;go_wp2
          go_roundw
          case rel => exact ⟨k + 1,by omega,by go_num,val_eq (by rw [N.out];show _ = ((r + 1:Nat):Int);omega),⟨e4,by rw [N.out];exact E6⟩,B6⟩
          case measure => simp [intOf];omega
    · have hkn:k = n:=by omega
      subst hkn;rw [hS] at hE;go_wp2;go_ret;exact ⟨rfl,⟨e,hE⟩,hbel⟩
end Go.Proofs.YtaldlfoochmfcaaGreat
namespace Go.Proofs.YtaldlfoochmfcaaGreat
open Go.RowKit F256
theorem OwnE.congrN {w:World} {lo hi:Nat} {v:Value} {R:Nat} {n n':Nat → Nat} {M:Mat} {g cap:Nat} {e:Nat → Value} (h:OwnE w lo hi v R n M g cap e) (hn:∀ i,i < R → n i = n' i):OwnE w lo hi v R n' M g cap e :=
  ⟨h.val,h.low,h.high,h.row,fun i hi => by rw [← hn i hi];exact h.each i hi,h.apart⟩
end Go.Proofs.YtaldlfoochmfcaaGreat
namespace Go.Proofs.YtaldlfoochmfcaaGreat
open Go.RowKit F256
def SolveAns (R m:Nat) (n:Nat → Nat) (f:Mat) (c:Nat → Nat) (x:Int):Prop :=
  (x = 2 ∧ 16 < R) ∨ (x = 1 ∧ R ≤ 16 ∧ (R = 0 ∨ m ≠ R ∨ ∃ i,i < R ∧ n i ≠ R)) ∨ (R ≤ 16 ∧ R ≠ 0 ∧ m = R ∧ (∀ i,i < R → n i = R) ∧ ((x = 4 ∧ (gaussM R (aug R f c) R).2 < R) ∨ (x = 0 ∧ (gaussM R (aug R f c) R).2 = R)))
set_option maxHeartbeats 8000000 in
theorem implSolve_any (v1 v2:Value) (R m:Nat) (n:Nat → Nat) (f:Mat) (c:Nat → Nat) (l1 h1 l2 h2:Nat) (w:World) (o1:OwnM w l1 h1 v1 R n f) (o2:Own w l2 h2 v2 m c) (hh1:h1 ≤ w.heap.size) (hh2:h2 ≤ w.heap.size) (kf:Byt f) (kc:∀ i,c i < 256) :
    Calls Tryz.prog 141 #[v1,v2] w fun ee w' => ∃ x v',ee = .returned (bytesR x v') ∧ SolveAns R m n f c x ∧ Own w' w.heap.size w'.heap.size v' (if x = 0 then R else 0) (if x = 0 then (fun i => (gaussM R (aug R f c) R).1 i R) else fun _ => 0) ∧ Below w.heap.size w w':=by
  obtain ⟨gA,cA,e,r1⟩:=o1
  have hm:R ≤ maxLen:=by obtain ⟨_,_,_,_,h,_⟩:=r1.rd;exact h
  have hm2:=o2.le;unfold maxLen at hm hm2;obtain rfl:=r1.val;obtain ⟨ao2,cap2,rfl⟩:=o2.slice;have hb0:Below w.heap.size w (w.alloc (.cells #[.int .i64 0,.slice none 0 0] 32)):=(Below.refl _ _).alloc (Nat.le_refl _) _;have HA:Hid (OwnE w l1 h1 (.slice (some ⟨gA,0,none⟩) R cA) R n f gA cA e):=r1;have H2:Hid (Own w l2 h2 (.slice ao2 m cap2) m c):=o2;have CE:=equallyLong_any _ R n f h1 _ (r1.rd.below hb0 hh1)
  have hgw:gA < w.heap.size:=by have:=r1.high;omega
  clear r1 o2
  by_cases hbig:16 < R
  · clear CE
    go_enter Tryz.func141,Tryz.ntmps141
    go_wp2;exact bodyPost_ret (v:=bytesR 2 (.slice none 0 0)) (by simp [results,Tryz.results141,go_sem,bytesR]) rfl ⟨2,_,rfl,.inl ⟨rfl,hbig⟩,own_nil _ _ _ _,(Below.refl _ _).alloc (Nat.le_refl _) _⟩
  by_cases hR0:R = 0
  · subst hR0
    clear CE
    go_enter Tryz.func141,Tryz.ntmps141
    go_wp2;exact bodyPost_ret (v:=bytesR 1 (.slice none 0 0)) (by simp [results,Tryz.results141,go_sem,bytesR]) rfl ⟨1,_,rfl,.inr (.inl ⟨rfl,by omega,.inl rfl⟩),own_nil _ _ _ _,(Below.refl _ _).alloc (Nat.le_refl _) _⟩
  have t0:((R:Int) == 0) = false:=by simp;omega
  by_cases hmR:m = R
  · subst hmR
    obtain ⟨N,hN⟩:∃ N,N = n 0:=⟨_,rfl⟩;have hN2:=(HA.out.each 0 (by omega)).le;unfold maxLen at hN2;have HN:Hid (N = n 0):=hN;obtain ⟨aoz,capz,hsz⟩:=(HA.out.each 0 (by omega)).slice
    have hz0:w.cell? ⟨gA,0,none⟩ = some (.slice aoz N capz):=by rw [hN,← hsz];exact HA.out.cell 0 (by omega)
    rw [← hN] at hN2;clear hsz hN
    go_enter Tryz.func141,Tryz.ntmps141
    go_wp2_with fail
    refine CE.mono ?_;rintro ee w1 ⟨bb,rfl,hbb,hb1⟩;clear CE;have HBB:Hid (bb = true ↔ ∀ i,i < m → n i = n 0):=hbb;clear hbb;have hbel:Below w.heap.size w w1:=bnew hb1;have hbx:Box w1 w.heap.size #[.int .i64 0,.slice none 0 0] 32:=(box_new w _ _).below hb1 (by simp);have hz1:w1.cell? ⟨gA,0,none⟩ = some (.slice aoz N capz):=(hbel.cell (p:=⟨gA,0,none⟩) hgw).trans hz0;obtain ⟨x0,x1,y0,y1⟩:=res_cells hbx;have hl1:=hbx.lt;clear hb1 hb0 hz0
    cases bb with
    | false =>
      have hno:∃ i,i < m ∧ n i ≠ m:=Classical.byContradiction fun hno => absurd (HBB.out.mpr fun i hi => by
        have q1:n i = m:=Classical.byContradiction fun h => hno ⟨i,hi,h⟩;have q2:n 0 = m:=Classical.byContradiction fun h => hno ⟨0,by omega,h⟩
        omega) (by simp)
      have HNO:Hid (∃ i,i < m ∧ n i ≠ m):=hno;clear hno HBB;go_wp2;exact bodyPost_ret (v:=bytesR 1 (.slice none 0 0)) (by simp [results,Tryz.results141,go_sem,bytesR,x0,x1]) rfl ⟨1,_,rfl,.inr (.inl ⟨rfl,by omega,.inr (.inr HNO.out)⟩),own_nil _ _ _ _,(hbel.setCell (Nat.le_refl _) _).setCell (Nat.le_refl _) _⟩
    | true =>
      have HALL:Hid (∀ i,i < m → n i = n 0):=HBB.out.mp rfl;clear HBB
      by_cases hNm:N = m
      · subst hNm
        have HSH:Hid (∀ i,i < N → n i = N):=fun i hi => by rw [HALL.out i hi,← HN.out]
        obtain ⟨gr,capr,hgr,hr1,hr2,hr3,hr4⟩:=H2.out.form (by omega)
        simp only [Value.slice.injEq] at hgr
        obtain ⟨rfl,_,rfl⟩:=hgr;clear HALL
        go_wp2_with (at_make;refine wp_makeM _ rfl _ _ rfl _ _ N rfl rfl rfl rfl (by omega) ?_;intro w2 hown2 hb2 hz2)
        clear x0 x1 y0 y1 hz1
        go_loopw [7,40] (fun _ i wr => ∃ k:Nat,k ≤ N ∧ i = .int .i64 k ∧ ∃ e',Cpy w1 wr N k (fun _ => N + 1) (aug N f c) e') (fun _ i _ => N - (intOf i).toNat)
        case atStart => exact ⟨0,Nat.zero_le _,rfl,fun _ => nilS,by rw [valsOf_eq (g:=fun _ => nilS) (fun i hi => by simp)];exact hown2,fun i hi => by omega,⟨fun i hi => by omega,fun i j hi => by omega⟩,hb2,hz2⟩
        case round =>
          clear hown2 hb2 hz2;obtain ⟨k,hk,rfl,e',hcp⟩:=hrel;have hbw1:Below w.heap.size w wr:=bthen hbel hcp.bel
          by_cases hlt:k < N
          · have hrk:Rd wr h1 (e k) N (f k):=by
              have:=((HA.out.each k hlt).below hbw1 hh1).rd;rw [HSH.out k hlt] at this;exact this
            have hck:wr.cell? ⟨gA,k,none⟩ = some (e k):=(hbw1.cell (p:=⟨gA,k,none⟩) hgw).trans (HA.out.cell k hlt)
            have hrt:Rd (wr.drewN 1) h2 (.slice (some ⟨gr,k,none⟩) 1 (cap2 - k)) 1 (fun _ => c k):=⟨_,_,rfl,by unfold maxLen;omega,fun _ => ⟨gr,k,rfl,hr2,fun i hi => by
              have hi0:i = 0:=by omega
              subst hi0;have:=H2.out.1.cellAt k (by omega);rw [cellsOf_get _ _ _ hlt] at this
              exact (hbw1.cell (p:=⟨gr,k + 0,none⟩) (by show gr < w.heap.size;omega)).trans this⟩⟩
            have C:=joined_some (e k) (.slice (some ⟨gr,k,none⟩) 1 (cap2 - k)) N 1 (f k) (fun _ => c k) (aug N f c k) h1 h2 (wr.drewN 1) hrk hrt (Nat.le_trans hh1 hbw1.size) (Nat.le_trans hh2 hbw1.size) (by omega) (by omega) (by omega) (fun i hi => rfl);obtain ⟨ek,hek⟩:∃ x,x = e k:=⟨_,rfl⟩;rw [← hek] at hck C;obtain ⟨ao3,cap3,hsl,hmm,hcc⟩:=hrk;rw [← hek] at hsl;subst hsl;have hl:=hcp.lt;have HCP:Hid (Cpy w1 wr N k (fun _ => N + 1) (aug N f c) e'):=hcp
            have Q1:∀ w3,Below wr.heap.size wr w3 → w3.cell? ⟨w1.heap.size,k,none⟩ = some nilS ∧ w3.frozen? ⟨w1.heap.size,k,none⟩ = false:=fun w3 hb => by
              refine ⟨?_,(hb.frozen (p:=⟨w1.heap.size,k,none⟩) hl).trans (hcp.row.frozenAt k)⟩;rw [hb.cell (p:=⟨w1.heap.size,k,none⟩) hl,hcp.row.cellAt k (by omega),valsOf_get _ _ _ hlt,if_neg (Nat.lt_irrefl k)]
            have hsl1:IntKind.i64.wrap ((k:Int) + 1) = (k:Int) + 1:=by rw [IntKind.wrap_i64];omega
            have hsl2:((k:Int) + 1).toNat = k + 1:=by omega
            have hsl3:((k:Int) + 1 ≤ (cap2:Int)):=by omega
            have hsl4:¬ cap2 = k:=by omega
            have hsl5:k + 1 - k = 1:=by omega
            have hsl6:(0:Int) ≤ (k:Int) + 1:=by omega
            clear hcc hek hrt hcp;go_wp2
            go_region_with (go_at_call 127;refine C.mono ?_;rintro ee w3 ⟨v3,rfl,ho3,hb3⟩;obtain ⟨ao5,cap5,rfl⟩:=ho3.slice;have q1:=(Q1 _ (undrewN' hb3)).1;have q2:=(Q1 _ (undrewN' hb3)).2)
            all_goals
              have N1:=HCP.out.next hlt (undrewN' hb3) ho3;clear HCP hb3 ho3 q1 q2 hbw1 C Q1;go_wp2
              go_roundw
              case rel => exact ⟨k + 1,by omega,by go_num,_,N1⟩
              case measure => simp [intOf];omega
          · have hkn:k = N:=by omega
            subst hkn;obtain ⟨gg,cc,e2,hE⟩:=hcp.done;have hv:=hE.val
            simp only [Value.slice.injEq,Option.some.injEq,Addr.mk.injEq,and_true,true_and] at hv
            obtain ⟨rfl,rfl⟩:=hv;have RD:=reduceRows_any _ k (k + 1) k (aug k f c) w1.heap.size w1.heap.size k e2 (by omega) (by omega) (by omega) (aug_byt kf kc) wr hE;have X3:Box wr w.heap.size #[.int .i64 0,.slice none 0 0] 32:=hbx.below hcp.bel hl1;clear hE
            go_wp2_with fail
            refine RD.mono ?_;rintro ee w4 ⟨rfl,⟨e4,hE4⟩,hb4⟩;have B4:Below w.heap.size w w4:=hbw1.trans (hb4.mono (by omega));have X4:Box w4 w.heap.size #[.int .i64 0,.slice none 0 0] 32:=X3.below hb4 hl1;obtain ⟨x0,x1,y0,y1⟩:=res_cells X4;have hle:=(gaussM_le (R:=k) (M:=aug k f c) k).1;obtain ⟨G,hG⟩:∃ G,G = gaussM k (aug k f c) k:=⟨_,rfl⟩;have HG:Hid (G = gaussM k (aug k f c) k):=hG;rw [← hG] at hle hE4 ⊢;obtain ⟨rk,hrk⟩:∃ rk,rk = G.2:=⟨_,rfl⟩;have HRK:Hid (rk = G.2):=hrk;rw [← hrk] at hle ⊢;clear hG hrk hb4 X3 RD hcp hbw1
            by_cases hfull:rk < k
            · go_wp2
              exact bodyPost_ret (v:=bytesR 4 (.slice none 0 0)) (by simp [results,Tryz.results141,go_sem,bytesR,x0,x1]) rfl ⟨4,_,rfl,.inr (.inr ⟨by omega,hR0,rfl,HSH.out,.inl ⟨rfl,by rw [← HG.out,← HRK.out];exact hfull⟩⟩),own_nil _ _ _ _,(B4.setCell (Nat.le_refl _) _).setCell (Nat.le_refl _) _⟩
            · go_wp2_with (at_make;refine wp_makeB _ rfl _ _ rfl _ _ k rfl rfl rfl rfl (by omega) ?_;intro w5 hown5 hb5 hz5)
              have B5:Below w.heap.size w w5:=bthen B4 hb5;have X5:Box w5 w.heap.size #[.int .i64 0,.slice none 0 0] 32:=X4.below hb5 X4.lt;have E5:=hE4.below hb5 (Nat.le_refl _)
              have h14:w1.heap.size ≤ w4.heap.size:=by have:=hE4.low;have:=hE4.high;omega
              clear x0 x1 y0 y1 B4 X4 hE4 hb5
              go_loopw [9,66] (fun _ i wr => ∃ q:Nat,q ≤ k ∧ i = .int .i64 q ∧ Own wr w4.heap.size w5.heap.size (.slice (some ⟨w4.heap.size,0,none⟩) k k) k (fun i => if i < q then G.1 i k else 0) ∧ Out w4.heap.size w5.heap.size w5 wr) (fun _ i _ => k - (intOf i).toNat)
              case atStart => exact ⟨0,Nat.zero_le _,rfl,hown5,Out.refl _ _ _⟩
              case round =>
                clear hown5;obtain ⟨q,hq,rfl,hown,hout⟩:=hrel
                by_cases hqk:q < k
                · have cq:wr.cell? ⟨w1.heap.size,q,none⟩ = some (e4 q):=(World.cell?_of_block (w:=w5) (hout.block _ (.inl (by have:=E5.high;omega)))).trans (E5.cell q hqk)
                  obtain ⟨gq,capq,heq,hg1,hg2,hg3,_⟩:=(E5.each q hqk).form (by omega)
                  have cv:wr.cell? ⟨gq,k,none⟩ = some (.int .u8 (G.1 q k)):=by
                    have h5:=(E5.each q hqk).1;rw [heq] at h5;exact (World.cell?_of_block (w:=w5) (hout.block gq (.inl hg2))).trans ((h5.cellAt k (by omega)).trans (cellsOf_get _ _ _ (by omega)))
                  rw [heq] at cq
                  have hco:wr.cell? ⟨w4.heap.size,q,none⟩ = some (.int .u8 (0:Nat)):=by
                    have:=hown.1.cellAt q (by omega);rw [this,cellsOf_get _ _ _ hqk,if_neg (Nat.lt_irrefl q)]
                  have hfo:wr.frozen? ⟨w4.heap.size,q,none⟩ = false:=hown.1.frozenAt q;obtain ⟨y,hy⟩:∃ y,y = G.1 q k:=⟨_,rfl⟩
                  have RW:Own (wr.setCell ⟨w4.heap.size,q,none⟩ (.int .u8 y)) w4.heap.size w5.heap.size (.slice (some ⟨w4.heap.size,0,none⟩) k k) k (fun i => if i < q + 1 then G.1 i k else 0) :=
                    hown.store q y hqk (fun i _ => by
                      by_cases c1:i = q
                      · subst c1;simp [hy]
                      · by_cases c2:i < q
                        · have c3:i < q + 1:=by omega
                          simp [c1,c2,c3]
                        · have c3:¬ i < q + 1:=by omega
                          simp [c1,c2,c3])
                  have RO:Out w4.heap.size w5.heap.size w5 (wr.setCell ⟨w4.heap.size,q,none⟩ (.int .u8 y)):=hout.trans (out_store wr _ _ _ q _ (Nat.le_refl _) hz5);rw [← hy] at cv;clear hown hout hy heq;go_wp2
                  go_roundw
                  case rel => exact ⟨q + 1,by omega,by go_num,RW,RO⟩
                  case measure => simp [intOf];omega
                · have hqn:q = k:=by omega
                  subst hqn;have B6:Below w.heap.size w wr:=B5.trans (hout.below.mono (by omega));have X6:Box wr w.heap.size #[.int .i64 0,.slice none 0 0] 32:=(hout.block _ (.inl (by omega))).trans X5;obtain ⟨x0,x1,y0,y1⟩:=res_cells X6;have hown6:Own wr w4.heap.size w5.heap.size (.slice (some ⟨w4.heap.size,0,none⟩) q q) q (fun i => G.1 i q):=hown.congr (fun i hi => by simp [hi]);have hsz6:=hout.size;clear hown hout B5 X5 E5 X6;go_wp2;refine bodyPost_ret (v:=bytesR 0 (.slice (some ⟨w4.heap.size,0,none⟩) q q)) (by simp [results,Tryz.results141,go_sem,bytesR,x0,x1]) rfl ⟨0,_,rfl,.inr (.inr ⟨by omega,hR0,rfl,HSH.out,.inr ⟨rfl,by rw [← HG.out,← HRK.out];omega⟩⟩),?_,(B6.setCell (Nat.le_refl _) _).setCell (Nat.le_refl _) _⟩;have o1:=out_store wr w.heap.size (w.heap.size + 1) w.heap.size 0 (.int .i64 0) (Nat.le_refl _) (by omega);have o2:=out_store (wr.setCell ⟨w.heap.size,0,none⟩ (.int .i64 0)) w.heap.size (w.heap.size + 1) w.heap.size 1 (.slice (some ⟨w4.heap.size,0,none⟩) q q) (Nat.le_refl _) (by omega)
                  simp only [if_pos]
                  rw [← HG.out];exact (hown6.out (o1.trans o2) (.inr (by omega))).weaken (by omega) (by rw [(o1.trans o2).size,hsz6];exact Nat.le_refl _)
      · have tN:((N:Int) != (m:Int)) = true:=by simp;omega
        go_wp2;exact bodyPost_ret (v:=bytesR 1 (.slice none 0 0)) (by simp [results,Tryz.results141,go_sem,bytesR,x0,x1]) rfl ⟨1,_,rfl,.inr (.inl ⟨rfl,by omega,.inr (.inr ⟨0,by omega,by rw [← HN.out];exact hNm⟩)⟩),own_nil _ _ _ _,(hbel.setCell (Nat.le_refl _) _).setCell (Nat.le_refl _) _⟩
  · have t1:((m:Int) != (R:Int)) = true:=by simp;omega
    clear CE
    go_enter Tryz.func141,Tryz.ntmps141
    go_wp2;exact bodyPost_ret (v:=bytesR 1 (.slice none 0 0)) (by simp [results,Tryz.results141,go_sem,bytesR]) rfl ⟨1,_,rfl,.inr (.inl ⟨rfl,by omega,.inr (.inl hmR)⟩),own_nil _ _ _ _,(Below.refl _ _).alloc (Nat.le_refl _) _⟩
end Go.Proofs.YtaldlfoochmfcaaGreat
namespace Go.Proofs.YtaldlfoochmfcaaGreat
open Go.RowKit F256
theorem undrewN'' {B:Nat} {w w2:World} {m:Nat} (h:Below B (w.drewN m) w2):Below B w w2:=⟨h.os,h.tape,h.output,h.size,h.block⟩
set_option maxRecDepth 20000 in
set_option maxHeartbeats 8000000 in
theorem l1Step_any (v:Value) (R C n:Nat) (M:Mat) (lo:Nat) (g cap:Nat) (e:Nat → Value) (hn:n ≤ C) (hR:R ≤ 1000000) (hC:C ≤ 1000000) (kM:Byt M) (w:World) (h:OwnE w lo w.heap.size v R (fun _ => C) M g cap e) :
    Calls Tryz.prog 146 #[v,.int .i64 n] w fun ee w' => ee = .returned (.int .i64 ((gaussM R M n).2)) ∧ (∃ e',OwnE w' lo w'.heap.size v R (fun _ => C) (gaussM R M n).1 g cap e') ∧ Below lo w w':=by
  obtain rfl:=h.val
  go_enter Tryz.func146,Tryz.ntmps146
  go_wp2
  go_loopw [5,6,7,8,9] (fun d i _ _ _ wr => ∃ k:Nat,k ≤ n ∧ i = .int .i64 k ∧ d = .int .i64 ((gaussM R M k).2) ∧ (∃ e',OwnE wr lo wr.heap.size (.slice (some ⟨g,0,none⟩) R cap) R (fun _ => C) (gaussM R M k).1 g cap e') ∧ Below lo w wr) (fun _ i _ _ _ _ => n - (intOf i).toNat)
  case atStart => exact ⟨0,Nat.zero_le _,rfl,rfl,⟨e,h⟩,Below.refl _ _⟩
  case round =>
    clear h e;obtain ⟨k,hk,rfl,rfl,⟨e,hE⟩,hbel⟩:=hrel;have hle:=gaussM_le (R:=R) (M:=M) k;have kB:=gaussM_byt (R:=R) kM k;have hstep:gaussM R M (k + 1) = stepM R (gaussM R M k) k:=rfl
    by_cases hlt:k < n
    · by_cases hfull:(gaussM R M k).2 = R
      · have hf:gaussM R M n = gaussM R M k:=by have:=gaussM_full hfull (n - k);rwa [show k + (n - k) = n by omega] at this
        have HF:Hid (gaussM R M n = gaussM R M k):=hf;have HU:Hid ((gaussM R M k).2 = R):=hfull;obtain ⟨r,hr⟩:∃ r,r = (gaussM R M k).2:=⟨_,rfl⟩;have HR:Hid (r = (gaussM R M k).2):=hr
        have hrR:r = R:=by rw [hr];exact hfull
        rw [← hr];subst hrR;clear hf hfull hstep hr kB hle;go_wp2;go_ret;exact ⟨ret_eq (by rw [HF.out,← HR.out]),⟨e,by rw [HF.out];exact hE⟩,hbel⟩
      · obtain ⟨S,hS⟩:∃ S,S = gaussM R M k:=⟨_,rfl⟩
        rw [← hS] at hle kB hstep hE hfull ⊢;have HS:Hid (S = gaussM R M k):=hS;have HST:Hid (gaussM R M (k + 1) = stepM R S k):=hstep;clear hS hstep;obtain ⟨r,hr⟩:∃ r,r = S.2:=⟨_,rfl⟩;rw [← hr] at hle hfull ⊢;have HR:Hid (r = S.2):=hr
        have hrR:r < R:=by omega
        clear hr;go_wp2
        go_loop [7] (fun a => ∃ j:Nat,r ≤ j ∧ j ≤ R ∧ a = .int .i64 j ∧ ∀ i,r ≤ i → i < j → S.1 i k = 0) (fun a => R - (intOf a).toNat)
        case atStart => exact ⟨r,Nat.le_refl _,by omega,rfl,fun i h1 h2 => by omega⟩
        case round =>
          obtain ⟨j,hj1,hj2,rfl,hz⟩:=hrel;have HZ:Hid (∀ i,r ≤ i → i < j → S.1 i k = 0):=hz;clear hz
          by_cases hjR:j < R
          · have cj:=hE.cell j hjR
            have oj:=hE.each j hjR;obtain ⟨gj,capj,hej,_,_,_,_⟩:=oj.form (by omega)
            have hcc:wr.cell? ⟨gj,k,none⟩ = some (.int .u8 (S.1 j k)):=by
              have:=oj.1;rw [hej] at this;rw [this.cellAt k (by omega),cellsOf_get _ _ _ (by omega)]
            obtain ⟨y,hy⟩:∃ y,y = S.1 j k:=⟨_,rfl⟩;have HY:Hid (y = S.1 j k):=hy
            have hyl:y < 256:=by rw [hy];exact kB j k
            rw [← hy] at hcc;clear hy
            by_cases hy0:y = 0
            · rw [hej] at cj
              subst hy0;clear oj hej;go_wp2
              go_round
              case rel => exact ⟨j + 1,by omega,by omega,by go_num,fun i h1 h2 => by
                            by_cases ej:i = j
                            · rw [ej,← HY.out]
                            · exact HZ.out i h1 (by omega)⟩
              case measure => simp [intOf];omega
            · have ty:((y:Int) == 0) = false:=by simp;omega
              have hlead:lead S.1 k R r = j:=lead_eq ⟨hj1,by omega,HZ.out,fun _ => by rw [← HY.out];exact hy0⟩;have HLE:Hid (lead S.1 k R r = j):=hlead
              have tj:((j:Int) == (R:Int)) = false:=by simp;omega
              have cr:=hE.cell r hrR;have or:=hE.each r hrR;obtain ⟨gr,capr,her,_,_,_,_⟩:=or.form (by omega);have fj:=hE.frozen j;have fr:=hE.frozen r;have hgl:=hE.high
              have SC:∀ w2,Below wr.heap.size (wr.setCell ⟨g,j,none⟩ (e r)) w2 → Calls Tryz.prog 131 #[e j,.int .u8 (powN y 254)] w2 fun e w' => ∃ v',e = .returned v' ∧ Own w' w2.heap.size w'.heap.size v' C (fun q => mulN (powN y 254) (S.1 j q)) ∧ Below w2.heap.size w2 w':=fun w2 hb2 => by
                have hk2:Own w2 lo wr.heap.size (e j) C (S.1 j):=oj.kept fun q hq => by
                  have hqg:q ≠ g:=fun hh => hE.apart.1 j hjR (by rw [hq,hh]);rw [hb2.block q (oj.2 q hq)];exact heap_setCell_other wr ⟨g,j,none⟩ q _ hqg
                have hs2:wr.heap.size ≤ w2.heap.size:=by have:=hb2.size;simpa using this
                exact l1Scale_any (e j) C (S.1 j) (fun q => mulN (powN y 254) (S.1 j q)) (powN y 254) wr.heap.size w2 hk2.rd hs2 (kB j) (powN_lt _) (fun _ _ => rfl) (by omega)
              have HEE:Hid (OwnE wr lo wr.heap.size (.slice (some ⟨g,0,none⟩) R cap) R (fun _ => C) S.1 g cap e):=hE;have I:=specInv_any y hyl;obtain ⟨ej,hej'⟩:∃ x,x = e j:=⟨_,rfl⟩;obtain ⟨er,her'⟩:∃ x,x = e r:=⟨_,rfl⟩;have HEJ:Hid (ej = e j):=hej';have HER:Hid (er = e r):=her';rw [← hej'] at cj hej SC;rw [← her'] at cr her SC;have hgg:gj ≠ g:=fun hh => hE.apart.1 j hjR (by rw [← HEJ.out,hej,hh];rfl);clear hej' her' oj or hE hlead;subst hej her;have hcc2:(wr.setCell ⟨g,j,none⟩ (.slice (some ⟨gr,0,none⟩) C capr)).cell? ⟨gj,k,none⟩ = some (.int .u8 y):=(World.cell?_of_block (w:=wr) (heap_setCell_other wr ⟨g,j,none⟩ gj _ hgg)).trans hcc
              go_wp2_with fail
              refine (I _).mono ?_;rintro ee wx ⟨rfl,hwx⟩;obtain rfl:=hwx.symm
              go_wp2_with fail
              refine (SC _ (Below.refl _ _)).mono ?_;rintro ee w3 ⟨v3,rfl,ho3,hb3⟩;obtain ⟨ao3,cap3,rfl⟩:=ho3.slice
              have hz3:(wr.setCell ⟨g,j,none⟩ (.slice (some ⟨gr,0,none⟩) C capr)).heap.size = wr.heap.size:=by simp
              rw [hz3] at hb3 ho3;have hst:=(HEE.out.row.stored j (.slice (some ⟨gr,0,none⟩) C capr)).1
              have hl5:r < ((valsOf R e).set j (.slice (some ⟨gr,0,none⟩) C capr)).length:=by rw [List.length_set,valsOf_length];exact hrR
              have q1:∃ u,w3.cell? ⟨g,r,none⟩ = some u:=⟨_,(hb3.cell (p:=⟨g,r,none⟩) hgl).trans ((hst.cellAt r (by omega)).trans (List.getElem?_eq_getElem hl5))⟩;obtain ⟨u,q1⟩:=q1;have q2:w3.frozen? ⟨g,r,none⟩ = false:=(hb3.frozen (p:=⟨g,r,none⟩) hgl).trans (hst.frozenAt r)
              have hsw:(swapM S.1 r j) r = S.1 j:=by simp [swapM]
              have hM4:scaleM (swapM S.1 r j) r k r = fun q => mulN (powN y 254) (S.1 j q):=by simp only [scaleM,if_pos,hsw,HY.out]
              have ho4:Own w3 wr.heap.size w3.heap.size (.slice ao3 C cap3) C (scaleM (swapM S.1 r j) r k r):=by rw [hM4];exact ho3
              have E4:=HEE.out.put2 (M':=scaleM (swapM S.1 r j) r k) r j hrR hjR (by rw [← HER.out];exact hb3) ho4 (fun q hq hne => by simp only [scaleM,if_neg hne]);have B4:Below lo w (w3.setCell ⟨g,r,none⟩ (.slice ao3 C cap3)):=(((hbel.setCell HEE.out.low _).trans (hb3.mono (by have:=HEE.out.low;have:=HEE.out.high;omega)))).setCell HEE.out.low _
              have Z4:w3.heap.size = (w3.setCell ⟨g,r,none⟩ (.slice ao3 C cap3)).heap.size:=by simp
              rw [Z4] at E4;have kB4:Byt (scaleM (swapM S.1 r j) r k):=scaleM_byt (swapM_byt kB r j) r k
              have N0:gaussM R M (k + 1) = (clearM (scaleM (swapM S.1 r j) r k) r k R,r + 1):=by
                rw [HST.out];unfold stepM;rw [← HR.out,HLE.out,if_neg (by omega)]
              have N:Hid (gaussM R M (k + 1) = (clearM (scaleM (swapM S.1 r j) r k) r k R,r + 1)):=N0;clear N0 ho4 hM4 hsw ho3 hst hl5 hz3 hcc hcc2 cj cr fj fr SC I HEE HEJ HER hbel;go_wp2;clear q1 q2 hb3
              generalize w3.setCell ⟨g,r,none⟩ (.slice ao3 C cap3) = w4 at E4 B4 ⊢
              generalize (fun q => if q = r then Value.slice ao3 C cap3 else if q = j then e r else e q) = e4 at E4
              generalize scaleM (swapM S.1 r j) r k = M2 at E4 kB4 N
              go_loopw [9] (fun i wr => ∃ q:Nat,q ≤ R ∧ i = .int .i64 q ∧ (∃ e',OwnE wr lo wr.heap.size (.slice (some ⟨g,0,none⟩) R cap) R (fun _ => C) (clearM M2 r k q) g cap e') ∧ Below lo w wr) (fun i _ => R - (intOf i).toNat)
              case atStart => exact ⟨0,Nat.zero_le _,rfl,⟨e4,by rw [clearM_zero];exact E4⟩,B4⟩
              case round =>
                clear E4 B4 e4;obtain ⟨q,hq,rfl,⟨e5,hE5⟩,hb5⟩:=hrel
                by_cases hqR:q < R
                · by_cases hqr:q = r
                  · subst hqr
                    have E:Hid (OwnE wr lo wr.heap.size (.slice (some ⟨g,0,none⟩) R cap) R (fun _ => C) (clearM M2 q k (q + 1)) g cap e5):=by rw [clearM_skip];exact hE5
                    clear hE5;go_wp2
                    go_roundw
                    case rel => exact ⟨q + 1,by omega,by go_num,⟨e5,E.out⟩,hb5⟩
                    case measure => simp [intOf];omega
                  · have tq:((q:Int) != (r:Int)) = true:=by simp;omega
                    have kB5:=clearM_byt kB4 r k q;have cq:=hE5.cell q hqR;have cr5:=hE5.cell r hrR;have oq:=hE5.each q hqR;have or5:=hE5.each r hrR;have fq:=hE5.frozen q;have hgl5:=hE5.high;obtain ⟨gq,capq,heq,_,_,_,_⟩:=oq.form (by omega);obtain ⟨gs,caps,hes,_,_,_,_⟩:=or5.form (by omega)
                    have hcq:wr.cell? ⟨gq,k,none⟩ = some (.int .u8 (clearM M2 r k q q k)):=by
                      have:=oq.1;rw [heq] at this;rw [this.cellAt k (by omega),cellsOf_get _ _ _ (by omega)]
                    have hnx:=clearM_next (M:=M2) (r:=r) (c:=k) hqr;obtain ⟨M3,hM3⟩:∃ M3,M3 = clearM M2 r k q:=⟨_,rfl⟩;rw [← hM3] at hcq kB5 oq or5 hE5 hnx;obtain ⟨y2,hy2⟩:∃ y,y = M3 q k:=⟨_,rfl⟩
                    have hy2l:y2 < 256:=by rw [hy2];exact kB5 q k
                    have HNX:Hid (clearM M2 r k (q + 1) = fun i => if i = q then (fun j => M3 q j ^^^ mulN (M3 q k) (M3 r j)) else M3 i):=hnx;have HY2:Hid (y2 = M3 q k):=hy2;rw [← hy2] at hcq;have C1:=l1Scale_any (e5 r) C (M3 r) (fun t => mulN y2 (M3 r t)) y2 wr.heap.size (wr.drewN 1) or5.rd (Nat.le_refl _) (kB5 r) hy2l (fun _ _ => rfl) (by omega)
                    have C2:∀ (w2:World) (v2:Value),Own w2 wr.heap.size w2.heap.size v2 C (fun t => mulN y2 (M3 r t)) → Below wr.heap.size wr w2 →
                        Calls Tryz.prog 48 #[e5 q,v2] w2 fun e w' => ∃ v',e = .returned v' ∧ Own w' w2.heap.size w'.heap.size v' C (fun t => M3 q t ^^^ mulN y2 (M3 r t)) ∧ Below w2.heap.size w2 w':=fun w2 v2 ho hb2 =>
                      l1Add_any (e5 q) v2 C (M3 q) (fun t => mulN y2 (M3 r t)) _ _ _ w2 (oq.below hb2 (Nat.le_refl _)).rd ho.rd hb2.size (Nat.le_refl _) (kB5 q) (fun t => mulN_lt hy2l) (fun _ _ => rfl) (by omega)
                    obtain ⟨xq,hxq⟩:∃ x,x = e5 q:=⟨_,rfl⟩;obtain ⟨xr,hxr⟩:∃ x,x = e5 r:=⟨_,rfl⟩;rw [← hxq] at cq C2 heq;rw [← hxr] at cr5 C1 hes;have HE5:Hid (OwnE wr lo wr.heap.size (.slice (some ⟨g,0,none⟩) R cap) R (fun _ => C) M3 g cap e5):=hE5;clear hxq hxr hM3 hy2 hnx oq or5 hE5 kB5;subst heq hes;go_wp2
                    go_region_with (first | (go_at_call 131;refine C1.mono ?_;rintro ee w6 ⟨v6,rfl,ho6,hb6⟩;have q0:w6.cell? ⟨g,q,none⟩ = some (.slice (some ⟨gq,0,none⟩) C capq):=((undrewN'' hb6).cell (p:=⟨g,q,none⟩) hgl5).trans cq) | (go_at_call 48;refine (C2 _ _ ho6 (undrewN'' hb6)).mono ?_;rintro ee w7 ⟨v7,rfl,ho7,hb7⟩;obtain ⟨ao7,cap7,rfl⟩:=ho7.slice;have q1:w7.cell? ⟨g,q,none⟩ = some (.slice (some ⟨gq,0,none⟩) C capq):=((bthen (w:=wr) (undrewN'' hb6) hb7).cell (p:=⟨g,q,none⟩) hgl5).trans cq;have q2:w7.frozen? ⟨g,q,none⟩ = false:=((bthen (w:=wr) (undrewN'' hb6) hb7).frozen (p:=⟨g,q,none⟩) hgl5).trans fq))
                    all_goals
                      have hb67:Below wr.heap.size wr w7:=bthen (w:=wr) (undrewN'' hb6) hb7
                      have ho8:Own w7 wr.heap.size w7.heap.size (.slice ao7 C cap7) C (clearM M2 r k (q + 1) q):=by
                        have hq8:clearM M2 r k (q + 1) q = fun t => M3 q t ^^^ mulN y2 (M3 r t):=by rw [HNX.out];simp [HY2.out]
                        rw [hq8];exact ho7.weaken (by have:=(undrewN'' hb6).size;omega) (Nat.le_refl _)
                      have E8:=HE5.out.put (M':=clearM M2 r k (q + 1)) q hqR hb67 (Nat.le_refl _) ho8 (fun i hi hne => by rw [HNX.out];simp [hne]);have B8:Below lo w (w7.setCell ⟨g,q,none⟩ (.slice ao7 C cap7)):=(hb5.trans (hb67.mono (by have:=HE5.out.low;have:=HE5.out.high;omega))).setCell HE5.out.low _
                      have Z8:w7.heap.size = (w7.setCell ⟨g,q,none⟩ (.slice ao7 C cap7)).heap.size:=by simp
                      rw [Z8] at E8;clear hb67 ho8 ho7 ho6 hb6 hb7 q0 q1 q2 Z8 HE5 C1 C2 hb5;go_wp2
                      go_roundw
                      case rel => exact ⟨q + 1,by omega,by go_num,⟨_,E8⟩,B8⟩
                      case measure => simp [intOf];omega
                · have hqn:q = R:=by omega
                  subst hqn;go_wp2
                  go_roundw
                  case rel => exact ⟨k + 1,by omega,by go_num,val_eq (by rw [N.out];show _ = ((r + 1:Nat):Int);omega),⟨e5,by rw [N.out];exact hE5⟩,hb5⟩
                  case measure => simp [intOf];omega
          · have hjn:j = R:=by omega
            subst hjn;have hlead:lead S.1 k j r = j:=lead_eq ⟨hj1,Nat.le_refl _,HZ.out,fun h => by omega⟩
            have N0:gaussM j M (k + 1) = S:=by
              rw [HST.out];unfold stepM;rw [if_pos (by rw [← HR.out];exact hlead)]
            have N:Hid (gaussM j M (k + 1) = S):=N0;clear N0 hlead;go_wp2
            go_roundw
            case rel => exact ⟨k + 1,by omega,by go_num,val_eq (by rw [N.out,HR.out]),⟨e,by rw [N.out];exact hE⟩,hbel⟩
            case measure => simp [intOf];omega
    · have hkn:k = n:=by omega
      subst hkn;go_wp2;go_ret;exact ⟨rfl,⟨e,hE⟩,hbel⟩
end Go.Proofs.YtaldlfoochmfcaaGreat
namespace Go.Proofs.YtaldlfoochmfcaaGreat
open Go.RowKit F256
end Go.Proofs.YtaldlfoochmfcaaGreat
namespace Go.Proofs.YtaldlfoochmfcaaGreat
open Go.RowKit F256
theorem belD1 {wr w2:World} {o:Obj} {q:Nat} (h:Chg wr.heap.size (wr.heap.size + 1) ((wr.alloc o).drewN q) w2):Below wr.heap.size wr w2:=by
  have h1:=h.below (B:=wr.heap.size) (Nat.le_refl _) (by simp);exact ((Below.refl wr.heap.size wr).alloc (Nat.le_refl _) o).trans ⟨h1.os,h1.tape,h1.output,h1.size,h1.block⟩
theorem belD2 {wr w2:World} {o o':Obj} {q:Nat} (h:Chg wr.heap.size (wr.heap.size + 1) (((wr.alloc o).alloc o').drewN q) w2):Below wr.heap.size wr w2:=by
  have h1:=h.below (B:=wr.heap.size) (Nat.le_refl _) (by simp;omega);exact (((Below.refl wr.heap.size wr).alloc (Nat.le_refl _) o).alloc (by simp) o').trans ⟨h1.os,h1.tape,h1.output,h1.size,h1.block⟩
theorem cellD2 {wr w2:World} {o:Obj} {q:Nat} {x:Value} {t:TypeId} (h:Chg wr.heap.size (wr.heap.size + 1) (((wr.alloc o).alloc (.cells #[x] t)).drewN q) w2):w2.cell? ⟨wr.heap.size + 1,0,none⟩ = some x:=by
  have hb:=h.block (wr.heap.size + 1) (by simp) (.inr (Nat.le_refl _));have hc:w2.heap[wr.heap.size + 1]? = some (.cells #[x] t (0,0)):=hb.trans (heap_alloc2_new wr o (.cells #[x] t));exact cell_of_row w2 _ 0 _ t _ hc
theorem belD3 {wr w2:World} {o o':Obj} {q:Nat} (h:Chg (wr.heap.size + 1) (wr.heap.size + 1 + 1) (((wr.alloc o).alloc o').drewN q) w2):Below wr.heap.size wr w2:=by
  have h1:=h.below (B:=wr.heap.size) (by omega) (by simp;omega);exact (((Below.refl wr.heap.size wr).alloc (Nat.le_refl _) o).alloc (by simp) o').trans ⟨h1.os,h1.tape,h1.output,h1.size,h1.block⟩
theorem cellD3 {wr w2:World} {o:Obj} {q:Nat} {x:Value} {t:TypeId} (h:Chg (wr.heap.size + 1) (wr.heap.size + 1 + 1) (((wr.alloc (.cells #[x] t)).alloc o).drewN q) w2):w2.cell? ⟨wr.heap.size,0,none⟩ = some x:=by
  have hb:=h.block wr.heap.size (by simp;omega) (.inl (by omega));have hc:w2.heap[wr.heap.size]? = some (.cells #[x] t (0,0)):=hb.trans ((Below.heap_alloc (wr.alloc (.cells #[x] t)) o wr.heap.size (by simp)).trans (box_new wr #[x] t));exact cell_of_row w2 _ 0 _ t _ hc
theorem own_lit3 (w:World) (o:Obj) (g:Nat → Nat):Own ((w.alloc o).alloc (.cells #[] 5)) (w.heap.size + 1) (w.heap.size + 1 + 1) (.slice (some ⟨w.heap.size + 1,0,none⟩) 0 0) 0 g:=by
  have h:=own_lit0 (w.alloc o) g
  have hz:(w.alloc o).heap.size = w.heap.size + 1:=by simp
  rw [hz] at h;exact h.weaken (Nat.le_refl _) (by simp)
def SolvP (R:Nat) (f:Mat) (c:Nat → Nat) (b:Bool) (k:Nat) (x:Nat → Nat):Prop :=
  (b = true → (gaussM R (aug R f c) R).2 = R ∧ k = R ∧ x = fun i => (gaussM R (aug R f c) R).1 i R) ∧ (b = false → (gaussM R (aug R f c) R).2 < R ∧ k = 0)
set_option maxHeartbeats 8000000 in
theorem l1Solve_any (v1 v2:Value) (R:Nat) (f:Mat) (c:Nat → Nat) (l1 h1 gA cA l2 h2:Nat) (e:Nat → Value) (w:World) (r1:OwnE w l1 h1 v1 R (fun _ => R) f gA cA e) (o2:Own w l2 h2 v2 R c) (hh1:h1 ≤ w.heap.size) (hh2:h2 ≤ w.heap.size) (hR:0 < R) (hR2:R ≤ 16) (kf:Byt f) (kc:∀ i,c i < 256) :
    Calls Tryz.prog 133 #[v1,v2] w fun ee w' => ∃ v' b k x,ee = .returned (.tuple #[v',.bool b]) ∧ SolvP R f c b k x ∧ Own w' w.heap.size w'.heap.size v' k x ∧ Below w.heap.size w w':=by
  obtain rfl:=r1.val;obtain ⟨gr,capr,rfl,hr1,hr2,hr3,hr4⟩:=o2.form (by omega);have HA:Hid (OwnE w l1 h1 (.slice (some ⟨gA,0,none⟩) R cA) R (fun _ => R) f gA cA e):=r1;have H2:Hid (Own w l2 h2 (.slice (some ⟨gr,0,none⟩) R capr) R c):=o2
  have hgw:gA < w.heap.size:=by have:=r1.high;omega
  clear r1 o2
  go_enter Tryz.func133,Tryz.ntmps133
  go_wp2
  have hstart:Bld w (w.alloc (.cells #[] 29)) w.heap.size (.slice (some ⟨w.heap.size,0,none⟩) 0 0) 0 (fun _ => R + 1) (aug R f c) e:=by
    have hl:=World.ownsRow_lit (base:=w.heap.size) (e:=29) (size:=1) w #[] 0 (Nat.le_refl _) (Nat.zero_le _) rfl;exact ⟨hl,by simp,fun i hi => by omega,fun i j hi => by omega,(Below.refl _ _).alloc (Nat.le_refl _) _,by simp⟩
  go_loopw [6,7] (fun v i wr => ∃ m:Nat,m ≤ R ∧ i = .int .i64 m ∧ ∃ e',Bld w wr w.heap.size v m (fun _ => R + 1) (aug R f c) e') (fun _ i _ => R - (intOf i).toNat)
  case atStart => exact ⟨0,Nat.zero_le _,rfl,e,hstart⟩
  case round =>
    clear hstart;obtain ⟨m,hm1,rfl,e',hB⟩:=hrel;have hbw:Below w.heap.size w wr:=hB.bel
    by_cases hlt:m < R
    · have hcm:wr.cell? ⟨gA,m,none⟩ = some (e m):=(hbw.cell (p:=⟨gA,m,none⟩) hgw).trans (HA.out.cell m hlt)
      have om:Own wr l1 h1 (e m) R (f m):=(HA.out.each m hlt).below hbw hh1
      have hcr:wr.cell? ⟨gr,m,none⟩ = some (.int .u8 (c m)):=by
        have:=H2.out.1.cellAt m (by omega);rw [cellsOf_get _ _ _ hlt] at this;exact (hbw.cell (p:=⟨gr,m,none⟩) (by show gr < w.heap.size;omega)).trans this
      obtain ⟨y,hy⟩:∃ y,y = c m:=⟨_,rfl⟩;have HY:Hid (y = c m):=hy;obtain ⟨x,hx⟩:∃ x,x = e m:=⟨_,rfl⟩;rw [← hy] at hcr;rw [← hx] at hcm om;obtain ⟨aom,capm,hsm⟩:=om.slice;subst hsm;have HOM:Hid (Own wr l1 h1 (.slice aom R capm) R (f m)):=om;have HBB:Hid (Bld w wr w.heap.size u6 m (fun _ => R + 1) (aug R f c) e'):=hB
      have FE0:∀ i,i < R → f m i = aug R f c m i:=fun i hi => by simp [aug,hi]
      have FY0:y = aug R f c m R:=by rw [HY.out];simp [aug]
      have FE:Hid (∀ i,i < R → f m i = aug R f c m i):=FE0;have FY:Hid (y = aug R f c m R):=FY0;clear FE0 FY0;have hszr:=hB.le
      have hg1:gA < wr.heap.size:=by omega
      have hg2:gr < wr.heap.size:=by omega
      have hz1:∀ q,((wr.drewN q).alloc (.cells #[] 5)).cell? ⟨gA,m,none⟩ = some (.slice aom R capm):=fun q => (cell_alloc_old (wr.drewN q) _ gA m hg1).trans hcm;clear hy hx om hB;go_wp2
      go_region_law (first | (refine step_appendC rfl (.tmp 19) (.tmp 23) rfl wr.heap.size (fun _ => 0) ?_ ?_ l1 h1 (.slice aom R capm) R (f m) ?_ ?_ (by omega) ?_;(simp [Act.eval,Act.put]);(exact (own_lit0 wr (fun _ => 0)).weaken (Nat.le_refl _) (by simp));(simp [Act.eval,Act.put]);(exact HOM.out.alloc _);intro v2 w2 ho2 hc2;obtain ⟨ao2,cap2,rfl⟩:=ho2.slice;have bD:Below wr.heap.size wr w2:=belD1 hc2;have qr:w2.cell? ⟨gr,m,none⟩ = some (.int .u8 y):=(bD.cell (p:=⟨gr,m,none⟩) hg2).trans hcr) | (refine step_appendC rfl (.tmp 19) (.tmp 23) rfl wr.heap.size (fun _ => 0) ?_ ?_ l1 h1 (.slice aom R capm) R (f m) ?_ ?_ (by omega) ?_;(simp [Act.eval,Act.put]);(exact ((own_lit0 wr (fun _ => 0)).weaken (Nat.le_refl _) (by simp)).alloc _);(simp [Act.eval,Act.put]);(exact (HOM.out.alloc _).alloc _);intro v2 w2 ho2 hc2;obtain ⟨ao2,cap2,rfl⟩:=ho2.slice;have bD:Below wr.heap.size wr w2:=belD2 hc2;have qg:w2.cell? ⟨wr.heap.size + 1,0,none⟩ = some (.int .u8 y):=cellD2 hc2) | (refine step_appendC rfl (.tmp 19) (.tmp 23) rfl (wr.heap.size + 1) (fun _ => 0) ?_ ?_ l1 h1 (.slice aom R capm) R (f m) ?_ ?_ (by omega) ?_;(simp [Act.eval,Act.put]);(exact own_lit3 wr _ (fun _ => 0));(simp [Act.eval,Act.put]);(exact (HOM.out.alloc _).alloc _);intro v2 w2 ho2 hc2;obtain ⟨ao2,cap2,rfl⟩:=ho2.slice;have bD:Below wr.heap.size wr w2:=belD3 hc2;have qg:w2.cell? ⟨wr.heap.size,0,none⟩ = some (.int .u8 y):=cellD3 hc2;replace ho2:=ho2.weaken (lo':=wr.heap.size) (by omega) (Nat.le_refl _)) | (refine step_appendB rfl (.tmp 24) (.tmp 29) rfl wr.heap.size w2.heap.size (.slice ao2 R cap2) R (aug R f c m) ?_ ?_ w2.heap.size 1 ?_ ?_ (by omega) ?_ ?_;(simp [Act.eval,Act.put]);(exact (ho2.congr FE.out).alloc _);(simp [Act.eval,Act.put]);(rw [← FY.out];simp);(simp;have:=bD.size;omega);intro v3 w3 ho3 hb3;obtain ⟨ao3,cap3,rfl⟩:=ho3.slice;have bH:Below wr.heap.size wr w3:=bD.trans (((Below.refl _ w2).alloc bD.size _).trans hb3)) | (refine step_appendB rfl (.tmp 24) (.tmp 29) rfl wr.heap.size w2.heap.size (.slice ao2 R cap2) R (aug R f c m) ?_ ?_ (wr.heap.size + 1) 1 ?_ ?_ (by omega) ?_ ?_;(simp [Act.eval,Act.put]);(exact ho2.congr FE.out);(simp [Act.eval,Act.put]);(rw [← FY.out];exact qg);(have:=bD.size;omega);intro v3 w3 ho3 hb3;obtain ⟨ao3,cap3,rfl⟩:=ho3.slice;have bH:Below wr.heap.size wr w3:=bD.trans hb3) | (refine step_appendB rfl (.tmp 24) (.tmp 29) rfl wr.heap.size w2.heap.size (.slice ao2 R cap2) R (aug R f c m) ?_ ?_ wr.heap.size 1 ?_ ?_ (by omega) ?_ ?_;(simp [Act.eval,Act.put]);(exact ho2.congr FE.out);(simp [Act.eval,Act.put]);(rw [← FY.out];exact qg);(have:=bD.size;omega);intro v3 w3 ho3 hb3;obtain ⟨ao3,cap3,rfl⟩:=ho3.slice;have bH:Below wr.heap.size wr w3:=bD.trans hb3) | (refine step_appendM rfl (.tmp 18) (.tmp 31) rfl w.heap.size u6 m e' ?_ ?_ w3.heap.size 1 (.slice ao3 (R + 1) cap3) ?_ ?_ rfl (by omega) ?_ ?_;(simp [Act.eval,Act.put]);(exact (row_kept HBB.out.row fun b hb' => bH.block b (HBB.out.row.lt b hb').2).alloc _);(simp [Act.eval,Act.put]);simp;(simp;have:=bH.size;omega);intro v4 w4 hr4 hg4 hn4))
      all_goals
        have NX:=HBB.out.next bH ho3 hr4 hg4 hn4;clear HBB HOM bH bD hr4 hg4 hn4 ho3 hb3 ho2 hc2 hbw;go_wp2
        go_roundw
        case rel => exact ⟨m + 1,by omega,by go_num,_,NX⟩
        case measure => simp [intOf];omega
    · have hmn:m = R:=by omega
      subst hmn;obtain ⟨g2,c2,e2,hE⟩:=hB.done;have RD:=l1Step_any _ m (m + 1) m (aug m f c) w.heap.size g2 c2 e2 (by omega) (by omega) (by omega) (aug_byt kf kc) wr hE;have hv:=hE.val;rw [hv] at RD;clear hE hB;subst hv
      go_wp2_with fail
      refine RD.mono ?_;rintro ee w4 ⟨rfl,⟨e4,hE4⟩,hb4⟩;have B4:Below w.heap.size w w4:=hbw.trans hb4;have hle:=(gaussM_le (R:=m) (M:=aug m f c) m).1;obtain ⟨G,hG⟩:∃ G,G = gaussM m (aug m f c) m:=⟨_,rfl⟩;have HG:Hid (G = gaussM m (aug m f c) m):=hG;rw [← hG] at hle hE4 ⊢;obtain ⟨rk,hrk⟩:∃ rk,rk = G.2:=⟨_,rfl⟩;have HRK:Hid (rk = G.2):=hrk;rw [← hrk] at hle ⊢;clear hG hrk hb4 RD hbw;have hw4:=B4.size
      by_cases hfull:rk < m
      · go_wp2
        go_ret2
        exact ⟨_,false,0,fun _ => 0,rfl,⟨fun h => by simp at h,fun _ => ⟨by rw [← HG.out,← HRK.out];exact hfull,rfl⟩⟩,own_nil _ _ _ _,B4⟩
      · go_wp2
        go_loopw [9,10] (fun v i wr => ∃ q:Nat,q ≤ m ∧ i = .int .i64 q ∧ Own wr w4.heap.size wr.heap.size v q (fun i => G.1 i m) ∧ Below w4.heap.size w4 wr) (fun _ i _ => m - (intOf i).toNat)
        case atStart => exact ⟨0,Nat.zero_le _,rfl,own_lit0 w4 _,(Below.refl _ _).alloc (Nat.le_refl _) _⟩
        case round =>
          obtain ⟨q,hq,rfl,hown,hb⟩:=hrel
          by_cases hqk:q < m
          · have cq:wr.cell? ⟨g2,q,none⟩ = some (e4 q):=(hb.cell (p:=⟨g2,q,none⟩) hE4.high).trans (hE4.cell q hqk)
            obtain ⟨gq,capq,heq,hg1,hg2,hg3,_⟩:=(hE4.each q hqk).form (by omega)
            have cv:wr.cell? ⟨gq,m,none⟩ = some (.int .u8 (G.1 q m)):=by
              have h5:=(hE4.each q hqk).1;rw [heq] at h5;exact (hb.cell (p:=⟨gq,m,none⟩) hg2).trans ((h5.cellAt m (by omega)).trans (cellsOf_get _ _ _ (by omega)))
            rw [heq] at cq;obtain ⟨y,hy⟩:∃ y,y = G.1 q m:=⟨_,rfl⟩;have HY:Hid (y = G.1 q m):=hy;rw [← hy] at cv;have hsz:=hb.size;have HO:Hid (Own wr w4.heap.size wr.heap.size u9 q (fun i => G.1 i m)):=hown;have HB:Hid (Below w4.heap.size w4 wr):=hb;clear hy heq hown hb
            go_wp2_with (at_builtin;refine wp_appendB rfl (.tmp 46) (.tmp 54) rfl w4.heap.size wr.heap.size u9 q (fun i => G.1 i m) ?_ ?_ wr.heap.size 1 ?_ ?_ (by omega) ?_ ?_;(simp [Act.eval]);exact HO.out.alloc _;(simp [Act.eval]);(rw [← HY.out];simp);(simp;omega);intro v' w5 hown5 hb5)
            have R5:Below w4.heap.size w4 w5:=(HB.out.alloc hsz _).trans hb5;clear hb5 HO HB;go_wp2
            go_roundw
            case rel => exact ⟨q + 1,by omega,by go_num,hown5,R5⟩
            case measure => simp [intOf];omega
          · have hqn:q = m:=by omega
            subst hqn;go_wp2
            go_ret2
            refine ⟨_,true,q,fun i => G.1 i q,rfl,⟨fun _ => ⟨by rw [← HG.out,← HRK.out];omega,rfl,by rw [← HG.out]⟩,fun h => by simp at h⟩,?_,B4.trans (hb.mono (by omega))⟩;exact hown.weaken (by omega) (Nat.le_refl _)
end Go.Proofs.YtaldlfoochmfcaaGreat