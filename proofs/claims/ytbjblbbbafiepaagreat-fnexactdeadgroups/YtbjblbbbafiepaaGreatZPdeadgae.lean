/- Walk of the specification's RecFault. -/
import Derived.Test.YtbjblbbbafiepaaGreatZPdeadgad
import Derived.Deep.Cut
import Derived.Test.YtbjblbbbafiepaaGreatZPdeadgaa
import Derived.Deep.RegionLaw
import Derived.Deep.DeepCutAuto
import Derived.Laws.Tables
import Derived.Laws.Rows
import Derived.Test.YtbjblbbbafiepaaGreatZPdeadgab
import Derived.Test.YtbjblbbbafiepaaGreatZPdeadgac
import Derived.BigQuiet
import Derived.Deep.QuietTactic
import Derived.StillTailTactics
import Derived.Lib.MinMax
import Derived.Laws.StructEq
set_option linter.unusedVariables false
set_option linter.unusedSimpArgs false
namespace Go.Proofs.YtbjblbbbafiepaaGreat
open Go.RowKit F256
def RecPost (s:Nat → Int) (r:RecD) (w:World) (e:Ending) (w':World):Prop:=∃ x,e = .returned (.int .i64 x) ∧ RecAns s r x ∧ Below w.heap.size w w'
theorem recP {s:Nat → Int} {r:RecD} {w:World} {e:Ending} {w':World} {x:Int} (he:e = .returned (.int .i64 x)) (h:RecAns s r x) (hb:Below w.heap.size w w'):RecPost s r w e w':=⟨x,he,h,hb⟩
theorem exBT {P:Prop} (h:P):true = true ↔ P:=⟨fun _ => h,fun _ => rfl⟩
theorem exBF {P:Prop} (h:¬ P):false = true ↔ P:=⟨fun h => (by cases h),fun hh => absurd hh h⟩
set_option maxHeartbeats 16000000 in
set_option maxRecDepth 20000 in
theorem specRec_any (s:Nat → Int) (r:RecD) (cs:List Value) (hi:Nat) (w:World) (h:layRec.rd w hi r cs) (hhi:hi ≤ w.heap.size) (hnm:r.name.size ≤ 1048576) :
    Calls Tryz.prog 58 #[shapeV s,.agg cs.toArray] w (RecPost s r w):=by
  obtain ⟨kind,seq,name,length,group,row,rows,data,delta⟩:=r;obtain ⟨ao6,cap6,ao7,cap7,ao8,cap8,rfl,g6,g7,g8,k0,k1,k2,k3,k4,k5⟩:=Rec_rd h;have HRD:Hid (layRec.rd w hi ⟨kind,seq,name,length,group,row,rows,data,delta⟩ [.int .i64 kind,.int .i64 seq,.string name,.int .i64 length,.int .i64 group,.int .i64 row,.slice ao6 rows.1 cap6,.slice ao7 data.1 cap7,.slice ao8 delta.1 cap8]):=h;obtain ⟨v6,e6,⟨h6,hcp6⟩,_⟩:=g6
  cases e6
  have H6:Hid (RdI w hi (.slice ao6 rows.1 cap6) rows.1 rows.2):=h6;have hm6:rows.1 ≤ maxLen:=h6.mx;obtain ⟨v7,e7,⟨_,_,e7',hm7,_⟩,_⟩:=g7
  cases e7
  cases e7'
  obtain ⟨v8,e8,⟨_,_,e8',hm8,_⟩,_⟩:=g8
  cases e8
  cases e8'
  unfold maxLen at hm6 hm7 hm8
  simp only at k0 k1 k2 k3 k4 k5 hm6 hm7 hm8 hnm
  clear h h6 hcp6;have T0:=two_newb w #[.int .i64 (s 0),.int .i64 (s 1),.int .i64 (s 2),.int .i64 (s 3),.int .i64 (s 4),.int .i64 (s 5),.int .i64 (s 6),.int .i64 (s 7),.int .i64 (s 8)] #[.int .i64 kind,.int .i64 seq,.string name,.int .i64 length,.int .i64 group,.int .i64 row,.slice ao6 rows.1 cap6,.slice ao7 data.1 cap7,.slice ao8 delta.1 cap8] 33 93;have CSh:=fun w' => specShape_any s w';unfold shapeV at CSh ⊢
  go_enter Tryz.func58,Tryz.ntmps58
  go_wp2_with fail
  refine (CSh _).mono ?_;rintro e w1 ⟨x,rfl,hx,b1⟩;have T1:Two w w1 #[.int .i64 (s 0),.int .i64 (s 1),.int .i64 (s 2),.int .i64 (s 3),.int .i64 (s 4),.int .i64 (s 5),.int .i64 (s 6),.int .i64 (s 7),.int .i64 (s 8)] #[.int .i64 kind,.int .i64 seq,.string name,.int .i64 length,.int .i64 group,.int .i64 row,.slice ao6 rows.1 cap6,.slice ao7 data.1 cap7,.slice ao8 delta.1 cap8] 33 93:=T0.call b1;have HT1:Hid (Two w w1 #[.int .i64 (s 0),.int .i64 (s 1),.int .i64 (s 2),.int .i64 (s 3),.int .i64 (s 4),.int .i64 (s 5),.int .i64 (s 6),.int .i64 (s 7),.int .i64 (s 8)] #[.int .i64 kind,.int .i64 seq,.string name,.int .i64 length,.int .i64 group,.int .i64 row,.slice ao6 rows.1 cap6,.slice ao7 data.1 cap7,.slice ao8 delta.1 cap8] 33 93):=T1;have z1:w.heap.size + 1 < w1.heap.size:=T1.b2.lt;clear b1 T0 CSh;have x1_0:w1.cell? ⟨w.heap.size,0,none⟩ = some (.int .i64 (s 0)):=T1.b1.cell 0;have x1_1:w1.cell? ⟨w.heap.size,1,none⟩ = some (.int .i64 (s 1)):=T1.b1.cell 1;have x1_2:w1.cell? ⟨w.heap.size,2,none⟩ = some (.int .i64 (s 2)):=T1.b1.cell 2;have x1_3:w1.cell? ⟨w.heap.size,3,none⟩ = some (.int .i64 (s 3)):=T1.b1.cell 3;have x1_4:w1.cell? ⟨w.heap.size,4,none⟩ = some (.int .i64 (s 4)):=T1.b1.cell 4;have x1_5:w1.cell? ⟨w.heap.size,5,none⟩ = some (.int .i64 (s 5)):=T1.b1.cell 5;have x1_6:w1.cell? ⟨w.heap.size,6,none⟩ = some (.int .i64 (s 6)):=T1.b1.cell 6;have x1_7:w1.cell? ⟨w.heap.size,7,none⟩ = some (.int .i64 (s 7)):=T1.b1.cell 7;have x1_8:w1.cell? ⟨w.heap.size,8,none⟩ = some (.int .i64 (s 8)):=T1.b1.cell 8;have y1_0:w1.cell? ⟨w.heap.size + 1,0,none⟩ = some (.int .i64 kind):=T1.b2.cell 0;have y1_1:w1.cell? ⟨w.heap.size + 1,1,none⟩ = some (.int .i64 seq):=T1.b2.cell 1;have y1_2:w1.cell? ⟨w.heap.size + 1,2,none⟩ = some (.string name):=T1.b2.cell 2;have y1_3:w1.cell? ⟨w.heap.size + 1,3,none⟩ = some (.int .i64 length):=T1.b2.cell 3;have y1_4:w1.cell? ⟨w.heap.size + 1,4,none⟩ = some (.int .i64 group):=T1.b2.cell 4;have y1_5:w1.cell? ⟨w.heap.size + 1,5,none⟩ = some (.int .i64 row):=T1.b2.cell 5;have y1_6:w1.cell? ⟨w.heap.size + 1,6,none⟩ = some (.slice ao6 rows.1 cap6):=T1.b2.cell 6;have y1_7:w1.cell? ⟨w.heap.size + 1,7,none⟩ = some (.slice ao7 data.1 cap7):=T1.b2.cell 7;have y1_8:w1.cell? ⟨w.heap.size + 1,8,none⟩ = some (.slice ao8 delta.1 cap8):=T1.b2.cell 8;clear T1
  rcases hx with ⟨rfl,hno⟩ | ⟨rfl,hok⟩
  · go_wp2
    go_ret;exact recP rfl (Stair.fall hno) HT1.out.bel
  have HOK:Hid (OkShape s):=hok
  have hsb:1 ≤ s 0 ∧ s 0 ≤ 4 ∧ 0 ≤ s 1 ∧ s 1 ≤ 2 ∧ 1 ≤ s 2 ∧ s 2 ≤ 3 ∧ 1 ≤ s 4 ∧ s 4 ≤ 6:=by
    obtain ⟨h1,h2,h3,_⟩:=hok;unfold Shp3 at h1;unfold Shp at h2;omega
  clear hok
  by_cases hk:InP kind 1 4
  · go_wp2_with fail
    refine (l1In_b (t:=true) (exBT hk) _).mono ?_;rintro e w' ⟨rfl,hw'⟩;obtain rfl:=hw'.symm
    by_cases hq:InP seq 1 1000000000
    · go_wp2_with fail
      refine (l1In_b (t:=true) (exBT hq) _).mono ?_;rintro e w' ⟨rfl,hw'⟩;obtain rfl:=hw'.symm;have HK:Hid (InP kind 1 4):=hk;have HQ:Hid (InP seq 1 1000000000):=hq
      go_upto_region 9 with fail
      have bA:Below w1.heap.size w1 (w1.alloc (.cells #[.int .i64 kind,.int .i64 seq,.string name,.int .i64 length,.int .i64 group,.int .i64 row,.slice ao6 rows.1 cap6,.slice ao7 data.1 cap7,.slice ao8 delta.1 cap8] 93)):=(Below.refl _ _).alloc (Nat.le_refl _) _;have T2:Two w (w1.alloc (.cells #[.int .i64 kind,.int .i64 seq,.string name,.int .i64 length,.int .i64 group,.int .i64 row,.slice ao6 rows.1 cap6,.slice ao7 data.1 cap7,.slice ao8 delta.1 cap8] 93)) #[.int .i64 (s 0),.int .i64 (s 1),.int .i64 (s 2),.int .i64 (s 3),.int .i64 (s 4),.int .i64 (s 5),.int .i64 (s 6),.int .i64 (s 7),.int .i64 (s 8)] #[.int .i64 kind,.int .i64 seq,.string name,.int .i64 length,.int .i64 group,.int .i64 row,.slice ao6 rows.1 cap6,.slice ao7 data.1 cap7,.slice ao8 delta.1 cap8] 33 93:=HT1.out.call bA;have X2:Box (w1.alloc (.cells #[.int .i64 kind,.int .i64 seq,.string name,.int .i64 length,.int .i64 group,.int .i64 row,.slice ao6 rows.1 cap6,.slice ao7 data.1 cap7,.slice ao8 delta.1 cap8] 93)) w1.heap.size #[.int .i64 kind,.int .i64 seq,.string name,.int .i64 length,.int .i64 group,.int .i64 row,.slice ao6 rows.1 cap6,.slice ao7 data.1 cap7,.slice ao8 delta.1 cap8] 93:=box_new _ _ _;obtain ⟨W2,hW2⟩:∃ W2,W2 = w1.alloc (.cells #[.int .i64 kind,.int .i64 seq,.string name,.int .i64 length,.int .i64 group,.int .i64 row,.slice ao6 rows.1 cap6,.slice ao7 data.1 cap7,.slice ao8 delta.1 cap8] 93):=⟨_,rfl⟩;rw [← hW2] at T2 X2 ⊢;have HT2:Hid (Two w W2 #[.int .i64 (s 0),.int .i64 (s 1),.int .i64 (s 2),.int .i64 (s 3),.int .i64 (s 4),.int .i64 (s 5),.int .i64 (s 6),.int .i64 (s 7),.int .i64 (s 8)] #[.int .i64 kind,.int .i64 seq,.string name,.int .i64 length,.int .i64 group,.int .i64 row,.slice ao6 rows.1 cap6,.slice ao7 data.1 cap7,.slice ao8 delta.1 cap8] 33 93):=T2;have HX2:Hid (Box W2 w1.heap.size #[.int .i64 kind,.int .i64 seq,.string name,.int .i64 length,.int .i64 group,.int .i64 row,.slice ao6 rows.1 cap6,.slice ao7 data.1 cap7,.slice ao8 delta.1 cap8] 93):=X2;clear bA hW2 x1_0 y1_0 x1_1 y1_1 x1_2 y1_2 x1_3 y1_3 x1_4 y1_4 x1_5 y1_5 x1_6 y1_6 x1_7 y1_7 x1_8 y1_8;have x2_0:W2.cell? ⟨w.heap.size,0,none⟩ = some (.int .i64 (s 0)):=T2.b1.cell 0;have kx2_0:=cell_regrown x2_0;have x2_1:W2.cell? ⟨w.heap.size,1,none⟩ = some (.int .i64 (s 1)):=T2.b1.cell 1;have kx2_1:=cell_regrown x2_1;have x2_2:W2.cell? ⟨w.heap.size,2,none⟩ = some (.int .i64 (s 2)):=T2.b1.cell 2;have kx2_2:=cell_regrown x2_2;have x2_3:W2.cell? ⟨w.heap.size,3,none⟩ = some (.int .i64 (s 3)):=T2.b1.cell 3;have kx2_3:=cell_regrown x2_3;have x2_4:W2.cell? ⟨w.heap.size,4,none⟩ = some (.int .i64 (s 4)):=T2.b1.cell 4;have kx2_4:=cell_regrown x2_4;have x2_5:W2.cell? ⟨w.heap.size,5,none⟩ = some (.int .i64 (s 5)):=T2.b1.cell 5;have kx2_5:=cell_regrown x2_5;have x2_6:W2.cell? ⟨w.heap.size,6,none⟩ = some (.int .i64 (s 6)):=T2.b1.cell 6;have kx2_6:=cell_regrown x2_6;have x2_7:W2.cell? ⟨w.heap.size,7,none⟩ = some (.int .i64 (s 7)):=T2.b1.cell 7
      have kx2_7:=cell_regrown x2_7;have x2_8:W2.cell? ⟨w.heap.size,8,none⟩ = some (.int .i64 (s 8)):=T2.b1.cell 8;have kx2_8:=cell_regrown x2_8;have y2_0:W2.cell? ⟨w.heap.size + 1,0,none⟩ = some (.int .i64 kind):=T2.b2.cell 0;have ky2_0:=cell_regrown y2_0;have y2_1:W2.cell? ⟨w.heap.size + 1,1,none⟩ = some (.int .i64 seq):=T2.b2.cell 1;have ky2_1:=cell_regrown y2_1;have y2_2:W2.cell? ⟨w.heap.size + 1,2,none⟩ = some (.string name):=T2.b2.cell 2;have ky2_2:=cell_regrown y2_2;have y2_3:W2.cell? ⟨w.heap.size + 1,3,none⟩ = some (.int .i64 length):=T2.b2.cell 3;have ky2_3:=cell_regrown y2_3;have y2_4:W2.cell? ⟨w.heap.size + 1,4,none⟩ = some (.int .i64 group):=T2.b2.cell 4;have ky2_4:=cell_regrown y2_4;have y2_5:W2.cell? ⟨w.heap.size + 1,5,none⟩ = some (.int .i64 row):=T2.b2.cell 5;have ky2_5:=cell_regrown y2_5;have y2_6:W2.cell? ⟨w.heap.size + 1,6,none⟩ = some (.slice ao6 rows.1 cap6):=T2.b2.cell 6;have ky2_6:=cell_regrown y2_6;have y2_7:W2.cell? ⟨w.heap.size + 1,7,none⟩ = some (.slice ao7 data.1 cap7):=T2.b2.cell 7;have ky2_7:=cell_regrown y2_7;have y2_8:W2.cell? ⟨w.heap.size + 1,8,none⟩ = some (.slice ao8 delta.1 cap8):=T2.b2.cell 8;have ky2_8:=cell_regrown y2_8;have z2_0:W2.cell? ⟨w1.heap.size,0,none⟩ = some (.int .i64 kind):=X2.cell 0;have f2_0:W2.frozen? ⟨w1.heap.size,0,none⟩ = false:=X2.frozen 0;have z2_1:W2.cell? ⟨w1.heap.size,1,none⟩ = some (.int .i64 seq):=X2.cell 1;have f2_1:W2.frozen? ⟨w1.heap.size,1,none⟩ = false:=X2.frozen 1;have z2_2:W2.cell? ⟨w1.heap.size,2,none⟩ = some (.string name):=X2.cell 2;have f2_2:W2.frozen? ⟨w1.heap.size,2,none⟩ = false:=X2.frozen 2;have z2_3:W2.cell? ⟨w1.heap.size,3,none⟩ = some (.int .i64 length):=X2.cell 3;have f2_3:W2.frozen? ⟨w1.heap.size,3,none⟩ = false:=X2.frozen 3;have z2_4:W2.cell? ⟨w1.heap.size,4,none⟩ = some (.int .i64 group):=X2.cell 4;have f2_4:W2.frozen? ⟨w1.heap.size,4,none⟩ = false:=X2.frozen 4;have z2_5:W2.cell? ⟨w1.heap.size,5,none⟩ = some (.int .i64 row):=X2.cell 5;have f2_5:W2.frozen? ⟨w1.heap.size,5,none⟩ = false:=X2.frozen 5;have z2_6:W2.cell? ⟨w1.heap.size,6,none⟩ = some (.slice ao6 rows.1 cap6):=X2.cell 6;have f2_6:W2.frozen? ⟨w1.heap.size,6,none⟩ = false:=X2.frozen 6;have z2_7:W2.cell? ⟨w1.heap.size,7,none⟩ = some (.slice ao7 data.1 cap7):=X2.cell 7;have f2_7:W2.frozen? ⟨w1.heap.size,7,none⟩ = false:=X2.frozen 7;have z2_8:W2.cell? ⟨w1.heap.size,8,none⟩ = some (.slice ao8 delta.1 cap8):=X2.cell 8;have f2_8:W2.frozen? ⟨w1.heap.size,8,none⟩ = false:=X2.frozen 8;clear T2 X2
      have hk4:kind = 1 ∨ kind = 2 ∨ kind = 3 ∨ kind = 4:=by unfold InP at hk;omega
      have ws0:IntKind.i64.wrap (s 0 - 1) = s 0 - 1:=by rw [IntKind.wrap_i64];omega
      have ws4:IntKind.i64.wrap (s 4 - 1) = s 4 - 1:=by rw [IntKind.wrap_i64];omega
      have wsA:IntKind.i64.wrap (s 0 + s 1 - 1) = s 0 + s 1 - 1:=by rw [IntKind.wrap_i64];omega
      clear hk hq
      rcases hk4 with rfl | rfl | rfl | rfl
      · go_wp2_with fail
        refine (specName_any name hnm _).mono ?_;rintro e w' ⟨x,rfl,hx,hw'⟩;obtain rfl:=hw'.symm
        rcases hx with ⟨rfl,hno⟩ | ⟨rfl,hyes⟩
        · go_wp2
          go_ret;exact recP rfl (Stair.pass HOK.out (Stair.pass HK.out (Stair.pass HQ.out (Stair.fall (fun h => hno (h rfl)))))) HT2.out.bel
        · have HN:Hid (NamedP ⟨1,seq,name,length,group,row,rows,data,delta⟩):=fun _ => hyes
          clear hyes;obtain ⟨t3,h3⟩:=exB (ItemP s ⟨1,seq,name,length,group,row,rows,data,delta⟩);have CI:=det_b (l5Item_any s HOK.out ⟨1,seq,name,length,group,row,rows,data,delta⟩ _ hi W2 (layRec.rd_below HRD.out HT2.out.bel hhi) (Nat.le_trans hhi HT2.out.bel.size)) h3;unfold shapeV at CI
          go_wp2_with fail
          refine CI.mono ?_;rintro e w3 ⟨rfl,b3⟩;have X3:Box w3 w1.heap.size #[.int .i64 1,.int .i64 seq,.string name,.int .i64 length,.int .i64 group,.int .i64 row,.slice ao6 rows.1 cap6,.slice ao7 data.1 cap7,.slice ao8 delta.1 cap8] 93:=HX2.out.call b3;have HB3:Hid (Below w.heap.size w w3):=(HT2.out.call b3).bel;have z3_0:w3.cell? ⟨w1.heap.size,0,none⟩ = some (.int .i64 1):=X3.cell 0;have f3_0:w3.frozen? ⟨w1.heap.size,0,none⟩ = false:=X3.frozen 0;have z3_1:w3.cell? ⟨w1.heap.size,1,none⟩ = some (.int .i64 seq):=X3.cell 1;have f3_1:w3.frozen? ⟨w1.heap.size,1,none⟩ = false:=X3.frozen 1;have z3_2:w3.cell? ⟨w1.heap.size,2,none⟩ = some (.string name):=X3.cell 2;have f3_2:w3.frozen? ⟨w1.heap.size,2,none⟩ = false:=X3.frozen 2;have z3_3:w3.cell? ⟨w1.heap.size,3,none⟩ = some (.int .i64 length):=X3.cell 3;have f3_3:w3.frozen? ⟨w1.heap.size,3,none⟩ = false:=X3.frozen 3;have z3_4:w3.cell? ⟨w1.heap.size,4,none⟩ = some (.int .i64 group):=X3.cell 4;have f3_4:w3.frozen? ⟨w1.heap.size,4,none⟩ = false:=X3.frozen 4;have z3_5:w3.cell? ⟨w1.heap.size,5,none⟩ = some (.int .i64 row):=X3.cell 5;have f3_5:w3.frozen? ⟨w1.heap.size,5,none⟩ = false:=X3.frozen 5;have z3_6:w3.cell? ⟨w1.heap.size,6,none⟩ = some (.slice ao6 rows.1 cap6):=X3.cell 6;have f3_6:w3.frozen? ⟨w1.heap.size,6,none⟩ = false:=X3.frozen 6;have z3_7:w3.cell? ⟨w1.heap.size,7,none⟩ = some (.slice ao7 data.1 cap7):=X3.cell 7;have f3_7:w3.frozen? ⟨w1.heap.size,7,none⟩ = false:=X3.frozen 7;have z3_8:w3.cell? ⟨w1.heap.size,8,none⟩ = some (.slice ao8 delta.1 cap8):=X3.cell 8;have f3_8:w3.frozen? ⟨w1.heap.size,8,none⟩ = false:=X3.frozen 8;clear X3 b3;clear x2_0 kx2_0 y2_0 ky2_0 z2_0 f2_0 x2_1 kx2_1 y2_1 ky2_1 z2_1 f2_1 x2_2 kx2_2 y2_2 ky2_2 z2_2 f2_2 x2_3 kx2_3 y2_3 ky2_3 z2_3 f2_3 x2_4 kx2_4 y2_4 ky2_4 z2_4 f2_4 x2_5 kx2_5 y2_5 ky2_5 z2_5 f2_5 x2_6 kx2_6 y2_6 ky2_6 z2_6 f2_6 x2_7 kx2_7 y2_7 ky2_7 z2_7 f2_7 x2_8 kx2_8 y2_8 ky2_8 z2_8 f2_8 CI;have H3:Hid (t3 = true ↔ ItemP s ⟨1,seq,name,length,group,row,rows,data,delta⟩):=h3;clear h3
          cases t3 with
          | false =>
            go_wp2;go_ret
            exact recP rfl (Stair.pass HOK.out (Stair.pass HK.out (Stair.pass HQ.out (Stair.pass HN.out (Stair.fall (fun h => by
              have:ItemP s ⟨1,seq,name,length,group,row,rows,data,delta⟩:=by
                unfold KindP at h
                simpa using h
              have:=H3.out.2 this
              simp at this)))))) HB3.out
          | true =>
            have HKP:Hid (KindP s ⟨1,seq,name,length,group,row,rows,data,delta⟩):=.inl ⟨rfl,H3.out.1 (by simp)⟩
            go_wp2_with fail
            refine (l5Empty_any _ _ _ _ _ _ _ _ _ _ _ _ _ _ _ _).mono ?_;rintro e w9 ⟨t9,rfl,ht9,b9⟩
            have HB9:Hid (Below w.heap.size w w9):=by
              show Below w.heap.size w w9
              refine Below.trans ?_ (b9.mono ?_)
              · repeat (refine below_set ?_ (by omega))
                exact HB3.out
              · simp
                exact HB3.out.size
            clear b9
            have HT9:Hid (t9 = true ↔ BlankP ⟨1,seq,name,length,group,row,rows,data,delta⟩):=by
              show t9 = true ↔ BlankP ⟨1,seq,name,length,group,row,rows,data,delta⟩
              rw [ht9];unfold EmptyQ BlankP noName
              simp [and_assoc]
              try (intros;rfl)
            clear ht9
            cases t9 with
            | false =>
              go_wp2;go_ret;exact recP rfl (Stair.pass HOK.out (Stair.pass HK.out (Stair.pass HQ.out (Stair.pass HN.out (Stair.pass HKP.out (Stair.fall (fun h => by have:=HT9.out.2 h;simp at this))))))) HB9.out
            | true =>
              go_wp2;go_ret;exact recP rfl (Stair.pass HOK.out (Stair.pass HK.out (Stair.pass HQ.out (Stair.pass HN.out (Stair.pass HKP.out (Stair.pass (HT9.out.1 (by simp)) (Stair.last rfl))))))) HB9.out
      · have HN:Hid (NamedP ⟨2,seq,name,length,group,row,rows,data,delta⟩):=fun h => by simp at h
        obtain ⟨t1,h1⟩:=exB (InP group 0 (s 0 - 1));obtain ⟨t2,h2⟩:=exB (InP row 0 (s 4 - 1));obtain ⟨b3',h3⟩:∃ b,((data.1:Int) != s 2 * 4) = b:=⟨_,rfl⟩;obtain ⟨b4',h4⟩:∃ b,((delta.1:Int) != s 2 * 4) = b:=⟨_,rfl⟩;have cG:=q_same (W:=W2) (fun w' => l1In_b h1 w');have cR:=q_same (W:=W2) (fun w' => l1In_b h2 w');have cW:=q_below (W:=W2) (fun w' _ => l4Wide_any s (by omega) (by omega) w');unfold shapeV at cW
        have HE:Hid (KindP s ⟨2,seq,name,length,group,row,rows,data,delta⟩ ↔ (t1 = true ∧ t2 = true ∧ b3' = false ∧ b4' = false)):=by
          show KindP s ⟨2,seq,name,length,group,row,rows,data,delta⟩ ↔ _
          rw [h1,h2,← h3,← h4];unfold KindP MoveP
          simp
        have hst:(t1 = false) ∨ (t1 = true ∧ t2 = false) ∨ (t1 = true ∧ t2 = true ∧ b3' = true) ∨ (t1 = true ∧ t2 = true ∧ b3' = false ∧ b4' = true) ∨ (t1 = true ∧ t2 = true ∧ b3' = false ∧ b4' = false):=by
          clear HE h1 h2 h3 h4 cG cR
          cases t1 <;> simp
          cases t2 <;> simp
          cases b3' <;> simp
        clear h1 h2;go_wp2
        rcases hst with rfl | ⟨rfl,rfl⟩ | ⟨rfl,rfl,rfl⟩ | ⟨rfl,rfl,rfl,rfl⟩ | ⟨rfl,rfl,rfl,rfl⟩
        all_goals
          refine WQ.region (by kernel_rfl) (by kernel_rfl) ?_
          repeat (first | (apply WQ.skip;(case hw => rfl);intro K hK;go_simp;apply hK;clear hK K) | (apply WQ.want;(case hw => rfl);intro K hK;go_simp;first | (apply hK;clear hK K) | (apply Exists.intro;apply And.intro;(case left => intro p;(first | (go_at_call_of 59 (Value.int .i64 group);exact cG _ _) | (go_at_call_of 59 (Value.int .i64 row);exact cR _ _) | (go_at_call 91;exact cW _ _)));apply hK;clear hK K)))
          refine WQ.nil ?_;intro w3 hw3;have b3:=below_rg hw3;have X3:Box w3 w1.heap.size #[.int .i64 2,.int .i64 seq,.string name,.int .i64 length,.int .i64 group,.int .i64 row,.slice ao6 rows.1 cap6,.slice ao7 data.1 cap7,.slice ao8 delta.1 cap8] 93:=HX2.out.call b3;have HB3:Hid (Below w.heap.size w w3):=(HT2.out.call b3).bel;have z3_0:w3.cell? ⟨w1.heap.size,0,none⟩ = some (.int .i64 2):=X3.cell 0;have f3_0:w3.frozen? ⟨w1.heap.size,0,none⟩ = false:=X3.frozen 0;have z3_1:w3.cell? ⟨w1.heap.size,1,none⟩ = some (.int .i64 seq):=X3.cell 1;have f3_1:w3.frozen? ⟨w1.heap.size,1,none⟩ = false:=X3.frozen 1;have z3_2:w3.cell? ⟨w1.heap.size,2,none⟩ = some (.string name):=X3.cell 2;have f3_2:w3.frozen? ⟨w1.heap.size,2,none⟩ = false:=X3.frozen 2;have z3_3:w3.cell? ⟨w1.heap.size,3,none⟩ = some (.int .i64 length):=X3.cell 3;have f3_3:w3.frozen? ⟨w1.heap.size,3,none⟩ = false:=X3.frozen 3;have z3_4:w3.cell? ⟨w1.heap.size,4,none⟩ = some (.int .i64 group):=X3.cell 4;have f3_4:w3.frozen? ⟨w1.heap.size,4,none⟩ = false:=X3.frozen 4;have z3_5:w3.cell? ⟨w1.heap.size,5,none⟩ = some (.int .i64 row):=X3.cell 5;have f3_5:w3.frozen? ⟨w1.heap.size,5,none⟩ = false:=X3.frozen 5;have z3_6:w3.cell? ⟨w1.heap.size,6,none⟩ = some (.slice ao6 rows.1 cap6):=X3.cell 6;have f3_6:w3.frozen? ⟨w1.heap.size,6,none⟩ = false:=X3.frozen 6;have z3_7:w3.cell? ⟨w1.heap.size,7,none⟩ = some (.slice ao7 data.1 cap7):=X3.cell 7;have f3_7:w3.frozen? ⟨w1.heap.size,7,none⟩ = false:=X3.frozen 7;have z3_8:w3.cell? ⟨w1.heap.size,8,none⟩ = some (.slice ao8 delta.1 cap8):=X3.cell 8;have f3_8:w3.frozen? ⟨w1.heap.size,8,none⟩ = false:=X3.frozen 8;clear X3 b3;clear hw3 x2_0 kx2_0 y2_0 ky2_0 z2_0 f2_0 x2_1 kx2_1 y2_1 ky2_1 z2_1 f2_1 x2_2 kx2_2 y2_2 ky2_2 z2_2 f2_2 x2_3 kx2_3 y2_3 ky2_3 z2_3 f2_3 x2_4 kx2_4 y2_4 ky2_4 z2_4 f2_4 x2_5 kx2_5 y2_5 ky2_5 z2_5 f2_5 x2_6 kx2_6 y2_6 ky2_6 z2_6 f2_6 x2_7 kx2_7 y2_7 ky2_7 z2_7 f2_7 x2_8 kx2_8 y2_8 ky2_8 z2_8 f2_8
        · go_wp2
          go_ret;exact recP rfl (Stair.pass HOK.out (Stair.pass HK.out (Stair.pass HQ.out (Stair.pass HN.out (Stair.fall (fun h => by have:=HE.out.1 h;simp at this)))))) HB3.out
        · go_wp2
          go_ret;exact recP rfl (Stair.pass HOK.out (Stair.pass HK.out (Stair.pass HQ.out (Stair.pass HN.out (Stair.fall (fun h => by have:=HE.out.1 h;simp at this)))))) HB3.out
        · go_wp2
          go_ret;exact recP rfl (Stair.pass HOK.out (Stair.pass HK.out (Stair.pass HQ.out (Stair.pass HN.out (Stair.fall (fun h => by have:=HE.out.1 h;simp at this)))))) HB3.out
        · go_wp2
          go_ret;exact recP rfl (Stair.pass HOK.out (Stair.pass HK.out (Stair.pass HQ.out (Stair.pass HN.out (Stair.fall (fun h => by have:=HE.out.1 h;simp at this)))))) HB3.out
        · have HKP:Hid (KindP s ⟨2,seq,name,length,group,row,rows,data,delta⟩):=HE.out.2 (by simp)
          go_wp2_with fail
          refine (l5Empty_any _ _ _ _ _ _ _ _ _ _ _ _ _ _ _ _).mono ?_;rintro e w9 ⟨t9,rfl,ht9,b9⟩
          have HB9:Hid (Below w.heap.size w w9):=by
            show Below w.heap.size w w9
            refine Below.trans ?_ (b9.mono ?_)
            · repeat (refine below_set ?_ (by omega))
              exact HB3.out
            · simp
              exact HB3.out.size
          clear b9
          have HT9:Hid (t9 = true ↔ BlankP ⟨2,seq,name,length,group,row,rows,data,delta⟩):=by
            show t9 = true ↔ BlankP ⟨2,seq,name,length,group,row,rows,data,delta⟩
            rw [ht9];unfold EmptyQ BlankP noName
            simp [and_assoc]
            try (intros;rfl)
          clear ht9
          cases t9 with
          | false =>
            go_wp2;go_ret;exact recP rfl (Stair.pass HOK.out (Stair.pass HK.out (Stair.pass HQ.out (Stair.pass HN.out (Stair.pass HKP.out (Stair.fall (fun h => by have:=HT9.out.2 h;simp at this))))))) HB9.out
          | true =>
            go_wp2;go_ret;exact recP rfl (Stair.pass HOK.out (Stair.pass HK.out (Stair.pass HQ.out (Stair.pass HN.out (Stair.pass HKP.out (Stair.pass (HT9.out.1 (by simp)) (Stair.last rfl))))))) HB9.out
      · have HN:Hid (NamedP ⟨3,seq,name,length,group,row,rows,data,delta⟩):=fun h => by simp at h
        obtain ⟨t1,h1⟩:=exB (InP group 0 (s 0 + s 1 - 1));have cG:=q_same (W:=W2) (fun w' => l1In_b h1 w');have cA:=q_below (W:=W2) (fun w' _ => l5All_any s HOK.out w');unfold shapeV at cA
        have HE:Hid (KindP s ⟨3,seq,name,length,group,row,rows,data,delta⟩ ↔ (t1 = true)):=by
          show KindP s ⟨3,seq,name,length,group,row,rows,data,delta⟩ ↔ _
          rw [h1];unfold KindP DoneP
          simp
        have hst:(t1 = false) ∨ (t1 = true):=by
          clear HE h1 cG
          cases t1 <;> simp
        clear h1;go_wp2
        rcases hst with rfl | rfl
        all_goals
          refine WQ.region (by kernel_rfl) (by kernel_rfl) ?_
          repeat (first | (apply WQ.skip;(case hw => rfl);intro K hK;go_simp;apply hK;clear hK K) | (apply WQ.want;(case hw => rfl);intro K hK;go_simp;first | (apply hK;clear hK K) | (apply Exists.intro;apply And.intro;(case left => intro p;(first | (go_at_call 59;exact cG _ _) | (go_at_call 27;exact cA _ _)));apply hK;clear hK K)))
          refine WQ.nil ?_;intro w3 hw3;have b3:=below_rg hw3;have X3:Box w3 w1.heap.size #[.int .i64 3,.int .i64 seq,.string name,.int .i64 length,.int .i64 group,.int .i64 row,.slice ao6 rows.1 cap6,.slice ao7 data.1 cap7,.slice ao8 delta.1 cap8] 93:=HX2.out.call b3;have HB3:Hid (Below w.heap.size w w3):=(HT2.out.call b3).bel;have z3_0:w3.cell? ⟨w1.heap.size,0,none⟩ = some (.int .i64 3):=X3.cell 0;have f3_0:w3.frozen? ⟨w1.heap.size,0,none⟩ = false:=X3.frozen 0;have z3_1:w3.cell? ⟨w1.heap.size,1,none⟩ = some (.int .i64 seq):=X3.cell 1;have f3_1:w3.frozen? ⟨w1.heap.size,1,none⟩ = false:=X3.frozen 1;have z3_2:w3.cell? ⟨w1.heap.size,2,none⟩ = some (.string name):=X3.cell 2;have f3_2:w3.frozen? ⟨w1.heap.size,2,none⟩ = false:=X3.frozen 2;have z3_3:w3.cell? ⟨w1.heap.size,3,none⟩ = some (.int .i64 length):=X3.cell 3;have f3_3:w3.frozen? ⟨w1.heap.size,3,none⟩ = false:=X3.frozen 3;have z3_4:w3.cell? ⟨w1.heap.size,4,none⟩ = some (.int .i64 group):=X3.cell 4;have f3_4:w3.frozen? ⟨w1.heap.size,4,none⟩ = false:=X3.frozen 4;have z3_5:w3.cell? ⟨w1.heap.size,5,none⟩ = some (.int .i64 row):=X3.cell 5;have f3_5:w3.frozen? ⟨w1.heap.size,5,none⟩ = false:=X3.frozen 5;have z3_6:w3.cell? ⟨w1.heap.size,6,none⟩ = some (.slice ao6 rows.1 cap6):=X3.cell 6;have f3_6:w3.frozen? ⟨w1.heap.size,6,none⟩ = false:=X3.frozen 6;have z3_7:w3.cell? ⟨w1.heap.size,7,none⟩ = some (.slice ao7 data.1 cap7):=X3.cell 7;have f3_7:w3.frozen? ⟨w1.heap.size,7,none⟩ = false:=X3.frozen 7;have z3_8:w3.cell? ⟨w1.heap.size,8,none⟩ = some (.slice ao8 delta.1 cap8):=X3.cell 8;have f3_8:w3.frozen? ⟨w1.heap.size,8,none⟩ = false:=X3.frozen 8;clear X3 b3;clear hw3 x2_0 kx2_0 y2_0 ky2_0 z2_0 f2_0 x2_1 kx2_1 y2_1 ky2_1 z2_1 f2_1 x2_2 kx2_2 y2_2 ky2_2 z2_2 f2_2 x2_3 kx2_3 y2_3 ky2_3 z2_3 f2_3 x2_4 kx2_4 y2_4 ky2_4 z2_4 f2_4 x2_5 kx2_5 y2_5 ky2_5 z2_5 f2_5 x2_6 kx2_6 y2_6 ky2_6 z2_6 f2_6 x2_7 kx2_7 y2_7 ky2_7 z2_7 f2_7 x2_8 kx2_8 y2_8 ky2_8 z2_8 f2_8
        · go_wp2
          go_ret;exact recP rfl (Stair.pass HOK.out (Stair.pass HK.out (Stair.pass HQ.out (Stair.pass HN.out (Stair.fall (fun h => by have:=HE.out.1 h;simp at this)))))) HB3.out
        · have HKP:Hid (KindP s ⟨3,seq,name,length,group,row,rows,data,delta⟩):=HE.out.2 (by simp)
          go_wp2_with fail
          refine (l5Empty_any _ _ _ _ _ _ _ _ _ _ _ _ _ _ _ _).mono ?_;rintro e w9 ⟨t9,rfl,ht9,b9⟩
          have HB9:Hid (Below w.heap.size w w9):=by
            show Below w.heap.size w w9
            refine Below.trans ?_ (b9.mono ?_)
            · repeat (refine below_set ?_ (by omega))
              exact HB3.out
            · simp
              exact HB3.out.size
          clear b9
          have HT9:Hid (t9 = true ↔ BlankP ⟨3,seq,name,length,group,row,rows,data,delta⟩):=by
            show t9 = true ↔ BlankP ⟨3,seq,name,length,group,row,rows,data,delta⟩
            rw [ht9];unfold EmptyQ BlankP noName
            simp [and_assoc]
            try (intros;rfl)
          clear ht9
          cases t9 with
          | false =>
            go_wp2;go_ret;exact recP rfl (Stair.pass HOK.out (Stair.pass HK.out (Stair.pass HQ.out (Stair.pass HN.out (Stair.pass HKP.out (Stair.fall (fun h => by have:=HT9.out.2 h;simp at this))))))) HB9.out
          | true =>
            go_wp2;go_ret;exact recP rfl (Stair.pass HOK.out (Stair.pass HK.out (Stair.pass HQ.out (Stair.pass HN.out (Stair.pass HKP.out (Stair.pass (HT9.out.1 (by simp)) (Stair.last rfl))))))) HB9.out
      · have HN:Hid (NamedP ⟨4,seq,name,length,group,row,rows,data,delta⟩):=fun h => by simp at h
        obtain ⟨t1,h1⟩:=exB (InP group 0 (s 0 + s 1 - 1));obtain ⟨t2,h2⟩:=exB (InP row 0 (s 4 - 1));obtain ⟨t3,h3⟩:=exB (RiseP rows.1 rows.2 (s 0 + s 1 - 1));obtain ⟨b4',h4⟩:∃ b,((data.1:Int) != s 2 * 4) = b:=⟨_,rfl⟩;obtain ⟨t5,h5⟩:=exB (WeightsP s ⟨4,seq,name,length,group,row,rows,data,delta⟩);have cG:=q_same (W:=W2) (fun w' => l1In_b h1 w');have cR:=q_same (W:=W2) (fun w' => l1In_b h2 w');have cA:=q_below (W:=W2) (fun w' _ => l5All_any s HOK.out w');have cW:=q_below (W:=W2) (fun w' _ => l4Wide_any s (by omega) (by omega) w');have cS:=q_below (W:=W2) (fun w' hw' => det_b (l2Rise_any _ rows.1 rows.2 hi (s 0 + s 1 - 1) w' ((H6.out.below HT2.out.bel hhi).below hw' (Nat.le_trans hhi HT2.out.bel.size))) h3);have cX:t1 = true → t3 = true → ∀ d os,Calls Tryz.prog 93 #[shapeV s,.agg #[.int .i64 4,.int .i64 seq,.string name,.int .i64 length,.int .i64 group,.int .i64 row,.slice ao6 rows.1 cap6,.slice ao7 data.1 cap7,.slice ao8 delta.1 cap8]] (Go.Sort.grow (redrawn W2 d) os) fun e w'' => e = .returned (.bool t5) ∧ ∃ p:Regrown,w'' = Go.Sort.grow (redrawn W2 p.d) p.os:=fun e1 e3 => q_below (W:=W2) (fun w' hw' => det_b (l5Weights_any s HOK.out ⟨4,seq,name,length,group,row,rows,data,delta⟩ _ hi w' (layRec.rd_below (layRec.rd_below HRD.out HT2.out.bel hhi) hw' (Nat.le_trans hhi HT2.out.bel.size)) (Nat.le_trans hhi (Nat.le_trans HT2.out.bel.size hw'.size)) (h1.1 e1) (h3.1 e3)) h5);unfold shapeV at cW cA cX
        have HE:Hid (KindP s ⟨4,seq,name,length,group,row,rows,data,delta⟩ ↔ (t1 = true ∧ t2 = true ∧ t3 = true ∧ b4' = false ∧ t5 = true)):=by
          show KindP s ⟨4,seq,name,length,group,row,rows,data,delta⟩ ↔ _
          rw [h1,h2,h3,← h4,h5];unfold KindP ShareP
          simp
        have hst:(t1 = false) ∨ (t1 = true ∧ t2 = false) ∨ (t1 = true ∧ t2 = true ∧ t3 = false) ∨ (t1 = true ∧ t2 = true ∧ t3 = true ∧ b4' = true) ∨ (t1 = true ∧ t2 = true ∧ t3 = true ∧ b4' = false ∧ t5 = false) ∨ (t1 = true ∧ t2 = true ∧ t3 = true ∧ b4' = false ∧ t5 = true):=by
          clear HE h1 h2 h3 h4 h5 cG cR cS cX
          cases t1 <;> simp
          cases t2 <;> simp
          cases t3 <;> simp
          cases b4' <;> simp
        clear h1 h2 h3 h5;go_wp2
        rcases hst with rfl | ⟨rfl,rfl⟩ | ⟨rfl,rfl,rfl⟩ | ⟨rfl,rfl,rfl,rfl⟩ | ⟨rfl,rfl,rfl,rfl,rfl⟩ | ⟨rfl,rfl,rfl,rfl,rfl⟩
        all_goals
          refine WQ.region (by kernel_rfl) (by kernel_rfl) ?_
          repeat (first | (apply WQ.skip;(case hw => rfl);intro K hK;go_simp;apply hK;clear hK K) | (apply WQ.want;(case hw => rfl);intro K hK;go_simp;first | (apply hK;clear hK K) | (apply Exists.intro;apply And.intro;(case left => intro p;(first | (go_at_call_of 59 (Value.int .i64 group);exact cG _ _) | (go_at_call_of 59 (Value.int .i64 row);exact cR _ _) | (go_at_call 91;exact cW _ _) | (go_at_call 27;exact cA _ _) | (go_at_call 92;exact cS _ _) | (go_at_call 93;exact cX rfl rfl _ _)));apply hK;clear hK K)))
          refine WQ.nil ?_;intro w3 hw3;have b3:=below_rg hw3;have X3:Box w3 w1.heap.size #[.int .i64 4,.int .i64 seq,.string name,.int .i64 length,.int .i64 group,.int .i64 row,.slice ao6 rows.1 cap6,.slice ao7 data.1 cap7,.slice ao8 delta.1 cap8] 93:=HX2.out.call b3;have HB3:Hid (Below w.heap.size w w3):=(HT2.out.call b3).bel;have z3_0:w3.cell? ⟨w1.heap.size,0,none⟩ = some (.int .i64 4):=X3.cell 0;have f3_0:w3.frozen? ⟨w1.heap.size,0,none⟩ = false:=X3.frozen 0;have z3_1:w3.cell? ⟨w1.heap.size,1,none⟩ = some (.int .i64 seq):=X3.cell 1;have f3_1:w3.frozen? ⟨w1.heap.size,1,none⟩ = false:=X3.frozen 1;have z3_2:w3.cell? ⟨w1.heap.size,2,none⟩ = some (.string name):=X3.cell 2;have f3_2:w3.frozen? ⟨w1.heap.size,2,none⟩ = false:=X3.frozen 2;have z3_3:w3.cell? ⟨w1.heap.size,3,none⟩ = some (.int .i64 length):=X3.cell 3;have f3_3:w3.frozen? ⟨w1.heap.size,3,none⟩ = false:=X3.frozen 3;have z3_4:w3.cell? ⟨w1.heap.size,4,none⟩ = some (.int .i64 group):=X3.cell 4;have f3_4:w3.frozen? ⟨w1.heap.size,4,none⟩ = false:=X3.frozen 4;have z3_5:w3.cell? ⟨w1.heap.size,5,none⟩ = some (.int .i64 row):=X3.cell 5;have f3_5:w3.frozen? ⟨w1.heap.size,5,none⟩ = false:=X3.frozen 5;have z3_6:w3.cell? ⟨w1.heap.size,6,none⟩ = some (.slice ao6 rows.1 cap6):=X3.cell 6;have f3_6:w3.frozen? ⟨w1.heap.size,6,none⟩ = false:=X3.frozen 6;have z3_7:w3.cell? ⟨w1.heap.size,7,none⟩ = some (.slice ao7 data.1 cap7):=X3.cell 7;have f3_7:w3.frozen? ⟨w1.heap.size,7,none⟩ = false:=X3.frozen 7;have z3_8:w3.cell? ⟨w1.heap.size,8,none⟩ = some (.slice ao8 delta.1 cap8):=X3.cell 8;have f3_8:w3.frozen? ⟨w1.heap.size,8,none⟩ = false:=X3.frozen 8;clear X3 b3;clear hw3 x2_0 kx2_0 y2_0 ky2_0 z2_0 f2_0 x2_1 kx2_1 y2_1 ky2_1 z2_1 f2_1 x2_2 kx2_2 y2_2 ky2_2 z2_2 f2_2 x2_3 kx2_3 y2_3 ky2_3 z2_3 f2_3 x2_4 kx2_4 y2_4 ky2_4 z2_4 f2_4 x2_5 kx2_5 y2_5 ky2_5 z2_5 f2_5 x2_6 kx2_6 y2_6 ky2_6 z2_6 f2_6 x2_7 kx2_7 y2_7 ky2_7 z2_7 f2_7 x2_8 kx2_8 y2_8 ky2_8 z2_8 f2_8
        · go_wp2
          go_ret;exact recP rfl (Stair.pass HOK.out (Stair.pass HK.out (Stair.pass HQ.out (Stair.pass HN.out (Stair.fall (fun h => by have:=HE.out.1 h;simp at this)))))) HB3.out
        · go_wp2
          go_ret;exact recP rfl (Stair.pass HOK.out (Stair.pass HK.out (Stair.pass HQ.out (Stair.pass HN.out (Stair.fall (fun h => by have:=HE.out.1 h;simp at this)))))) HB3.out
        · go_wp2
          go_ret;exact recP rfl (Stair.pass HOK.out (Stair.pass HK.out (Stair.pass HQ.out (Stair.pass HN.out (Stair.fall (fun h => by have:=HE.out.1 h;simp at this)))))) HB3.out
        · go_wp2
          go_ret;exact recP rfl (Stair.pass HOK.out (Stair.pass HK.out (Stair.pass HQ.out (Stair.pass HN.out (Stair.fall (fun h => by have:=HE.out.1 h;simp at this)))))) HB3.out
        · go_wp2
          go_ret;exact recP rfl (Stair.pass HOK.out (Stair.pass HK.out (Stair.pass HQ.out (Stair.pass HN.out (Stair.fall (fun h => by have:=HE.out.1 h;simp at this)))))) HB3.out
        · have HKP:Hid (KindP s ⟨4,seq,name,length,group,row,rows,data,delta⟩):=HE.out.2 (by simp)
          go_wp2_with fail
          refine (l5Empty_any _ _ _ _ _ _ _ _ _ _ _ _ _ _ _ _).mono ?_;rintro e w9 ⟨t9,rfl,ht9,b9⟩
          have HB9:Hid (Below w.heap.size w w9):=by
            show Below w.heap.size w w9
            refine Below.trans ?_ (b9.mono ?_)
            · repeat (refine below_set ?_ (by omega))
              exact HB3.out
            · simp
              exact HB3.out.size
          clear b9
          have HT9:Hid (t9 = true ↔ BlankP ⟨4,seq,name,length,group,row,rows,data,delta⟩):=by
            show t9 = true ↔ BlankP ⟨4,seq,name,length,group,row,rows,data,delta⟩
            rw [ht9];unfold EmptyQ BlankP noName
            simp [and_assoc]
            try (intros;rfl)
          clear ht9
          cases t9 with
          | false =>
            go_wp2;go_ret;exact recP rfl (Stair.pass HOK.out (Stair.pass HK.out (Stair.pass HQ.out (Stair.pass HN.out (Stair.pass HKP.out (Stair.fall (fun h => by have:=HT9.out.2 h;simp at this))))))) HB9.out
          | true =>
            go_wp2;go_ret;exact recP rfl (Stair.pass HOK.out (Stair.pass HK.out (Stair.pass HQ.out (Stair.pass HN.out (Stair.pass HKP.out (Stair.pass (HT9.out.1 (by simp)) (Stair.last rfl))))))) HB9.out
    · go_wp2_with fail
      refine (l1In_b (t:=false) (exBF hq) _).mono ?_;rintro e w' ⟨rfl,hw'⟩;obtain rfl:=hw'.symm;go_wp2;go_ret;exact recP rfl (Stair.pass HOK.out (Stair.pass hk (Stair.fall hq))) HT1.out.bel
  · go_wp2_with fail
    refine (l1In_b (t:=false) (exBF hk) _).mono ?_;rintro e w' ⟨rfl,hw'⟩;obtain rfl:=hw'.symm;go_wp2;go_ret;exact recP rfl (Stair.pass HOK.out (Stair.fall hk)) HT1.out.bel
end Go.Proofs.YtbjblbbbafiepaaGreat
namespace Go.Proofs.YtbjblbbbafiepaaGreat
open Go.RowKit F256
theorem stair_ex {K:Int → Prop} (hK:∃ x,K x):∀ l:List (Prop × Int),∃ x,Stair l K x
  | [] => hK
  | (p,c) :: l => by
    by_cases h:p
    · obtain ⟨x,hx⟩:=stair_ex hK l
      exact ⟨x,.inr ⟨h,hx⟩⟩
    · exact ⟨c,.inl ⟨h,rfl⟩⟩
theorem rec_det {s:Nat → Int} {d:RecD} {X:Int} {w:World} {f:Nat} {args:Array Value} (hX:RecAns s d X) (h:Calls Tryz.prog f args w (RecPost s d w)):Calls Tryz.prog f args w fun e w' => e = .returned (.int .i64 X) ∧ Below w.heap.size w w' :=
  h.mono fun e w' ⟨x,h1,h2,h3⟩ => ⟨by rw [h1,h2.one hX],h3⟩
def WldPost (d:WorldD) (w:World) (e:Ending) (w':World):Prop:=∃ x,e = .returned (.int .i64 x) ∧ WldAns d x ∧ Below w.heap.size w w'
theorem wldP {d:WorldD} {w:World} {e:Ending} {w':World} {x:Int} (he:e = .returned (.int .i64 x)) (h:WldAns d x) (hb:Below w.heap.size w w'):WldPost d w e w':=⟨x,he,h,hb⟩
def RcsPost (s:Nat → Int) (p:Nat × (Nat → TapeD)) (w:World) (e:Ending) (w':World):Prop:=∃ x,e = .returned (.int .i64 x) ∧ RecsAns s p.1 p.2 x ∧ Below w.heap.size w w'
theorem WQ.free {P:Program} {ops:Array Oper} {C:World → Prop} {Q:Act → Prop} {a:Act} {o:Oper} {rest:List Oper} (hw:o.guard = none)
    (h:∀ K:Act → Prop,(∀ a,WQ P ops C Q rest a → K a) → o.quiet P a C K):WQ P ops C Q (o :: rest) a:=WQ.want (by simp [Region.wanted,hw]) h
end Go.Proofs.YtbjblbbbafiepaaGreat
namespace Go.Proofs.YtbjblbbbafiepaaGreat
open Go.RowKit F256
theorem recs_row (s:Nat → Int) (y:Nat → RecD):∀ k,(∀ i,i < k → RecAns s (y i) 0) ∨ ∃ i c,i < k ∧ c ≠ 0 ∧ RecAns s (y i) c ∧ ∀ j,j < i → RecAns s (y j) 0
  | 0 => .inl (fun i hi => by omega)
  | k + 1 => by
    rcases recs_row s y k with h | ⟨i,c,h1,h2,h3,h4⟩
    · obtain ⟨X,hX⟩:∃ X,RecAns s (y k) X:=stair_ex (K:=isZ) ⟨0,rfl⟩ _
      by_cases hx:X = 0
      · subst hx
        exact .inl (fun i hi => by
          by_cases c:i = k
          · subst c;exact hX
          · exact h i (by omega))
      · exact .inr ⟨k,X,by omega,hx,hX,h⟩
    · exact .inr ⟨i,c,by omega,h2,h3,h4⟩
theorem recs_ex (s:Nat → Int) (x:Nat → TapeD):∀ n,∃ c,RecsAns s n x c
  | 0 => ⟨0,.inl ⟨rfl,fun t ht => by omega⟩⟩
  | n + 1 => by
    obtain ⟨c,hc⟩:=recs_ex s x n
    rcases hc with ⟨rfl,h⟩ | ⟨hc,t,i,ht,hi,hr,hb,hu⟩
    · rcases recs_row s (x n).recs.2 (x n).recs.1 with k | ⟨i,c,h1,h2,h3,h4⟩
      · exact ⟨0,.inl ⟨rfl,fun t ht => by
          by_cases c:t = n
          · subst c;exact k
          · exact h t (by omega)⟩⟩
      · exact ⟨c,.inr ⟨h2,n,i,by omega,h1,h3,h4,h⟩⟩
    · exact ⟨c,.inr ⟨hc,t,i,by omega,hi,hr,hb,hu⟩⟩
theorem world_ex (d:WorldD):∃ X,WldAns d X:=by
  unfold WldAns;refine stair_ex ?_ _;obtain ⟨c,hc⟩:=recs_ex d.shape d.tapes.2 d.tapes.1
  by_cases h:c = 0
  · subst h
    obtain ⟨x,hx⟩:=stair_ex (K:=isZ) ⟨0,rfl⟩ [(CleanP d,1),(CountP d,3)];exact ⟨x,.inr ⟨hc,hx⟩⟩
  · exact ⟨c,.inl ⟨h,hc⟩⟩
end Go.Proofs.YtbjblbbbafiepaaGreat
namespace Go.Proofs.YtbjblbbbafiepaaGreat
open Go.RowKit F256
structure ElInfo {α:Type} (E:Lay α) (T e:TypeId) (by_:Nat) (zs:List Value):Prop where
  hs:0 < E.sz
  hzs:zs.length = E.sz
  hu:Tryz.prog.underlying T = some (.slice e)
  hi:(Tryz.prog.info? e).map (fun i => (i.zero.map (·.cells),i.size,i.bytes)) = some (some zs.toArray,E.sz,by_)
  few:by_ ≤ 1000
section
variable {α:Type} {E:Lay α} {t:TypeId} {w w':World} {lo n:Nat} {v:Value} {x:Nat → α}
end
end Go.Proofs.YtbjblbbbafiepaaGreat
namespace Go.Proofs.YtbjblbbbafiepaaGreat
open Go.RowKit F256
end Go.Proofs.YtbjblbbbafiepaaGreat
namespace Go.Proofs.YtbjblbbbafiepaaGreat
open Go.RowKit F256
section
variable {α:Type} {E:Lay α} {t:TypeId} {w w1:World} {lo g cap n k:Nat} {x:Nat → α} {ce:Nat → List Value} {Ls:Nat → List Nat}
end
end Go.Proofs.YtbjblbbbafiepaaGreat
namespace Go.Proofs.YtbjblbbbafiepaaGreat
open Go.RowKit F256
def noRec:RecD:=⟨0,0,ByteArray.empty,0,0,0,(0,fun _ => 0),(0,fun _ => 0),(0,fun _ => 0)⟩
def zeroT:TapeD:=⟨false,(0,fun _ => noRec)⟩
theorem Box.chgl {w w':World} {b:Nat} {cs:Array Value} {t:TypeId} {K:List Nat} (h:Box w b cs t) (hc:ChgL K w w') (hb:b ∉ K):Box w' b cs t:=(hc.block b h.lt hb).trans h
theorem ChgL.bel {K:List Nat} {w w':World} {B:Nat} (hc:ChgL K w w') (hK:∀ b,b ∈ K → B ≤ b) (hB:B ≤ w.heap.size):Below B w w':=⟨hc.os,hc.tape,hc.output,hc.size,fun k hk => hc.block k (by omega) (fun h => by have:=hK k h;omega)⟩
theorem Two.chgl {w wc w':World} {c1 c2:Array Value} {t1 t2:TypeId} {P:Nat} (h:Two w wc c1 c2 t1 t2) (hc:ChgL [P] wc w') (hP:w.heap.size + 1 < P):Two w w' c1 c2 t1 t2 :=
  ⟨h.b1.chgl hc (by simp;omega),h.b2.chgl hc (by simp;omega),h.bel.trans (hc.bel (fun b hb => by simp at hb;omega) h.bel.size)⟩
structure NewBx (cs:Array Value) (w1 wx:World) (P t:Nat):Prop where
  box:Box wx P cs 37
  tp:(layTape.slice 90).own wx (2,fun _ => zeroT) [.slice (some ⟨t,0,none⟩) 2 2] [t]
  p1:w1.heap.size ≤ P
  t1:w1.heap.size ≤ t
  ne:t ≠ P
  bel:Below w1.heap.size w1 wx
end Go.Proofs.YtbjblbbbafiepaaGreat
namespace Go.Proofs.YtbjblbbbafiepaaGreat
open Go.RowKit F256
theorem mark_T {α:Type} {A:Lay α} {c:α → Nat} {mk:Nat → α → α} {fn:Nat} (hm:MkV A c mk fn) {w:World} {lo hi:Nat} {d:α} {cs:List Value} (h:OwnT A w lo hi d cs) (j:Nat) (hj:j + c d ≤ 100000000) :
    Calls Tryz.prog fn #[.agg cs.toArray,.int .i64 j] w fun e w' => e = .returned (.int .i64 ((j + c d:Nat):Int)) ∧ OwnT A w' lo hi (mk j d) cs ∧ Chg lo hi w w':=by
  obtain ⟨L,h1,h2,h3⟩:=h;exact (hm cs d L j w h1 h2 hj).mono fun e w' ⟨he,ho,hc⟩ => ⟨he,⟨L,ho,h2,h3⟩,hc.chg h3⟩
theorem Chg.bel {lo hi B:Nat} {w w':World} (h:Chg lo hi w w') (hl:B ≤ lo) (hB:B ≤ w.heap.size):Below B w w':=⟨h.os,h.tape,h.output,h.size,fun k hk => h.block k (by omega) (.inl (by omega))⟩
theorem sumN_mono2 {f g:Nat → Nat}:∀ {n:Nat},(∀ i,i < n → f i ≤ g i) → sumN f n ≤ sumN g n
  | 0,_ => Nat.le_refl _
  | n + 1,h => by
    rw [sumN_succ,sumN_succ];exact Nat.add_le_add (sumN_mono2 (fun i hi => h i (by omega))) (h n (by omega))
theorem sumN_const (c:Nat):∀ n:Nat,sumN (fun _ => c) n = n * c
  | 0 => by simp [sumN]
  | n + 1 => by rw [sumN_succ,sumN_const c n,Nat.succ_mul]
theorem sumN_plus (f:Nat → Nat) (c k:Nat):∀ n:Nat,sumN (fun i => c + k * f i) n = n * c + k * sumN f n
  | 0 => by simp [sumN]
  | n + 1 => by rw [sumN_succ,sumN_plus f c k n,sumN_succ,Nat.succ_mul,Nat.mul_add];omega
theorem cSl_le {α:Type} {c s:α → Nat} {k:Nat} (h:∀ a,c a ≤ k + k * s a) (p:Nat × (Nat → α)):cSl c p ≤ k * szSl s p:=by
  unfold cSl szSl;have h1:sumN (fun i => c (p.2 i)) p.1 ≤ sumN (fun i => k + k * s (p.2 i)) p.1:=sumN_mono2 (fun i _ => h (p.2 i));rw [sumN_plus (fun i => s (p.2 i)) k k p.1] at h1;rw [Nat.mul_add];have:p.1 * k = k * p.1:=Nat.mul_comm _ _;omega
theorem cBlock_le (d:BlockD):cBlockD d ≤ 6 + 6 * szBlockD d:=by unfold cBlockD szBlockD;omega
theorem cDrive_le (d:DriveD):cDriveD d ≤ 6 + 6 * szDriveD d:=by
  have:=cSl_le (k:=6) cBlock_le d.blocks;unfold cDriveD szDriveD;omega
theorem cRec_le (d:RecD):cRecD d ≤ 6 + 6 * szRecD d:=by unfold cRecD szRecD;omega
theorem cTape_le (d:TapeD):cTapeD d ≤ 6 + 6 * szTapeD d:=by
  have:=cSl_le (k:=6) cRec_le d.recs;unfold cTapeD szTapeD;omega
theorem cvWorld_le (d:WorldD):cvWorldD d ≤ 6 * szWorldD d:=by
  have h1:=cSl_le (c:=cSl cDriveD) (s:=szSl szDriveD) (k:=6) (fun p => Nat.le_trans (cSl_le (k:=6) cDrive_le p) (by omega)) d.groups;have h3:=cSl_le (k:=6) cTape_le d.tapes;unfold cvWorldD szWorldD;omega
end Go.Proofs.YtbjblbbbafiepaaGreat
namespace Go.Proofs.YtbjblbbbafiepaaGreat
open Go.RowKit F256
theorem OwnT.one {α:Type} {A:Lay α} {w:World} {lo hi:Nat} {a:α} {cs:List Value} (h:OwnT A w lo hi a cs):∀ v,v ∈ cs → v.oneCell' = true:=by
  obtain ⟨L,h1,_⟩:=h;exact fun v hv => A.own_one h1 v hv
theorem wp_allocStore {ops:Array Oper} {rest:List Oper} {o1 o2:Oper} {a:Act} {w:World} {Q:Exit → Act → World → Prop} (T:TypeId) (k:Nat) (x:Operand) (cs:List Value) (zs:Array Value) (n:Nat)
    (hop1:o1.op = Op.alloc T) (hop2:o2.op = Op.store T (.tmp k) x) (hg1:o1.guard = none) (hg2:o2.guard = none) (hd1:o1.dst = some k) (hd2:o2.dst = none)
    (hp:(a.put (some k) (.pointer (some ⟨w.heap.size,0,none⟩))).eval (.tmp k) = .pointer (some ⟨w.heap.size,0,none⟩)) (hx:(a.put (some k) (.pointer (some ⟨w.heap.size,0,none⟩))).eval x = .agg cs.toArray)
    (hi:(Tryz.prog.info? T).map (fun i => (i.zero.map (·.cells),i.size)) = some (some zs,n)) (hz:zs.size = n) (hl:cs.length = n) (h1:∀ v,v ∈ cs → v.oneCell' = true)
    (h:wpList Tryz.prog ops Q rest (a.put (some k) (.pointer (some ⟨w.heap.size,0,none⟩))) (w.alloc (.cells cs.toArray T))):wpList Tryz.prog ops Q (o1 :: o2 :: rest) a w:=by
  obtain ⟨i0,hi0⟩:∃ i0,Tryz.prog.info? T = some i0:=by
    cases h:Tryz.prog.info? T with
    | none => rw [h] at hi;cases hi
    | some i0 => exact ⟨i0,rfl⟩
  rw [hi0] at hi
  simp only [Option.map_some,Option.some.injEq,Prod.mk.injEq] at hi
  obtain ⟨h2,h3⟩:=hi
  obtain ⟨z,hzz,hzc⟩:∃ z,i0.zero = some z ∧ z.cells = zs:=by
    cases h:i0.zero with
    | none => rw [h] at h2;cases h2
    | some z => rw [h] at h2;exact ⟨z,rfl,by simpa using h2⟩
  have hr:(Instr.alloc T true (.tuple #[])).run Tryz.prog w = .ok (.pointer (some ⟨w.heap.size,0,none⟩)) (w.alloc (.cells zs T)):=by
    simp [Instr.alloc,zeroValue,typeInfo,hi0,hzz,hzc,newVar,newRow]
  have hw:(w.alloc (.cells zs T)).setRow w.heap.size cs.toArray = w.alloc (.cells cs.toArray T):=by
    have hh:((w.alloc (.cells zs T)).setRow w.heap.size cs.toArray).heap = w.heap.push (.cells cs.toArray T):=by
      apply Array.ext_getElem?
      intro i
      by_cases c:i = w.heap.size
      · subst c
        rw [setRow_heap (w.alloc (.cells zs T)) w.heap.size zs cs.toArray T (0,0) (box_new w zs T),Array.getElem?_push,if_pos rfl]
      · rw [setRow_other _ _ _ _ c,Array.getElem?_push,if_neg c]
        show (w.heap.push _)[i]? = _
        rw [Array.getElem?_push,if_neg c]
    show ({ w with heap:=((w.alloc (.cells zs T)).setRow w.heap.size cs.toArray).heap }:World) = _
    rw [hh];rfl
  refine wpList_plain hg1 fun K hK => ?_;unfold Oper.wp execOp
  simp only [hop1,Sem.run_bind,hr,Result.andThen_ok]
  refine hK _ _ ?_;rw [hd1];refine wpList_store_row hg2 T (.tmp k) x hop2 w.heap.size cs.toArray hp hx T zs (box_new w zs T) (by rw [hi0];simp [h3,hl]) (by simp [hz,hl]) (by simp;exact h1) ?_;rw [hw,hd2];exact h
theorem wp_loadBox {ops:Array Oper} {rest:List Oper} {o:Oper} {a:Act} {w:World} {Q:Exit → Act → World → Prop} (T:TypeId) (x:Operand) (ho:o.op = .load T x) (hgd:o.guard = none) (b:Nat) (hx:a.eval x = .pointer (some ⟨b,0,none⟩)) {cs:List Value} (hB:Box w b cs.toArray T) {fs:Array Field} (hu:Tryz.prog.underlying T = some (.struct fs)) {n:Nat} (hi:(Tryz.prog.info? T).map (·.size) = some n) (hl:cs.length = n)
    (h:wpList Tryz.prog ops Q rest (a.put o.dst (.agg cs.toArray)) w):wpList Tryz.prog ops Q (o :: rest) a w :=
  wpList_load_row hgd T x ho b hx T cs.toArray (0,0) (.struct fs) hB hu rfl (by rw [hi];simp [hl]) h
theorem size_W:(Tryz.prog.info? 37).map (·.size) = some 15:=by kernel_rfl
theorem size_LW:(Tryz.prog.info? 28).map (·.size) = some 15:=by kernel_rfl
theorem info_W:(Tryz.prog.info? 37).map (fun i => (i.zero.map (·.cells),i.size)) = some (some #[.int .i64 0,.int .i64 0,.int .i64 0,.int .i64 0,.int .i64 0,.int .i64 0,.int .i64 0,.int .i64 0,.int .i64 0,.slice none 0 0,.slice none 0 0,.slice none 0 0,.int .i64 0,.int .i64 0,.bool false],15):=by kernel_rfl
end Go.Proofs.YtbjblbbbafiepaaGreat
namespace Go.Proofs.YtbjblbbbafiepaaGreat
open Go.RowKit F256
def wipedN (x:Nat → DriveD):Nat → Nat
  | 0 => 0
  | n + 1 => wipedN x n + (if (x n).wiped = true then 1 else 0)
theorem wipedN_le (x:Nat → DriveD):∀ n,wipedN x n ≤ n
  | 0 => Nat.le_refl _
  | n + 1 => by
    have:=wipedN_le x n;unfold wipedN
    split <;> omega
def DeadP (d:WorldD) (G:Nat):Prop:=d.shape 3 < (wipedN (d.groups.2 G).2 (d.groups.2 G).1:Int)
set_option maxHeartbeats 8000000 in
set_option maxRecDepth 20000 in
theorem isDead_any (d:WorldD) (cs:List Value) (hi:Nat) (G:Nat) (w:World) (h:layWorld.rd w hi d cs) (hhi:hi ≤ w.heap.size) (hG:G < d.groups.1) :
    Calls Tryz.prog 35 #[.agg cs.toArray,.int .i64 (G:Int)] w (BoolP (DeadP d G) w):=by
  obtain ⟨ao1,cap1,ao2,cap2,ao3,cap3,rfl,g1,g2,g3,k0,k4,k5⟩:=World_rd h;obtain ⟨_,_,e1,hm1,hc1⟩:=g1
  cases e1
  obtain ⟨b1,off1,he1,hb1,hel1⟩:=hc1 (by omega);subst he1;obtain ⟨cg,hrg,hcg⟩:=hel1 G hG;obtain ⟨ao9,cap9,rfl⟩:=sl_form hrg
  have c0:w.cell? ⟨b1,off1 + G,none⟩ = some (.slice ao9 (d.groups.2 G).1 cap9):=by
    have:=hcg 0 (by decide)
    have e:off1 + (G * (layDrive.slice 98).sz + 0) = off1 + G:=by show off1 + (G * 1 + 0) = off1 + G;omega
    rw [e] at this;exact this
  obtain ⟨_,_,e9,hm9,hc9⟩:=hrg
  cases e9
  unfold maxLen at hm9
  have i1:(0:Int) ≤ (G:Int):=by omega
  have i2:(G:Int) < (d.groups.1:Int):=by omega
  clear g2 g3 k0 k4 k5 hcg hel1 hc1 hm1;have T0:=one_new w #[.int .i64 (d.shape 0),.int .i64 (d.shape 1),.int .i64 (d.shape 2),.int .i64 (d.shape 3),.int .i64 (d.shape 4),.int .i64 (d.shape 5),.int .i64 (d.shape 6),.int .i64 (d.shape 7),.int .i64 (d.shape 8),.slice (some ⟨b1,off1,none⟩) d.groups.1 cap1,.slice ao2 d.on.1 cap2,.slice ao3 d.tapes.1 cap3,.int .i64 d.writes,.int .i64 d.stop,.bool d.down] 37;have x9:=T0.b1.cell 9;have c0':=(T0.bel.cell (p:=⟨b1,off1 + G,none⟩) (by show b1 < w.heap.size;omega)).trans c0
  go_enter Tryz.func35,Tryz.ntmps35
  go_wp2
  go_loopw [5,14] (fun v i wr => ∃ k:Nat,k ≤ (d.groups.2 G).1 ∧ i = .int .i64 k ∧ v = .int .i64 (wipedN (d.groups.2 G).2 k:Int) ∧ One w wr #[.int .i64 (d.shape 0),.int .i64 (d.shape 1),.int .i64 (d.shape 2),.int .i64 (d.shape 3),.int .i64 (d.shape 4),.int .i64 (d.shape 5),.int .i64 (d.shape 6),.int .i64 (d.shape 7),.int .i64 (d.shape 8),.slice (some ⟨b1,off1,none⟩) d.groups.1 cap1,.slice ao2 d.on.1 cap2,.slice ao3 d.tapes.1 cap3,.int .i64 d.writes,.int .i64 d.stop,.bool d.down] 37) (fun _ i _ => (d.groups.2 G).1 - (intOf i).toNat)
  case atStart => exact ⟨0,Nat.zero_le _,rfl,rfl,T0⟩
  case round =>
    clear T0 x9 c0';obtain ⟨k,hk,rfl,rfl,T⟩:=hrel;have HT:Hid (One w wr #[.int .i64 (d.shape 0),.int .i64 (d.shape 1),.int .i64 (d.shape 2),.int .i64 (d.shape 3),.int .i64 (d.shape 4),.int .i64 (d.shape 5),.int .i64 (d.shape 6),.int .i64 (d.shape 7),.int .i64 (d.shape 8),.slice (some ⟨b1,off1,none⟩) d.groups.1 cap1,.slice ao2 d.on.1 cap2,.slice ao3 d.tapes.1 cap3,.int .i64 d.writes,.int .i64 d.stop,.bool d.down] 37):=T;have x3:wr.cell? ⟨w.heap.size,3,none⟩ = some (.int .i64 (d.shape 3)):=T.b1.cell 3;have hwk:=wipedN_le (d.groups.2 G).2 k
    by_cases hlt:k < (d.groups.2 G).1
    · have t1:(k:Int) < ((d.groups.2 G).1:Int):=by omega
      obtain ⟨b,off,rfl,hblt,hcell⟩:=hc9 (by omega);obtain ⟨cd,hrd,hcd⟩:=hcell k hlt;obtain ⟨ao5,cap5,rfl,g5⟩:=Drive_rd hrd;have c2:wr.cell? ⟨b,off + k * 2,none⟩ = some (.bool ((d.groups.2 G).2 k).wiped):=(T.bel.cell (p:=⟨b,off + k * 2,none⟩) (by show b < w.heap.size;omega)).trans (hcd 0 (by decide));have c3:wr.cell? ⟨b,off + k * 2 + 1,none⟩ = some (.slice ao5 ((d.groups.2 G).2 k).blocks.1 cap5):=(T.bel.cell (p:=⟨b,off + k * 2 + 1,none⟩) (by show b < w.heap.size;omega)).trans (hcd 1 (by decide));obtain ⟨D,hD⟩:∃ D,D = (d.groups.2 G).2 k:=⟨_,rfl⟩;have HD:Hid (D = (d.groups.2 G).2 k):=hD;rw [← hD] at c2 c3;obtain ⟨m,hm⟩:∃ m,m = wipedN (d.groups.2 G).2 k:=⟨_,rfl⟩;have HM:Hid (m = wipedN (d.groups.2 G).2 k):=hm;rw [← hm] at hwk ⊢;have HT9:Hid (One w (wr.alloc (.cells #[.bool D.wiped,.slice ao5 D.blocks.1 cap5] 98)) #[.int .i64 (d.shape 0),.int .i64 (d.shape 1),.int .i64 (d.shape 2),.int .i64 (d.shape 3),.int .i64 (d.shape 4),.int .i64 (d.shape 5),.int .i64 (d.shape 6),.int .i64 (d.shape 7),.int .i64 (d.shape 8),.slice (some ⟨b1,off1,none⟩) d.groups.1 cap1,.slice ao2 d.on.1 cap2,.slice ao3 d.tapes.1 cap3,.int .i64 d.writes,.int .i64 d.stop,.bool d.down] 37):=HT.out.call ((Below.refl _ _).alloc (Nat.le_refl _) _);clear hc9 hcell hcd hrd g5 T hD hm x3
      cases hw:D.wiped with
      | true =>
        rw [hw] at c2 HT9;have HW:Hid (D.wiped = true):=hw
        have zz:IntKind.i64.wrap ((m:Int) + 1) = (m:Int) + 1:=by rw [IntKind.wrap_i64];omega
        clear hw;go_wp2
        go_roundw
        case rel => exact ⟨k + 1,by omega,by go_num,by
          have e:wipedN (d.groups.2 G).2 (k + 1) = m + 1:=by
            show wipedN (d.groups.2 G).2 k + (if ((d.groups.2 G).2 k).wiped = true then 1 else 0) = m + 1
            rw [← HD.out,if_pos HW.out,← HM.out]
          rw [e];go_num,HT9.out⟩
        case measure => simp [intOf];omega
      | false =>
        rw [hw] at c2 HT9;have HW:Hid (D.wiped = false):=hw;clear hw;go_wp2
        go_roundw
        case rel => exact ⟨k + 1,by omega,by go_num,by
          have e:wipedN (d.groups.2 G).2 (k + 1) = m:=by
            show wipedN (d.groups.2 G).2 k + (if ((d.groups.2 G).2 k).wiped = true then 1 else 0) = m
            rw [← HD.out,if_neg (by rw [HW.out];decide),← HM.out];rfl
          rw [e],HT9.out⟩
        case measure => simp [intOf];omega
    · obtain rfl:k = (d.groups.2 G).1:=by omega
      clear hlt T hc9
      by_cases hd:d.shape 3 < (wipedN (d.groups.2 G).2 (d.groups.2 G).1:Int)
      · have HD:Hid (DeadP d G):=hd
        have dd:decide (d.shape 3 < (wipedN (d.groups.2 G).2 (d.groups.2 G).1:Int)) = true:=decide_eq_true hd;clear hd;go_wp2;go_ret;exact boolYes rfl HD.out HT.out.bel
      · have HD:Hid (¬ DeadP d G):=hd
        have dd:decide (d.shape 3 < (wipedN (d.groups.2 G).2 (d.groups.2 G).1:Int)) = false:=decide_eq_false hd;clear hd;go_wp2;go_ret;exact boolNo rfl HD.out HT.out.bel
set_option maxHeartbeats 8000000 in
set_option maxRecDepth 20000 in
theorem l7Dead_any (d:WorldD) (cs:List Value) (hi B:Nat) (G:Nat) (w:World) (h:layWorld.rd w hi d cs) (hhi:hi ≤ w.heap.size) (hB:Box w B cs.toArray 37) (hG:G < d.groups.1) :
    Calls Tryz.prog 28 #[.pointer (some ⟨B,0,none⟩),.int .i64 (G:Int)] w (BoolP (DeadP d G) w):=by
  obtain ⟨ao1,cap1,ao2,cap2,ao3,cap3,rfl,g1,g2,g3,k0,k4,k5⟩:=World_rd h;obtain ⟨_,_,e1,hm1,hc1⟩:=g1
  cases e1
  obtain ⟨b1,off1,he1,hb1,hel1⟩:=hc1 (by omega);subst he1;obtain ⟨cg,hrg,hcg⟩:=hel1 G hG;obtain ⟨ao9,cap9,rfl⟩:=sl_form hrg
  have c0:w.cell? ⟨b1,off1 + G,none⟩ = some (.slice ao9 (d.groups.2 G).1 cap9):=by
    have:=hcg 0 (by decide)
    have e:off1 + (G * (layDrive.slice 98).sz + 0) = off1 + G:=by show off1 + (G * 1 + 0) = off1 + G;omega
    rw [e] at this;exact this
  obtain ⟨_,_,e9,hm9,hc9⟩:=hrg
  cases e9
  unfold maxLen at hm9
  have i1:(0:Int) ≤ (G:Int):=by omega
  have i2:(G:Int) < (d.groups.1:Int):=by omega
  clear g2 g3 k0 k4 k5 hcg hel1 hc1 hm1;have x9:w.cell? ⟨B,9,none⟩ = some (.slice (some ⟨b1,off1,none⟩) d.groups.1 cap1):=hB.cell 9;have x3:w.cell? ⟨B,3,none⟩ = some (.int .i64 (d.shape 3)):=hB.cell 3;clear hB
  go_enter Tryz.func28,Tryz.ntmps28
  go_wp2
  go_loopw [5,6] (fun v i wr => ∃ k:Nat,k ≤ (d.groups.2 G).1 ∧ i = .int .i64 k ∧ v = .int .i64 (wipedN (d.groups.2 G).2 k:Int) ∧ wr = w) (fun _ i _ => (d.groups.2 G).1 - (intOf i).toNat)
  case atStart => exact ⟨0,Nat.zero_le _,rfl,rfl,rfl⟩
  case round =>
    obtain ⟨k,hk,rfl,rfl,e⟩:=hrel;obtain rfl:=e.symm;have hwk:=wipedN_le (d.groups.2 G).2 k
    by_cases hlt:k < (d.groups.2 G).1
    · have t1:(k:Int) < ((d.groups.2 G).1:Int):=by omega
      obtain ⟨b,off,rfl,hblt,hcell⟩:=hc9 (by omega);obtain ⟨cd,hrd,hcd⟩:=hcell k hlt;obtain ⟨ao5,cap5,rfl,g5⟩:=Drive_rd hrd;have c2:w.cell? ⟨b,off + k * 2,none⟩ = some (.bool ((d.groups.2 G).2 k).wiped):=hcd 0 (by decide);obtain ⟨D,hD⟩:∃ D,D = (d.groups.2 G).2 k:=⟨_,rfl⟩;have HD:Hid (D = (d.groups.2 G).2 k):=hD;rw [← hD] at c2;obtain ⟨m,hm⟩:∃ m,m = wipedN (d.groups.2 G).2 k:=⟨_,rfl⟩;have HM:Hid (m = wipedN (d.groups.2 G).2 k):=hm;rw [← hm] at hwk ⊢;clear hc9 hcell hcd hrd g5 hD hm
      cases hw:D.wiped with
      | true =>
        rw [hw] at c2;have HW:Hid (D.wiped = true):=hw
        have zz:IntKind.i64.wrap ((m:Int) + 1) = (m:Int) + 1:=by rw [IntKind.wrap_i64];omega
        clear hw;go_wp2
        go_roundw
        case rel => exact ⟨k + 1,by omega,by go_num,by
          have e:wipedN (d.groups.2 G).2 (k + 1) = m + 1:=by
            show wipedN (d.groups.2 G).2 k + (if ((d.groups.2 G).2 k).wiped = true then 1 else 0) = m + 1
            rw [← HD.out,if_pos HW.out,← HM.out]
          rw [e];go_num,trivial⟩
        case measure => simp [intOf];omega
      | false =>
        rw [hw] at c2;have HW:Hid (D.wiped = false):=hw;clear hw;go_wp2
        go_roundw
        case rel => exact ⟨k + 1,by omega,by go_num,by
          have e:wipedN (d.groups.2 G).2 (k + 1) = m:=by
            show wipedN (d.groups.2 G).2 k + (if ((d.groups.2 G).2 k).wiped = true then 1 else 0) = m
            rw [← HD.out,if_neg (by rw [HW.out];decide),← HM.out];rfl
          rw [e],trivial⟩
        case measure => simp [intOf];omega
    · obtain rfl:k = (d.groups.2 G).1:=by omega
      clear hlt hc9
      by_cases hd:d.shape 3 < (wipedN (d.groups.2 G).2 (d.groups.2 G).1:Int)
      · have HD:Hid (DeadP d G):=hd
        have dd:decide (d.shape 3 < (wipedN (d.groups.2 G).2 (d.groups.2 G).1:Int)) = true:=decide_eq_true hd;clear hd;go_wp2;go_ret;exact boolYes rfl HD.out (Below.refl _ _)
      · have HD:Hid (¬ DeadP d G):=hd
        have dd:decide (d.shape 3 < (wipedN (d.groups.2 G).2 (d.groups.2 G).1:Int)) = false:=decide_eq_false hd;clear hd;go_wp2;go_ret;exact boolNo rfl HD.out (Below.refl _ _)
end Go.Proofs.YtbjblbbbafiepaaGreat
namespace Go.Proofs.YtbjblbbbafiepaaGreat
def pickI (p:Nat → Bool) (n:Nat):List Nat:=(List.range n).filter p
theorem pick_succ (p:Nat → Bool) (n:Nat):pickI p (n + 1) = pickI p n ++ (if p n then [n] else []):=by
  unfold pickI;rw [List.range_succ,List.filter_append]
  cases h:p n <;> simp [h]
theorem pick_lt {p:Nat → Bool} {n i:Nat} (h:i ∈ pickI p n):i < n:=by
  unfold pickI at h;exact List.mem_range.1 (List.mem_filter.1 h).1
theorem pick_le (p:Nat → Bool) (n:Nat):(pickI p n).length ≤ n:=by
  have:=List.length_filter_le p (List.range n);unfold pickI
  simpa using this
def pickF (p:Nat → Bool) (n:Nat):Nat → Nat:=fun m => (pickI p n).getD m 0
theorem pickF_mem {p:Nat → Bool} {n m:Nat} (h:m < (pickI p n).length):pickF p n m ∈ pickI p n:=by
  unfold pickF;rw [List.getD_eq_getElem?_getD,List.getElem?_eq_getElem h];exact List.getElem_mem h
theorem pickF_lt {p:Nat → Bool} {n m:Nat} (h:m < (pickI p n).length):pickF p n m < n:=pick_lt (pickF_mem h)
theorem pickF_more {p:Nat → Bool} {n m:Nat} (h:m < (pickI p n).length):pickF p (n + 1) m = pickF p n m:=by
  unfold pickF;rw [pick_succ,List.getD_eq_getElem?_getD,List.getD_eq_getElem?_getD,List.getElem?_append_left h]
theorem pickF_last {p:Nat → Bool} {n:Nat} (h:p n = true):pickF p (n + 1) (pickI p n).length = n:=by
  unfold pickF;rw [pick_succ,List.getD_eq_getElem?_getD,List.getElem?_append_right (Nat.le_refl _),Nat.sub_self,if_pos h];rfl
theorem pick_skip {p:Nat → Bool} {n:Nat} (h:p n = false):pickI p (n + 1) = pickI p n:=by rw [pick_succ,if_neg (by simp [h])];simp
end Go.Proofs.YtbjblbbbafiepaaGreat
namespace Go.Proofs.YtbjblbbbafiepaaGreat
open Go.RowKit F256
structure RecsResultD where
  code:Int
  recs:Nat × (Nat → RecD)
structure BytesResultD where
  code:Int
  bytes:Nat × (Nat → Nat)
structure IntsResultD where
  code:Int
  list:Nat × (Nat → Int)
structure GroupsResultD where
  code:Int
  groups:Nat × (Nat → Int)
def layGroupsResult:Lay GroupsResultD:=(layI.two layInts).as fun d => (d.code,d.groups)
theorem GroupsResult_rd {w:World} {hi:Nat} {d:GroupsResultD} {cs:List Value} (h:layGroupsResult.rd w hi d cs):∃ ao1 cap1,cs = [.int .i64 d.code,.slice ao1 d.groups.1 cap1] ∧ layInts.rd w hi d.groups [.slice ao1 d.groups.1 cap1] ∧ (-9223372036854775808 ≤ d.code ∧ d.code ≤ 9223372036854775807):=by
  obtain ⟨c0,r0,rfl,h0,h1⟩:=h;obtain ⟨rfl,k0⟩:=h0;obtain ⟨ao1,cap1,rfl⟩:=ints_form h1;exact ⟨ao1,cap1,rfl,h1,k0⟩
theorem GroupsResult_own {w:World} {d:GroupsResultD} {cs:List Value} {L:List Nat} (h:layGroupsResult.own w d cs L):∃ ao1 cap1 K1,cs = [.int .i64 d.code,.slice ao1 d.groups.1 cap1] ∧ L = K1 ∧ layInts.own w d.groups [.slice ao1 d.groups.1 cap1] K1 ∧ (-9223372036854775808 ≤ d.code ∧ d.code ≤ 9223372036854775807):=by
  obtain ⟨c0,r0,L0,M0,rfl,rfl,h0,h1⟩:=h;obtain ⟨rfl,k0,rfl⟩:=h0;obtain ⟨ao1,cap1,rfl⟩:=ints_formO h1;exact ⟨ao1,cap1,_,rfl,rfl,h1,k0⟩
theorem GroupsResult_mk {w:World} (d:GroupsResultD) {ao1:Option Addr} {cap1:Nat} {K1:List Nat} (h1:layInts.own w d.groups [.slice ao1 d.groups.1 cap1] K1) (k0:(-9223372036854775808 ≤ d.code ∧ d.code ≤ 9223372036854775807)):layGroupsResult.own w d [.int .i64 d.code,.slice ao1 d.groups.1 cap1] (K1):=⟨_,_,[],K1,rfl,rfl,⟨rfl,k0,rfl⟩,h1⟩
def cvGroupsResultD (d:GroupsResultD):Nat:=lenD d.groups
def mkvGroupsResultD (j:Nat) (d:GroupsResultD):GroupsResultD:=⟨d.code,mkInts (j) d.groups⟩
end Go.Proofs.YtbjblbbbafiepaaGreat
namespace Go.Proofs.YtbjblbbbafiepaaGreat
open Go.RowKit F256
set_option maxHeartbeats 1000000 in
theorem index_any (v:Value) (n:Nat) (g:Nat → Int) (hi:Nat) (x:Int) (w:World) (r:RdI w hi v n g) :
    Calls Tryz.prog 135 #[v,.int .i64 x] w fun e w' => ∃ z:Int,e = .returned (.int .i64 z) ∧ (0 ≤ z ↔ ∃ t,t < n ∧ g t = x) ∧ w' = w:=by
  obtain ⟨ao,cap,rfl,hm,hc⟩:=r;unfold maxLen at hm
  go_enter Tryz.func135,Tryz.ntmps135
  go_wp2
  go_loop [8] (fun i => ∃ k:Nat,k ≤ n ∧ i = .int .i64 k ∧ ∀ i,i < k → g i ≠ x) (fun i => n - (intOf i).toNat)
  case atStart => exact ⟨0,Nat.zero_le _,rfl,fun i hi => by omega⟩
  case round =>
    obtain ⟨k,hk,rfl,hall⟩:=hrel;have HALL:Hid (∀ i,i < k → g i ≠ x):=hall;clear hall
    by_cases hlt:k < n
    · obtain ⟨b,off,rfl,hblt,hcell⟩:=hc (by omega)
      have hck:w.cell? ⟨b,off + k,none⟩ = some (.int .i64 (g k)):=hcell k hlt;obtain ⟨y,hy⟩:∃ y,y = g k:=⟨_,rfl⟩;have HY:Hid (y = g k):=hy;rw [← hy] at hck;clear hc hcell hy
      by_cases heq:x = y
      · have HP:Hid (0 ≤ (k:Int) ↔ ∃ t,t < n ∧ g t = x):=⟨fun _ => ⟨k,hlt,by rw [← HY.out,heq]⟩,fun _ => by omega⟩
        have te:(x == y) = true:=by simp [heq]
        clear heq;go_wp2;go_ret;exact ⟨_,rfl,HP.out,rfl⟩
      · have te:(x == y) = false:=by simp [heq]
        have HN:Hid (g k ≠ x):=by show g k ≠ x;rw [← HY.out];exact fun h => heq h.symm
        clear heq;go_wp2
        go_round
        case rel => exact ⟨k + 1,by omega,by go_num,fun i hi => by
                      by_cases c:i = k
                      · rw [c];exact HN.out
                      · exact HALL.out i (by omega)⟩
        case measure => simp [intOf];omega
    · obtain rfl:k = n:=by omega
      have HP:Hid (0 ≤ (-1:Int) ↔ ∃ t,t < k ∧ g t = x):=⟨fun h => by omega,fun ⟨t,ht,he⟩ => absurd he (HALL.out t ht)⟩;clear hc;go_wp2;go_ret;exact ⟨-1,rfl,HP.out,rfl⟩
theorem contains_any (v:Value) (n:Nat) (g:Nat → Int) (hi:Nat) (x:Int) (w:World) (r:RdI w hi v n g) :
    Calls Tryz.prog 121 #[v,.int .i64 x] w (BoolP (∃ t,t < n ∧ g t = x) w):=by
  have C:=index_any v n g hi x w r;obtain ⟨ao,cap,rfl,hm,hc⟩:=r;clear hc hm;have HI:Hid (Calls Tryz.prog 135 #[.slice ao n cap,.int .i64 x] w fun e w' => ∃ z:Int,e = .returned (.int .i64 z) ∧ (0 ≤ z ↔ ∃ t,t < n ∧ g t = x) ∧ w' = w):=C;clear C;obtain ⟨P,hP⟩:∃ P:Prop,P = ∃ t,t < n ∧ g t = x:=⟨_,rfl⟩;rw [← hP] at HI ⊢;clear hP
  go_enter Tryz.func121,Tryz.ntmps121
  go_wp2_with fail
  refine HI.out.mono ?_;rintro e w1 ⟨z,rfl,hz,hw1⟩;obtain rfl:=hw1.symm;have HZ:Hid (0 ≤ z ↔ P):=hz;clear hz HI
  by_cases h0:0 ≤ z
  · have HP:Hid P:=HZ.out.mp h0
    go_wp2;go_ret;exact boolYes rfl HP.out (Below.refl _ _)
  · have HP:Hid (¬ P):=fun h => h0 (HZ.out.mpr h)
    have td:decide (0 ≤ z) = false:=by simp;omega
    clear h0;go_wp2;go_ret;exact boolNo rfl HP.out (Below.refl _ _)
end Go.Proofs.YtbjblbbbafiepaaGreat
namespace Go.Proofs.YtbjblbbbafiepaaGreat
open Go.RowKit
theorem Box.allocd {w:World} {b:Nat} {cs:Array Value} {t:TypeId} (h:Box w b cs t) (o:Obj):Box (w.alloc o) b cs t:=(Below.heap_alloc w o b h.lt).trans h
end Go.Proofs.YtbjblbbbafiepaaGreat
namespace Go.Proofs.YtbjblbbbafiepaaGreat
open Go.RowKit F256
theorem nearest_any (x a b:Int) (w:World) :
    Calls Tryz.prog 119 #[.int .i64 x,.int .i64 a,.int .i64 b] w fun e w' => e = .returned (.int .i64 (max a (min x b))) ∧ w' = w:=by
  go_enter Tryz.func119,Tryz.ntmps119
  go_wp2;go_ret;exact ⟨rfl,rfl⟩
def nearZ (x a b:Int):Int:=max a (min x b)
theorem nearZ_iff (x a b:Int) (h:a ≤ b):x = nearZ x a b ↔ a ≤ x ∧ x ≤ b:=by
  unfold nearZ;omega
theorem nearest_z (x a b:Int) (w:World) :
    Calls Tryz.prog 119 #[.int .i64 x,.int .i64 a,.int .i64 b] w fun e w' => e = .returned (.int .i64 (nearZ x a b)) ∧ w' = w:=nearest_any x a b w
set_option maxRecDepth 20000 in
set_option maxHeartbeats 8000000 in
theorem nearestShape_any (a0 a1 a2 a3 a4 a5 a6 a7 a8:Int) (w:World) :
    Calls Tryz.prog 97 #[.agg #[.int .i64 a0,.int .i64 a1,.int .i64 a2,.int .i64 a3,.int .i64 a4,.int .i64 a5,.int .i64 a6,.int .i64 a7,.int .i64 a8]] w fun e w' => e = .returned (.agg #[.int .i64 (nearZ a0 1 4),.int .i64 (nearZ a1 0 2),.int .i64 (nearZ a2 1 3),.int .i64 (nearZ a3 0 2),.int .i64 (nearZ a4 1 6),.int .i64 (nearZ a5 1 6),.int .i64 (nearZ a6 1 4),.int .i64 (nearZ a7 1 6),.int .i64 (nearZ a8 0 400)]) ∧ Below w.heap.size w w':=by
  go_enter Tryz.func97,Tryz.ntmps97
  go_wp2_with fail
  have XA:=(box_new w #[.int .i64 a0,.int .i64 a1,.int .i64 a2,.int .i64 a3,.int .i64 a4,.int .i64 a5,.int .i64 a6,.int .i64 a7,.int .i64 a8] 33).allocd (.cells #[.int .i64 0,.int .i64 0,.int .i64 0,.int .i64 0,.int .i64 0,.int .i64 0,.int .i64 0,.int .i64 0,.int .i64 0] 33);have XZ:=box_new (w.alloc (.cells #[.int .i64 a0,.int .i64 a1,.int .i64 a2,.int .i64 a3,.int .i64 a4,.int .i64 a5,.int .i64 a6,.int .i64 a7,.int .i64 a8] 33)) #[.int .i64 0,.int .i64 0,.int .i64 0,.int .i64 0,.int .i64 0,.int .i64 0,.int .i64 0,.int .i64 0,.int .i64 0] 33
  have hz:(w.alloc (.cells #[.int .i64 a0,.int .i64 a1,.int .i64 a2,.int .i64 a3,.int .i64 a4,.int .i64 a5,.int .i64 a6,.int .i64 a7,.int .i64 a8] 33)).heap.size = w.heap.size + 1:=by simp
  rw [hz] at XZ;have BA:Below w.heap.size w ((w.alloc (.cells #[.int .i64 a0,.int .i64 a1,.int .i64 a2,.int .i64 a3,.int .i64 a4,.int .i64 a5,.int .i64 a6,.int .i64 a7,.int .i64 a8] 33)).alloc (.cells #[.int .i64 0,.int .i64 0,.int .i64 0,.int .i64 0,.int .i64 0,.int .i64 0,.int .i64 0,.int .i64 0,.int .i64 0] 33)):=((Below.refl _ _).alloc (Nat.le_refl _) _).alloc (by simp) _;obtain ⟨wA,hwA⟩:∃ x,x = (w.alloc (.cells #[.int .i64 a0,.int .i64 a1,.int .i64 a2,.int .i64 a3,.int .i64 a4,.int .i64 a5,.int .i64 a6,.int .i64 a7,.int .i64 a8] 33)).alloc (.cells #[.int .i64 0,.int .i64 0,.int .i64 0,.int .i64 0,.int .i64 0,.int .i64 0,.int .i64 0,.int .i64 0,.int .i64 0] 33):=⟨_,rfl⟩;rw [← hwA] at XA XZ BA ⊢;clear hwA hz;refine wp_region_still_tail 28 (by kernel_rfl) (by kernel_rfl) ?_;have XA':Box { wA with drawn:=wA.drawn + 1 } w.heap.size #[.int .i64 a0,.int .i64 a1,.int .i64 a2,.int .i64 a3,.int .i64 a4,.int .i64 a5,.int .i64 a6,.int .i64 a7,.int .i64 a8] 33:=XA;have XZ':Box { wA with drawn:=wA.drawn + 1 } (w.heap.size + 1) #[.int .i64 0,.int .i64 0,.int .i64 0,.int .i64 0,.int .i64 0,.int .i64 0,.int .i64 0,.int .i64 0,.int .i64 0] 33:=XZ;have BA':Below w.heap.size w { wA with drawn:=wA.drawn + 1 }:=⟨BA.os,BA.tape,BA.output,BA.size,BA.block⟩;obtain ⟨wB,hwB⟩:∃ x:World,x = { wA with drawn:=wA.drawn + 1 }:=⟨_,rfl⟩;rw [← hwB] at XA' XZ' BA' ⊢;clear XA XZ BA hwB;obtain ⟨x0,x1,x2,x3,x4,x5,x6,x7,x8⟩:=box9 XA';obtain ⟨y0,y1,y2,y3,y4,y5,y6,y7,y8⟩:=box9 XZ'
  simp only [List.take_succ_cons,List.take_zero,List.drop_succ_cons,List.drop_zero]
  still_step
  still_step
  still_call (nearest_z _ _ _ _)
  still_step
  still_step
  still_call (nearest_z _ _ _ _)
  still_step
  still_step
  still_call (nearest_z _ _ _ _)
  still_step
  still_step
  still_call (nearest_z _ _ _ _)
  still_step
  still_step
  still_call (nearest_z _ _ _ _)
  still_step
  still_step
  still_call (nearest_z _ _ _ _)
  still_step
  still_step
  still_call (nearest_z _ _ _ _)
  still_step
  still_step
  still_call (nearest_z _ _ _ _)
  still_step
  still_step
  still_call (nearest_z _ _ _ _)
  still_step
  refine wpStill_nil ?_;have z0:wB.frozen? ⟨w.heap.size + 1,0,none⟩ = false:=XZ'.frozen 0;have z1:wB.frozen? ⟨w.heap.size + 1,1,none⟩ = false:=XZ'.frozen 1;have z2:wB.frozen? ⟨w.heap.size + 1,2,none⟩ = false:=XZ'.frozen 2;have z3:wB.frozen? ⟨w.heap.size + 1,3,none⟩ = false:=XZ'.frozen 3;have z4:wB.frozen? ⟨w.heap.size + 1,4,none⟩ = false:=XZ'.frozen 4;have z5:wB.frozen? ⟨w.heap.size + 1,5,none⟩ = false:=XZ'.frozen 5;have z6:wB.frozen? ⟨w.heap.size + 1,6,none⟩ = false:=XZ'.frozen 6;have z7:wB.frozen? ⟨w.heap.size + 1,7,none⟩ = false:=XZ'.frozen 7;have z8:wB.frozen? ⟨w.heap.size + 1,8,none⟩ = false:=XZ'.frozen 8;go_wp2;refine bodyPost_ret (v:=.agg #[.int .i64 (nearZ a0 1 4),.int .i64 (nearZ a1 0 2),.int .i64 (nearZ a2 1 3),.int .i64 (nearZ a3 0 2),.int .i64 (nearZ a4 1 6),.int .i64 (nearZ a5 1 6),.int .i64 (nearZ a6 1 4),.int .i64 (nearZ a7 1 6),.int .i64 (nearZ a8 0 400)]) (by simp [results,Tryz.results97,go_sem,y0,y1,y2,y3,y4,y5,y6,y7,y8]) rfl ⟨rfl,?_⟩;exact (((((((((BA'.setCell (Nat.le_succ _) _).setCell (Nat.le_succ _) _).setCell (Nat.le_succ _) _).setCell (Nat.le_succ _) _).setCell (Nat.le_succ _) _).setCell (Nat.le_succ _) _).setCell (Nat.le_succ _) _).setCell (Nat.le_succ _) _).setCell (Nat.le_succ _) _)
end Go.Proofs.YtbjblbbbafiepaaGreat
namespace Go.Proofs.YtbjblbbbafiepaaGreat
open Go.RowKit F256
theorem shape_eq_yes (a0 a1 a2 a3 a4 a5 a6 a7 a8:Int) (w:World):(Op.equalIn 10000 33 (.agg #[.int .i64 a0,.int .i64 a1,.int .i64 a2,.int .i64 a3,.int .i64 a4,.int .i64 a5,.int .i64 a6,.int .i64 a7,.int .i64 a8]) (.agg #[.int .i64 a0,.int .i64 a1,.int .i64 a2,.int .i64 a3,.int .i64 a4,.int .i64 a5,.int .i64 a6,.int .i64 a7,.int .i64 a8])).run Tryz.prog w = .ok true w:=by
  have u3:=Tryz.underlying2;rw [show (10000:Nat) = 9999 + 1 from rfl,run_equalIn_agg w 9999 33 _ _ (by kernel_rfl) (by kernel_rfl)]
  simp only [Program.fieldsOf,Tryz.underlying33]
  go_simp
theorem shape_eq_no (a0 a1 a2 a3 a4 a5 a6 a7 a8 b0 b1 b2 b3 b4 b5 b6 b7 b8:Int) (h:¬ (a0 = b0 ∧ a1 = b1 ∧ a2 = b2 ∧ a3 = b3 ∧ a4 = b4 ∧ a5 = b5 ∧ a6 = b6 ∧ a7 = b7 ∧ a8 = b8)) (w:World):(Op.equalIn 10000 33 (.agg #[.int .i64 a0,.int .i64 a1,.int .i64 a2,.int .i64 a3,.int .i64 a4,.int .i64 a5,.int .i64 a6,.int .i64 a7,.int .i64 a8]) (.agg #[.int .i64 b0,.int .i64 b1,.int .i64 b2,.int .i64 b3,.int .i64 b4,.int .i64 b5,.int .i64 b6,.int .i64 b7,.int .i64 b8])).run Tryz.prog w = .ok false w:=by
  have u3:=Tryz.underlying2;rw [show (10000:Nat) = 9999 + 1 from rfl,run_equalIn_agg w 9999 33 _ _ (by kernel_rfl) (by kernel_rfl)]
  simp only [Program.fieldsOf,Tryz.underlying33]
  have H:Hid (¬ (a0 = b0 ∧ a1 = b1 ∧ a2 = b2 ∧ a3 = b3 ∧ a4 = b4 ∧ a5 = b5 ∧ a6 = b6 ∧ a7 = b7 ∧ a8 = b8)):=h;clear h;go_simp;exact fun h0 h1 h2 h3 h4 h5 h6 h7 h8 => H.out ⟨h0,h1,h2,h3,h4,h5,h6,h7,h8⟩
theorem ok_near (s:Nat → Int):OkShape s ↔ s 0 = nearZ (s 0) 1 4 ∧ s 1 = nearZ (s 1) 0 2 ∧ s 2 = nearZ (s 2) 1 3 ∧ s 3 = nearZ (s 3) 0 2 ∧ s 4 = nearZ (s 4) 1 6 ∧ s 5 = nearZ (s 5) 1 6 ∧ s 6 = nearZ (s 6) 1 4 ∧ s 7 = nearZ (s 7) 1 6 ∧ s 8 = nearZ (s 8) 0 400:=by
  unfold OkShape Shp3 Shp;rw [nearZ_iff (s 0) 1 4 (by omega),nearZ_iff (s 1) 0 2 (by omega),nearZ_iff (s 2) 1 3 (by omega),nearZ_iff (s 3) 0 2 (by omega),nearZ_iff (s 4) 1 6 (by omega),nearZ_iff (s 5) 1 6 (by omega),nearZ_iff (s 6) 1 4 (by omega),nearZ_iff (s 7) 1 6 (by omega),nearZ_iff (s 8) 0 400 (by omega)];omega
set_option maxHeartbeats 4000000 in
theorem implShape_any (s:Nat → Int) (w:World) :
    Calls Tryz.prog 62 #[shapeV s] w fun e w' => ∃ x,e = .returned (.int .i64 x) ∧ ShFAns s x ∧ Below w.heap.size w w':=by
  have HK:Hid (OkShape s ↔ s 0 = nearZ (s 0) 1 4 ∧ s 1 = nearZ (s 1) 0 2 ∧ s 2 = nearZ (s 2) 1 3 ∧ s 3 = nearZ (s 3) 0 2 ∧ s 4 = nearZ (s 4) 1 6 ∧ s 5 = nearZ (s 5) 1 6 ∧ s 6 = nearZ (s 6) 1 4 ∧ s 7 = nearZ (s 7) 1 6 ∧ s 8 = nearZ (s 8) 0 400):=ok_near s;unfold shapeV;obtain ⟨a0,h0⟩:∃ a,a = s 0:=⟨_,rfl⟩;obtain ⟨a1,h1⟩:∃ a,a = s 1:=⟨_,rfl⟩;obtain ⟨a2,h2⟩:∃ a,a = s 2:=⟨_,rfl⟩;obtain ⟨a3,h3⟩:∃ a,a = s 3:=⟨_,rfl⟩;obtain ⟨a4,h4⟩:∃ a,a = s 4:=⟨_,rfl⟩;obtain ⟨a5,h5⟩:∃ a,a = s 5:=⟨_,rfl⟩;obtain ⟨a6,h6⟩:∃ a,a = s 6:=⟨_,rfl⟩;obtain ⟨a7,h7⟩:∃ a,a = s 7:=⟨_,rfl⟩;obtain ⟨a8,h8⟩:∃ a,a = s 8:=⟨_,rfl⟩;rw [← h0,← h1,← h2,← h3,← h4,← h5,← h6,← h7,← h8]
  have HK2:Hid (OkShape s ↔ a0 = nearZ a0 1 4 ∧ a1 = nearZ a1 0 2 ∧ a2 = nearZ a2 1 3 ∧ a3 = nearZ a3 0 2 ∧ a4 = nearZ a4 1 6 ∧ a5 = nearZ a5 1 6 ∧ a6 = nearZ a6 1 4 ∧ a7 = nearZ a7 1 6 ∧ a8 = nearZ a8 0 400):=by
    show OkShape s ↔ _
    rw [h0,h1,h2,h3,h4,h5,h6,h7,h8];exact HK.out
  clear HK h0 h1 h2 h3 h4 h5 h6 h7 h8;have CN:=nearestShape_any a0 a1 a2 a3 a4 a5 a6 a7 a8;have XA:=box_new w #[.int .i64 a0,.int .i64 a1,.int .i64 a2,.int .i64 a3,.int .i64 a4,.int .i64 a5,.int .i64 a6,.int .i64 a7,.int .i64 a8] 33;obtain ⟨x0,x1,x2,x3,x4,x5,x6,x7,x8⟩:=box9 XA;have HX:Hid (Box (w.alloc (.cells #[.int .i64 a0,.int .i64 a1,.int .i64 a2,.int .i64 a3,.int .i64 a4,.int .i64 a5,.int .i64 a6,.int .i64 a7,.int .i64 a8] 33)) w.heap.size #[.int .i64 a0,.int .i64 a1,.int .i64 a2,.int .i64 a3,.int .i64 a4,.int .i64 a5,.int .i64 a6,.int .i64 a7,.int .i64 a8] 33):=XA;have HB:Hid (Below w.heap.size w (w.alloc (.cells #[.int .i64 a0,.int .i64 a1,.int .i64 a2,.int .i64 a3,.int .i64 a4,.int .i64 a5,.int .i64 a6,.int .i64 a7,.int .i64 a8] 33))):=bnew (Below.refl _ _);obtain ⟨wA,hwA⟩:∃ x,x = w.alloc (.cells #[.int .i64 a0,.int .i64 a1,.int .i64 a2,.int .i64 a3,.int .i64 a4,.int .i64 a5,.int .i64 a6,.int .i64 a7,.int .i64 a8] 33):=⟨_,rfl⟩;rw [← hwA] at x0 x1 x2 x3 x4 x5 x6 x7 x8 HX HB;clear XA
  by_cases ok:OkShape s
  · have HO:Hid (OkShape s):=ok
    obtain ⟨e0,e1,e2,e3,e4,e5,e6,e7,e8⟩:=HK2.out.mp ok;rw [← e0,← e1,← e2,← e3,← e4,← e5,← e6,← e7,← e8] at CN;have heq:=shape_eq_yes a0 a1 a2 a3 a4 a5 a6 a7 a8;clear e0 e1 e2 e3 e4 e5 e6 e7 e8 ok
    go_enter Tryz.func62,Tryz.ntmps62
    go_wp2_with fail
    rw [← hwA];clear hwA
    go_region_with (go_at_call 97;refine (CN _).mono ?_;rintro ee w2 ⟨rfl,hb2⟩;have hB2:Below wA.heap.size wA w2:=⟨hb2.os,hb2.tape,hb2.output,hb2.size,hb2.block⟩;obtain ⟨y0,y1,y2,y3,y4,y5,y6,y7,y8⟩:=box9 (HX.out.below hB2 HX.out.lt))
    all_goals
      go_wp2;go_ret;exact ⟨0,rfl,.inr ⟨rfl,HO.out⟩,HB.out.trans (hB2.mono HB.out.size)⟩
  · have HO:Hid (¬ OkShape s):=ok
    have hno:¬ (a0 = nearZ a0 1 4 ∧ a1 = nearZ a1 0 2 ∧ a2 = nearZ a2 1 3 ∧ a3 = nearZ a3 0 2 ∧ a4 = nearZ a4 1 6 ∧ a5 = nearZ a5 1 6 ∧ a6 = nearZ a6 1 4 ∧ a7 = nearZ a7 1 6 ∧ a8 = nearZ a8 0 400):=fun h => ok (HK2.out.mpr h);have heq:=shape_eq_no a0 a1 a2 a3 a4 a5 a6 a7 a8 (nearZ a0 1 4) (nearZ a1 0 2) (nearZ a2 1 3) (nearZ a3 0 2) (nearZ a4 1 6) (nearZ a5 1 6) (nearZ a6 1 4) (nearZ a7 1 6) (nearZ a8 0 400) hno;clear hno ok
    go_enter Tryz.func62,Tryz.ntmps62
    go_wp2_with fail
    rw [← hwA];clear hwA
    go_region_with (go_at_call 97;refine (CN _).mono ?_;rintro ee w2 ⟨rfl,hb2⟩;have hB2:Below wA.heap.size wA w2:=⟨hb2.os,hb2.tape,hb2.output,hb2.size,hb2.block⟩;obtain ⟨y0,y1,y2,y3,y4,y5,y6,y7,y8⟩:=box9 (HX.out.below hB2 HX.out.lt))
    all_goals
      go_wp2;go_ret;exact ⟨3,rfl,.inl ⟨rfl,HO.out⟩,HB.out.trans (hB2.mono HB.out.size)⟩
end Go.Proofs.YtbjblbbbafiepaaGreat
namespace Go.Proofs.YtbjblbbbafiepaaGreat
open Go.RowKit F256
set_option maxHeartbeats 4000000 in
theorem rowLength_any (s:Nat → Int) (h1:1 ≤ s 2) (h2:s 2 ≤ 1000) (w:World) :
    Calls Tryz.prog 151 #[shapeV s] w fun e w' => e = .returned (.int .i64 (s 2 * 4)) ∧ Below w.heap.size w w':=by
  unfold shapeV;obtain ⟨a2,h0⟩:∃ a,a = s 2:=⟨_,rfl⟩;rw [← h0] at h1 h2 ⊢;clear h0;have B0:Below w.heap.size w (w.alloc (.cells #[.int .i64 (s 0),.int .i64 (s 1),.int .i64 a2,.int .i64 (s 3),.int .i64 (s 4),.int .i64 (s 5),.int .i64 (s 6),.int .i64 (s 7),.int .i64 (s 8)] 33)):=bnew (Below.refl _ _)
  go_enter Tryz.func151,Tryz.ntmps151
  go_wp2;go_ret;exact ⟨rfl,B0⟩
set_option maxHeartbeats 4000000 in
theorem implParts_any (s:Nat → Int) (l:Int) (w:World) :
    Calls Tryz.prog 150 #[shapeV s,.int .i64 l] w fun e w' => ∃ x c,e = .returned (intR c x) ∧ PfAns s l x c ∧ Below w.heap.size w w':=by
  unfold shapeV
  go_enter Tryz.func150,Tryz.ntmps150
  go_wp2_with fail
  refine (implShape_any s _).mono ?_;rintro e w1 ⟨x,rfl,hx,B1'⟩;obtain ⟨X1,X2,B1,z1⟩:=two_new B1';obtain ⟨x0,x1,x2,x3,x4,x5,x6,x7,x8⟩:=box9 X1;obtain ⟨y0,y1,y2,y3⟩:=res_cells X2;have HX:Hid (Box w1 (w.heap.size + 1) #[.int .i64 0,.int .i64 0] 45):=X2;have HX1:Hid (Box w1 w.heap.size #[.int .i64 (s 0),.int .i64 (s 1),.int .i64 (s 2),.int .i64 (s 3),.int .i64 (s 4),.int .i64 (s 5),.int .i64 (s 6),.int .i64 (s 7),.int .i64 (s 8)] 33):=X1;clear B1' X1 X2
  rcases hx with ⟨rfl,hx⟩ | ⟨rfl,hx⟩
  · have HN:Hid (¬ OkShape s):=hx
    clear hx;go_wp2;exact bodyPost_ret (v:=intR 3 0) (by simp [results,Tryz.results150,go_sem,intR,y0,y1]) rfl ⟨0,3,rfl,.inl ⟨HN.out,rfl,rfl⟩,(B1.setCell (Nat.le_succ _) _).setCell (Nat.le_succ _) _⟩
  · have HO:Hid (OkShape s):=hx
    have HD:Hid (1 ≤ s 2 ∧ s 2 ≤ 1000):=by show 1 ≤ s 2 ∧ s 2 ≤ 1000;have:=hx.2.1;unfold Shp at this;omega
    clear hx;have CL:=rowLength_any s HD.out.1 HD.out.2;unfold shapeV at CL;have HM:Hid (∀ m,m = (l + s 2 * 4 - 1) / (s 2 * 4) → 1 ≤ l → l ≤ 3 * (s 2 * 4) → PfAns s l m 0):=fun m hm h1 h2 => .inr (.inr (.inr ⟨HO.out,h1,h2,rfl,hm⟩));have HM2:Hid (1 ≤ l → 3 * (s 2 * 4) < l → PfAns s l 0 2):=fun h1 h2 => .inr (.inr (.inl ⟨HO.out,h1,h2,rfl,rfl⟩));obtain ⟨S,hS⟩:∃ S,S = s 2 * 4:=⟨_,rfl⟩;rw [← hS] at CL HM HM2
    have q1:4 ≤ S:=by have:=HD.out.1;omega
    have q2:S ≤ 4000:=by have:=HD.out.2;omega
    clear hS
    by_cases c1:l < 1
    · go_wp2
      exact bodyPost_ret (v:=intR 6 0) (by simp [results,Tryz.results150,go_sem,intR,y0,y1]) rfl ⟨0,6,rfl,.inr (.inl ⟨HO.out,c1,rfl,rfl⟩),(B1.setCell (Nat.le_succ _) _).setCell (Nat.le_succ _) _⟩
    · go_wp2_with fail
      refine (CL _).mono ?_;rintro e w2 ⟨rfl,B2⟩;have z2:=B2.size;have B12:Below w.heap.size w w2:=B1.trans (B2.mono B1.size);have HX2:Hid (Box w2 (w.heap.size + 1) #[.int .i64 0,.int .i64 0] 45):=HX.out.below B2 z1;have HY2:Hid (Box w2 w.heap.size #[.int .i64 (s 0),.int .i64 (s 1),.int .i64 (s 2),.int .i64 (s 3),.int .i64 (s 4),.int .i64 (s 5),.int .i64 (s 6),.int .i64 (s 7),.int .i64 (s 8)] 33):=HX1.out.below B2 (by omega);clear x0 x1 x2 x3 x4 x5 x6 x7 x8 y0 y1 y2 y3 B2 HX HX1;obtain ⟨y0,y1,y2,y3⟩:=res_cells HX2.out;obtain ⟨x0,x1,x2,x3,x4,x5,x6,x7,x8⟩:=box9 HY2.out
      by_cases c2:3 * S < l
      · have t2:decide (3 * S < l) = true:=by simp;omega
        go_wp2;exact bodyPost_ret (v:=intR 2 0) (by simp [results,Tryz.results150,go_sem,intR,y0,y1]) rfl ⟨0,2,rfl,HM2.out (by omega) c2,(B12.setCell (Nat.le_succ _) _).setCell (Nat.le_succ _) _⟩
      · have t2:decide (3 * S < l) = false:=by simp;omega
        have q3:0 ≤ l + S - 1:=by omega
        go_wp2_with fail
        have K0:Hid (Below w2.heap.size w2 w2):=Below.refl _ _
        go_region_with (go_at_call 151;refine (CL _).mono ?_;rintro ee w3 ⟨rfl,hb3⟩;(first | (have hB2:Below w2.heap.size w2 w3:=hB.trans ((⟨hb3.os,hb3.tape,hb3.output,hb3.size,hb3.block⟩:Below _ _ _).mono hB.size);clear hb3;obtain ⟨v0,v1,v2,v3⟩:=res_cells (HX2.out.below hB2 (by omega));obtain ⟨u0,u1,u2,u3,u4,u5,u6,u7,u8⟩:=box9 (HY2.out.below hB2 (by omega))) | (have hB:Below w2.heap.size w2 w3:=⟨hb3.os,hb3.tape,hb3.output,hb3.size,hb3.block⟩;clear hb3;obtain ⟨u0,u1,u2,u3,u4,u5,u6,u7,u8⟩:=box9 (HY2.out.below hB (by omega)))))
        all_goals
          have B4:Below w.heap.size w w3:=B12.trans (hB2.mono B12.size);go_wp2;exact bodyPost_ret (v:=intR 0 ((l + S - 1) / S)) (by simp [results,Tryz.results150,go_sem,intR,v0,v1]) rfl ⟨(l + S - 1) / S,0,rfl,HM.out _ rfl (by omega) (by omega),(B4.setCell (Nat.le_succ _) _).setCell (Nat.le_succ _) _⟩
end Go.Proofs.YtbjblbbbafiepaaGreat
namespace Go.Proofs.YtbjblbbbafiepaaGreat
open Go.RowKit F256
theorem inBounds_b {x a b:Int} {t:Bool} (hab:a ≤ b) (ht:t = true ↔ InP x a b) (w:World) :
    Calls Tryz.prog 69 #[.int .i64 x,.int .i64 a,.int .i64 b] w fun e w' => e = .returned (.bool t) ∧ w' = w:=by
  by_cases h1:a ≤ x
  · by_cases h2:x ≤ b
    · obtain rfl:t = true:=ht.2 ⟨h1,h2⟩
      clear ht hab
      go_enter Tryz.func69,Tryz.ntmps69
      go_wp2;go_ret;exact ⟨rfl,rfl⟩
    · obtain rfl:t = false:=by
        cases t with
        | false => rfl
        | true => exact absurd (ht.1 rfl).2 h2
      clear ht hab;have hd:decide (x ≤ b) = false:=decide_eq_false h2
      go_enter Tryz.func69,Tryz.ntmps69
      go_wp2;go_ret;exact ⟨rfl,rfl⟩
  · obtain rfl:t = false:=by
      cases t with
      | false => rfl
      | true => exact absurd (ht.1 rfl).1 h1
    clear ht hab;have hd:decide (a ≤ x) = false:=decide_eq_false h1
    go_enter Tryz.func69,Tryz.ntmps69
    go_wp2;go_ret;exact ⟨rfl,rfl⟩
theorem groupCount_any (s:Nat → Int) (h:OkShape s) (w:World) :
    Calls Tryz.prog 34 #[shapeV s] w fun e w' => e = .returned (.int .i64 (s 0 + s 1)) ∧ Below w.heap.size w w':=by
  obtain ⟨h1,h2,_⟩:=h;unfold Shp3 at h1;have B0:=(one_new w #[.int .i64 (s 0),.int .i64 (s 1),.int .i64 (s 2),.int .i64 (s 3),.int .i64 (s 4),.int .i64 (s 5),.int .i64 (s 6),.int .i64 (s 7),.int .i64 (s 8)] 33).bel;unfold shapeV
  have hw:-9223372036854775808 ≤ s 0 + s 1 ∧ s 0 + s 1 ≤ 9223372036854775807:=by omega
  go_enter Tryz.func34,Tryz.ntmps34
  go_wp2;go_ret;exact ⟨rfl,B0⟩
theorem driveCount_any (s:Nat → Int) (h:OkShape s) (w:World) :
    Calls Tryz.prog 82 #[shapeV s] w fun e w' => e = .returned (.int .i64 (s 2 + s 3)) ∧ Below w.heap.size w w':=by
  obtain ⟨h1,h2,_⟩:=h;unfold Shp at h2;have B0:=(one_new w #[.int .i64 (s 0),.int .i64 (s 1),.int .i64 (s 2),.int .i64 (s 3),.int .i64 (s 4),.int .i64 (s 5),.int .i64 (s 6),.int .i64 (s 7),.int .i64 (s 8)] 33).bel;unfold shapeV
  have hw:-9223372036854775808 ≤ s 2 + s 3 ∧ s 2 + s 3 ≤ 9223372036854775807:=by omega
  go_enter Tryz.func82,Tryz.ntmps82
  go_wp2;go_ret;exact ⟨rfl,B0⟩
theorem okB {s:Nat → Int} (h:OkShape s):1 ≤ s 0 ∧ s 0 ≤ 4 ∧ 0 ≤ s 1 ∧ s 1 ≤ 2 ∧ 1 ≤ s 2 ∧ s 2 ≤ 3 ∧ 0 ≤ s 3 ∧ s 3 ≤ 2 ∧ 1 ≤ s 4 ∧ s 4 ≤ 6 ∧ 1 ≤ s 5 ∧ s 5 ≤ 6:=by
  obtain ⟨h1,h2,h3,h4,_⟩:=h;unfold Shp3 at h1;unfold Shp at h2;omega
theorem isGroup_b {s:Nat → Int} (h:OkShape s) {x:Int} {t:Bool} (ht:t = true ↔ InP x 0 (s 0 + s 1 - 1)) (w:World) :
    Calls Tryz.prog 106 #[shapeV s,.int .i64 x] w fun e w' => e = .returned (.bool t) ∧ Below w.heap.size w w':=by
  have hb:=okB h;have C:=groupCount_any s h;have CB:=fun w' => inBounds_b (w:=w') (show 0 ≤ s 0 + s 1 - 1 by omega) ht;have T0:=one_new w #[.int .i64 (s 0),.int .i64 (s 1),.int .i64 (s 2),.int .i64 (s 3),.int .i64 (s 4),.int .i64 (s 5),.int .i64 (s 6),.int .i64 (s 7),.int .i64 (s 8)] 33;unfold shapeV at C ⊢;clear ht h
  go_enter Tryz.func106,Tryz.ntmps106
  go_wp2_with fail
  refine (C _).mono ?_;rintro e w1 ⟨rfl,b1⟩;have HB:Hid (Below w.heap.size w w1):=(T0.call b1).bel;clear b1 T0 C
  go_wp2_with fail
  refine (CB _).mono ?_;rintro e w2 ⟨rfl,hw2⟩;obtain rfl:=hw2.symm;go_wp2;go_ret;exact ⟨rfl,HB.out⟩
theorem isDataGroup_b {s:Nat → Int} (h:OkShape s) {x:Int} {t:Bool} (ht:t = true ↔ InP x 0 (s 0 - 1)) (w:World) :
    Calls Tryz.prog 139 #[shapeV s,.int .i64 x] w fun e w' => e = .returned (.bool t) ∧ Below w.heap.size w w':=by
  have hb:=okB h;have CB:=fun w' => inBounds_b (w:=w') (show 0 ≤ s 0 - 1 by omega) ht;have HB:Hid (Below w.heap.size w (w.alloc (.cells #[.int .i64 (s 0),.int .i64 (s 1),.int .i64 (s 2),.int .i64 (s 3),.int .i64 (s 4),.int .i64 (s 5),.int .i64 (s 6),.int .i64 (s 7),.int .i64 (s 8)] 33))):=(one_new w #[.int .i64 (s 0),.int .i64 (s 1),.int .i64 (s 2),.int .i64 (s 3),.int .i64 (s 4),.int .i64 (s 5),.int .i64 (s 6),.int .i64 (s 7),.int .i64 (s 8)] 33).bel;unfold shapeV;clear ht h
  go_enter Tryz.func139,Tryz.ntmps139
  go_wp2_with fail
  refine (CB _).mono ?_;rintro e w2 ⟨rfl,hw2⟩;obtain rfl:=hw2.symm;go_wp2;go_ret;exact ⟨rfl,HB.out⟩
theorem isRow_b {s:Nat → Int} (h:OkShape s) {x:Int} {t:Bool} (ht:t = true ↔ InP x 0 (s 4 - 1)) (w:World) :
    Calls Tryz.prog 79 #[shapeV s,.int .i64 x] w fun e w' => e = .returned (.bool t) ∧ Below w.heap.size w w':=by
  have hb:=okB h;have CB:=fun w' => inBounds_b (w:=w') (show 0 ≤ s 4 - 1 by omega) ht;have HB:Hid (Below w.heap.size w (w.alloc (.cells #[.int .i64 (s 0),.int .i64 (s 1),.int .i64 (s 2),.int .i64 (s 3),.int .i64 (s 4),.int .i64 (s 5),.int .i64 (s 6),.int .i64 (s 7),.int .i64 (s 8)] 33))):=(one_new w #[.int .i64 (s 0),.int .i64 (s 1),.int .i64 (s 2),.int .i64 (s 3),.int .i64 (s 4),.int .i64 (s 5),.int .i64 (s 6),.int .i64 (s 7),.int .i64 (s 8)] 33).bel;unfold shapeV;clear ht h
  go_enter Tryz.func79,Tryz.ntmps79
  go_wp2_with fail
  refine (CB _).mono ?_;rintro e w2 ⟨rfl,hw2⟩;obtain rfl:=hw2.symm;go_wp2;go_ret;exact ⟨rfl,HB.out⟩
theorem rowLong_b {s:Nat → Int} (h:OkShape s) {ao:Option Addr} {n cap:Nat} (hn:n ≤ 9223372036854775807) {t:Bool} (ht:((n:Int) == s 2 * 4) = t) (w:World) :
    Calls Tryz.prog 140 #[shapeV s,.slice ao n cap] w fun e w' => e = .returned (.bool t) ∧ Below w.heap.size w w':=by
  have hb:=okB h;have C:=fun w' => rowLength_any s (by omega) (by omega) w';have T0:=one_new w #[.int .i64 (s 0),.int .i64 (s 1),.int .i64 (s 2),.int .i64 (s 3),.int .i64 (s 4),.int .i64 (s 5),.int .i64 (s 6),.int .i64 (s 7),.int .i64 (s 8)] 33;unfold shapeV at C ⊢;clear h
  go_enter Tryz.func140,Tryz.ntmps140
  go_wp2_with fail
  refine (C _).mono ?_;rintro e w1 ⟨rfl,b1⟩;have HB:Hid (Below w.heap.size w w1):=(T0.call b1).bel;clear b1 T0 C;go_wp2;go_ret;exact ⟨by simp [ht],HB.out⟩
set_option maxHeartbeats 4000000 in
theorem differWithin_any (v:Value) (n:Nat) (g:Nat → Int) (hi:Nat) (bound:Int) (hb1:1 ≤ bound) (hb2:bound ≤ 1000000) (w:World) (r:RdI w hi v n g) (hcp:CapP v n) (hhi:hi ≤ w.heap.size) :
    Calls Tryz.prog 99 #[v,.int .i64 bound] w (BoolP (ApartP n g (bound - 1)) w):=by
  have HR:Hid (RdI w hi v n g):=r;obtain ⟨ao,cap,rfl,hm,hc⟩:=r;obtain ⟨_,_,e,hcp⟩:=hcp
  cases e
  unfold maxLen at hm
  go_enter Tryz.func99,Tryz.ntmps99
  go_wp2
  go_loopw [9] (fun i wr => ∃ k:Nat,k ≤ n ∧ i = .int .i64 k ∧ ApartP k g (bound - 1) ∧ Below w.heap.size w wr) (fun i _ => n - (intOf i).toNat)
  case atStart => exact ⟨0,Nat.zero_le _,rfl,fun i hi => by omega,Below.refl _ _⟩
  case round =>
    obtain ⟨k,hk,rfl,hall,hb⟩:=hrel;have HALL:Hid (ApartP k g (bound - 1)):=hall;clear hall
    by_cases hlt:k < n
    · obtain ⟨b,off,rfl,hblt,hcell⟩:=hc (by omega)
      have hck:wr.cell? ⟨b,off + k,none⟩ = some (.int .i64 (g k)):=(hb.cell (p:=⟨b,off + k,none⟩) (by show b < w.heap.size;omega)).trans (hcell k hlt)
      have kcp:k ≤ cap:=by omega
      obtain ⟨t1,h1⟩:=exB (InP (g k) 0 (bound - 1));obtain ⟨t2,h2⟩:=exB (∃ t,t < k ∧ g t = g k);have C1:=fun w' => inBounds_b (w:=w') (show 0 ≤ bound - 1 by omega) h1;have C2:=det_b (contains_any (.slice (some ⟨b,off,none⟩) k cap) k g hi (g k) wr ((HR.out.part hk (by omega)).below hb hhi)) h2;have H1:Hid (t1 = true ↔ InP (g k) 0 (bound - 1)):=h1;have H2:Hid (t2 = true ↔ ∃ t,t < k ∧ g t = g k):=h2;obtain ⟨y,hy⟩:∃ y,y = g k:=⟨_,rfl⟩;have HY:Hid (y = g k):=hy;rw [← hy] at hck C1 C2;have HB:Hid (Below w.heap.size w wr):=hb;clear hc hcell h1 h2 hy hb
      go_wp2_with fail
      refine (C1 _).mono ?_;rintro e w' ⟨rfl,hw'⟩;obtain rfl:=hw'.symm;clear C1
      cases t1 with
      | false =>
        go_wp2;go_ret
        exact boolNo rfl (fun h => by
          have:=H1.out.2 (h k hlt).1
          simp at this) HB.out
      | true =>
        go_wp2_with fail
        refine C2.mono ?_;rintro e w2 ⟨rfl,b2⟩;have HB2:Hid (Below w.heap.size w w2):=HB.out.trans (b2.mono HB.out.size);clear b2 C2
        cases t2 with
        | true =>
          go_wp2;go_ret
          exact boolNo rfl (fun h => by
            obtain ⟨t,ht,e⟩:=H2.out.1 (by simp)
            exact (h k hlt).2 t ht e) HB2.out
        | false =>
          go_wp2
          go_roundw
          case rel => exact ⟨k + 1,by omega,by go_num,fun i hi => by
                        by_cases c:i = k
                        · subst c
                          exact ⟨H1.out.1 (by simp),fun t ht e => by
                            have:=H2.out.2 ⟨t,ht,e⟩
                            simp at this⟩
                        · exact HALL.out i (by omega),HB2.out⟩
          case measure => simp [intOf];omega
    · obtain rfl:k = n:=by omega
      go_wp2;go_ret;exact boolYes rfl HALL.out hb
end Go.Proofs.YtbjblbbbafiepaaGreat
namespace Go.Proofs.YtbjblbbbafiepaaGreat
open Go.RowKit F256
set_option maxHeartbeats 2000000 in
theorem blockFits_any (b:BlockD) (ao:Option Addr) (cap:Nat) (w:World) :
    Calls Tryz.prog 120 #[.agg #[.int .i64 b.stamp,.slice ao b.bytes.1 cap]] w (BoolP (BlockP b) w):=by
  obtain ⟨t1,h1⟩:=exB (InP b.stamp 0 1000000000);obtain ⟨b2,h2⟩:∃ x,((b.bytes.1:Int) == 4) = x:=⟨_,rfl⟩
  have HE:Hid (BlockP b ↔ (t1 = true ∧ b2 = true)):=by
    show BlockP b ↔ _
    rw [h1,← h2];unfold BlockP
    simp
    intro _;omega
  have C1:=fun w' => inBounds_b (w:=w') (show (0:Int) ≤ 1000000000 by omega) h1;have HB:Hid (Below w.heap.size w (w.alloc (.cells #[.int .i64 b.stamp,.slice ao b.bytes.1 cap] 111))):=(Below.refl _ _).alloc (Nat.le_refl _) _;clear h1
  go_enter Tryz.func120,Tryz.ntmps120
  go_wp2_with fail
  refine (C1 _).mono ?_;rintro e w' ⟨rfl,hw'⟩;obtain rfl:=hw'.symm;clear C1
  cases t1 with
  | false =>
    go_wp2;go_ret;exact boolNo rfl (fun h => by have:=HE.out.1 h;simp at this) HB.out
  | true =>
    cases b2 with
    | false =>
      go_wp2;go_ret;exact boolNo rfl (fun h => by have:=HE.out.1 h;simp at this) HB.out
    | true =>
      go_wp2;go_ret;exact boolYes rfl (HE.out.2 (by simp)) HB.out
set_option maxHeartbeats 4000000 in
theorem blocksFit_any (s:Nat → Int) (hs:OkShape s) (p:Nat × (Nat → BlockD)) (t:TypeId) (v:Value) (hi:Nat) (w:World) (h:(layBlock.slice t).rd w hi p [v]) (hhi:hi ≤ w.heap.size) :
    Calls Tryz.prog 98 #[shapeV s,v] w (BoolP (BlocksP s p) w):=by
  obtain ⟨ao,cap,e,hm,hc⟩:=h
  cases e
  unfold maxLen at hm;have HC:Hid (p.1 ≠ 0 → ∃ b off,ao = some ⟨b,off,none⟩ ∧ b < hi ∧ ∀ i,i < p.1 → ∃ ce,layBlock.rd w hi (p.2 i) ce ∧ ∀ j,j < layBlock.sz → w.cell? ⟨b,off + (i * layBlock.sz + j),none⟩ = ce[j]?):=hc;have HT0:Hid (One w (w.alloc (.cells #[.int .i64 (s 0),.int .i64 (s 1),.int .i64 (s 2),.int .i64 (s 3),.int .i64 (s 4),.int .i64 (s 5),.int .i64 (s 6),.int .i64 (s 7),.int .i64 (s 8)] 33)) #[.int .i64 (s 0),.int .i64 (s 1),.int .i64 (s 2),.int .i64 (s 3),.int .i64 (s 4),.int .i64 (s 5),.int .i64 (s 6),.int .i64 (s 7),.int .i64 (s 8)] 33):=one_new w #[.int .i64 (s 0),.int .i64 (s 1),.int .i64 (s 2),.int .i64 (s 3),.int .i64 (s 4),.int .i64 (s 5),.int .i64 (s 6),.int .i64 (s 7),.int .i64 (s 8)] 33;clear hc;unfold shapeV
  go_enter Tryz.func98,Tryz.ntmps98
  by_cases hl:(p.1:Int) = s 4
  · have hne:((p.1:Int) != s 4) = false:=by simpa using hl
    have HL:Hid ((p.1:Int) = s 4):=hl;clear hl;go_wp2
    go_loopw [14] (fun i wr => ∃ k:Nat,k ≤ p.1 ∧ i = .int .i64 k ∧ (∀ i,i < k → BlockP (p.2 i)) ∧ Below w.heap.size w wr) (fun i _ => p.1 - (intOf i).toNat)
    case atStart => exact ⟨0,Nat.zero_le _,rfl,fun i hi => by omega,HT0.out.bel⟩
    case round =>
      obtain ⟨k,hk,rfl,hal,hb⟩:=hrel;have HAL:Hid (∀ i,i < k → BlockP (p.2 i)):=hal;have HB:Hid (Below w.heap.size w wr):=hb;clear hal
      by_cases hlt:k < p.1
      · obtain ⟨b,off,he,hbl,hel⟩:=HC.out (by omega)
        subst he;obtain ⟨ck,hrk,hcell⟩:=elem_rd (t:=0) hel hb hhi hbl hlt;obtain ⟨ao1,cap1,rfl,-⟩:=Block_rd hrk;have c0:wr.cell? ⟨b,off + k * 2,none⟩ = some (.int .i64 (p.2 k).stamp):=hcell 0 (by decide);have c1:wr.cell? ⟨b,off + k * 2 + 1,none⟩ = some (.slice ao1 (p.2 k).bytes.1 cap1):=hcell 1 (by decide);have C:=fun w' => blockFits_any (p.2 k) ao1 cap1 w';clear hel hcell hrk hb
        go_wp2_with fail
        refine (C _).mono ?_;rintro e w2 ⟨t2,rfl,ht2,b2⟩;have HB2:Hid (Below w.heap.size w w2):=HB.out.trans ((bnew b2).mono HB.out.size);have HT2:Hid (t2 = true ↔ BlockP (p.2 k)):=ht2;clear C b2 ht2
        cases t2 with
        | false =>
          go_wp2;go_ret;exact boolNo rfl (fun h => by have:=HT2.out.2 (h.2 k hlt);simp at this) HB2.out
        | true =>
          go_wp2
          go_roundw
          case rel => exact ⟨k + 1,by omega,by go_num,fun i hi => by
                        by_cases c:i = k
                        · subst c;exact HT2.out.1 (by simp)
                        · exact HAL.out i (by omega),HB2.out⟩
          case measure => simp [intOf];omega
      · obtain rfl:k = p.1:=by omega
        go_wp2;go_ret;exact boolYes rfl ⟨HL.out,HAL.out⟩ hb
  · have hne:((p.1:Int) != s 4) = true:=by simpa using hl
    have HN:Hid (¬ (p.1:Int) = s 4):=hl;clear hl;go_wp2;go_ret;exact boolNo rfl (fun h => HN.out h.1) HT0.out.bel
theorem overfull_any (wp:Bool) (n:Nat) (hn:n ≤ 9223372036854775807) (ao:Option Addr) (cap:Nat) (w:World) :
    Calls Tryz.prog 66 #[.agg #[.bool wp,.slice ao n cap]] w (BoolP (200 < n) w):=by
  obtain ⟨P,hP⟩:∃ P:Prop,P = (200 < n):=⟨_,rfl⟩;have HB:Hid (Below w.heap.size w (w.alloc (.cells #[.bool wp,.slice ao n cap] 90))):=(Below.refl _ _).alloc (Nat.le_refl _) _;have HP:Hid (P = (200 < n)):=hP;rw [← hP];clear hP
  by_cases h:200 < n
  · have h1:decide (200 < (n:Int)) = true:=by simp;omega
    go_enter Tryz.func66,Tryz.ntmps66
    go_wp2;go_ret;exact boolYes (by simp [h1]) (by rw [HP.out];exact h) HB.out
  · have h1:decide (200 < (n:Int)) = false:=by simp;omega
    go_enter Tryz.func66,Tryz.ntmps66
    go_wp2;go_ret;exact boolNo (by simp [h1]) (by rw [HP.out];exact h) HB.out
theorem wipedRecs_any (wp:Bool) (n:Nat) (hn:n ≤ 9223372036854775807) (ao:Option Addr) (cap:Nat) (w:World) :
    Calls Tryz.prog 68 #[.agg #[.bool wp,.slice ao n cap]] w (BoolP (wp = true ∧ 0 < n) w):=by
  obtain ⟨P,hP⟩:∃ P:Prop,P = (wp = true ∧ 0 < n):=⟨_,rfl⟩;have HB:Hid (Below w.heap.size w (w.alloc (.cells #[.bool wp,.slice ao n cap] 90))):=(Below.refl _ _).alloc (Nat.le_refl _) _;have HP:Hid (P = (wp = true ∧ 0 < n)):=hP;rw [← hP];clear hP
  cases wp with
  | false =>
    go_enter Tryz.func68,Tryz.ntmps68
    go_wp2;go_ret;exact boolNo rfl (by rw [HP.out];simp) HB.out
  | true =>
    by_cases h:0 < n
    · have h1:decide (0 < (n:Int)) = true:=by simp;omega
      go_enter Tryz.func68,Tryz.ntmps68
      go_wp2;go_ret;exact boolYes (by simp [h]) (by rw [HP.out];exact ⟨by simp,h⟩) HB.out
    · have h1:decide (0 < (n:Int)) = false:=by simp;omega
      go_enter Tryz.func68,Tryz.ntmps68
      go_wp2;go_ret;exact boolNo (by simp [h]) (by rw [HP.out];exact fun x => h x.2) HB.out
end Go.Proofs.YtbjblbbbafiepaaGreat
namespace Go.Proofs.YtbjblbbbafiepaaGreat
open Go.RowKit F256
def Any_overfull (p:Nat × (Nat → TapeD)):Prop:=∃ t,t < p.1 ∧ 200 < (p.2 t).recs.1
def Any_wipedWithRecs (p:Nat × (Nat → TapeD)):Prop:=∃ t,t < p.1 ∧ ((p.2 t).wiped = true ∧ 0 < (p.2 t).recs.1)
set_option maxHeartbeats 4000000 in
theorem index_overfull (p:Nat × (Nat → TapeD)) (t:TypeId) (v:Value) (hi:Nat) (w:World) (h:(layTape.slice t).rd w hi p [v]) (hhi:hi ≤ w.heap.size) :
    Calls Tryz.prog 100 #[v,.func (.func 66) #[] #[]] w fun e w' => ∃ z:Int,e = .returned (.int .i64 z) ∧ (0 ≤ z ↔ Any_overfull p) ∧ Below w.heap.size w w':=by
  obtain ⟨ao,cap,e,hm,hc⟩:=h
  cases e
  unfold maxLen at hm;have HC:Hid (p.1 ≠ 0 → ∃ b off,ao = some ⟨b,off,none⟩ ∧ b < hi ∧ ∀ i,i < p.1 → ∃ ce,layTape.rd w hi (p.2 i) ce ∧ ∀ j,j < layTape.sz → w.cell? ⟨b,off + (i * layTape.sz + j),none⟩ = ce[j]?):=hc;clear hc
  go_enter Tryz.func100,Tryz.ntmps100
  go_wp2
  go_loopw [8] (fun i wr => ∃ k:Nat,k ≤ p.1 ∧ i = .int .i64 k ∧ (∀ i,i < k → ¬ (200 < (p.2 i).recs.1)) ∧ Below w.heap.size w wr) (fun i _ => p.1 - (intOf i).toNat)
  case atStart => exact ⟨0,Nat.zero_le _,rfl,fun i hi => by omega,Below.refl _ _⟩
  case round =>
    obtain ⟨k,hk,rfl,hal,hb⟩:=hrel;have HAL:Hid (∀ i,i < k → ¬ (200 < (p.2 i).recs.1)):=hal;have HB:Hid (Below w.heap.size w wr):=hb;clear hal
    by_cases hlt:k < p.1
    · obtain ⟨b,off,he,hbl,hel⟩:=HC.out (by omega)
      subst he;obtain ⟨ck,hrk,hcell⟩:=elem_rd (t:=0) hel hb hhi hbl hlt;obtain ⟨ao1,cap1,rfl,g1⟩:=Tape_rd hrk
      have hm1:(p.2 k).recs.1 ≤ maxLen:=by
        obtain ⟨_,_,_,h,_⟩:=g1;exact h
      unfold maxLen at hm1;have c0:wr.cell? ⟨b,off + k * 2,none⟩ = some (.bool (p.2 k).wiped):=hcell 0 (by decide);have c1:wr.cell? ⟨b,off + k * 2 + 1,none⟩ = some (.slice ao1 (p.2 k).recs.1 cap1):=hcell 1 (by decide);have C:=fun w' => overfull_any (p.2 k).wiped (p.2 k).recs.1 (by omega) ao1 cap1 w';clear hel hcell hrk hb g1
      go_wp2_with fail
      refine (C _).mono ?_;rintro e w2 ⟨t2,rfl,ht2,b2⟩;have HB2:Hid (Below w.heap.size w w2):=HB.out.trans (b2.mono HB.out.size);have HT2:Hid (t2 = true ↔ (200 < (p.2 k).recs.1)):=ht2;clear C b2 ht2
      cases t2 with
      | true =>
        have HP:Hid (0 ≤ (k:Int) ↔ Any_overfull p):=⟨fun _ => ⟨k,hlt,HT2.out.1 rfl⟩,fun _ => by omega⟩;go_wp2;go_ret;exact ⟨_,rfl,HP.out,HB2.out⟩
      | false =>
        go_wp2
        go_roundw
        case rel => exact ⟨k + 1,by omega,by go_num,fun i hi => by
                      by_cases c:i = k
                      · subst c;exact fun h => by have:=HT2.out.2 h;simp at this
                      · exact HAL.out i (by omega),HB2.out⟩
        case measure => simp [intOf];omega
    · obtain rfl:k = p.1:=by omega
      have HP:Hid (0 ≤ (-1:Int) ↔ Any_overfull p):=⟨fun h => by omega,fun ⟨t,ht,he⟩ => absurd he (HAL.out t ht)⟩;go_wp2;go_ret;exact ⟨-1,rfl,HP.out,hb⟩
theorem contains_overfull (p:Nat × (Nat → TapeD)) (t:TypeId) (v:Value) (hi:Nat) (w:World) (h:(layTape.slice t).rd w hi p [v]) (hhi:hi ≤ w.heap.size) :
    Calls Tryz.prog 65 #[v,.func (.func 66) #[] #[]] w (BoolP (Any_overfull p) w):=by
  have C:=index_overfull p t v hi w h hhi;obtain ⟨ao,cap,e,hm,hc⟩:=h
  cases e
  clear hc hm
  go_enter Tryz.func65,Tryz.ntmps65
  go_wp2_with fail
  refine C.mono ?_;rintro e w1 ⟨z,rfl,hz,b1⟩;have HZ:Hid (0 ≤ z ↔ Any_overfull p):=hz;have HB:Hid (Below w.heap.size w w1):=b1;clear hz C b1
  by_cases h0:0 ≤ z
  · have HP:Hid (Any_overfull p):=HZ.out.mp h0
    go_wp2;go_ret;exact boolYes rfl HP.out HB.out
  · have HP:Hid (¬ Any_overfull p):=fun h => h0 (HZ.out.mpr h)
    have td:decide (0 ≤ z) = false:=by simp;omega
    clear h0;go_wp2;go_ret;exact boolNo rfl HP.out HB.out
set_option maxHeartbeats 4000000 in
theorem index_wipedWithRecs (p:Nat × (Nat → TapeD)) (t:TypeId) (v:Value) (hi:Nat) (w:World) (h:(layTape.slice t).rd w hi p [v]) (hhi:hi ≤ w.heap.size) :
    Calls Tryz.prog 100 #[v,.func (.func 68) #[] #[]] w fun e w' => ∃ z:Int,e = .returned (.int .i64 z) ∧ (0 ≤ z ↔ Any_wipedWithRecs p) ∧ Below w.heap.size w w':=by
  obtain ⟨ao,cap,e,hm,hc⟩:=h
  cases e
  unfold maxLen at hm;have HC:Hid (p.1 ≠ 0 → ∃ b off,ao = some ⟨b,off,none⟩ ∧ b < hi ∧ ∀ i,i < p.1 → ∃ ce,layTape.rd w hi (p.2 i) ce ∧ ∀ j,j < layTape.sz → w.cell? ⟨b,off + (i * layTape.sz + j),none⟩ = ce[j]?):=hc;clear hc
  go_enter Tryz.func100,Tryz.ntmps100
  go_wp2
  go_loopw [8] (fun i wr => ∃ k:Nat,k ≤ p.1 ∧ i = .int .i64 k ∧ (∀ i,i < k → ¬ ((p.2 i).wiped = true ∧ 0 < (p.2 i).recs.1)) ∧ Below w.heap.size w wr) (fun i _ => p.1 - (intOf i).toNat)
  case atStart => exact ⟨0,Nat.zero_le _,rfl,fun i hi => by omega,Below.refl _ _⟩
  case round =>
    obtain ⟨k,hk,rfl,hal,hb⟩:=hrel;have HAL:Hid (∀ i,i < k → ¬ ((p.2 i).wiped = true ∧ 0 < (p.2 i).recs.1)):=hal;have HB:Hid (Below w.heap.size w wr):=hb;clear hal
    by_cases hlt:k < p.1
    · obtain ⟨b,off,he,hbl,hel⟩:=HC.out (by omega)
      subst he;obtain ⟨ck,hrk,hcell⟩:=elem_rd (t:=0) hel hb hhi hbl hlt;obtain ⟨ao1,cap1,rfl,g1⟩:=Tape_rd hrk
      have hm1:(p.2 k).recs.1 ≤ maxLen:=by
        obtain ⟨_,_,_,h,_⟩:=g1;exact h
      unfold maxLen at hm1;have c0:wr.cell? ⟨b,off + k * 2,none⟩ = some (.bool (p.2 k).wiped):=hcell 0 (by decide);have c1:wr.cell? ⟨b,off + k * 2 + 1,none⟩ = some (.slice ao1 (p.2 k).recs.1 cap1):=hcell 1 (by decide);have C:=fun w' => wipedRecs_any (p.2 k).wiped (p.2 k).recs.1 (by omega) ao1 cap1 w';clear hel hcell hrk hb g1
      go_wp2_with fail
      refine (C _).mono ?_;rintro e w2 ⟨t2,rfl,ht2,b2⟩;have HB2:Hid (Below w.heap.size w w2):=HB.out.trans (b2.mono HB.out.size);have HT2:Hid (t2 = true ↔ ((p.2 k).wiped = true ∧ 0 < (p.2 k).recs.1)):=ht2;clear C b2 ht2
      cases t2 with
      | true =>
        have HP:Hid (0 ≤ (k:Int) ↔ Any_wipedWithRecs p):=⟨fun _ => ⟨k,hlt,HT2.out.1 rfl⟩,fun _ => by omega⟩;go_wp2;go_ret;exact ⟨_,rfl,HP.out,HB2.out⟩
      | false =>
        go_wp2
        go_roundw
        case rel => exact ⟨k + 1,by omega,by go_num,fun i hi => by
                      by_cases c:i = k
                      · subst c;exact fun h => by have:=HT2.out.2 h;simp at this
                      · exact HAL.out i (by omega),HB2.out⟩
        case measure => simp [intOf];omega
    · obtain rfl:k = p.1:=by omega
      have HP:Hid (0 ≤ (-1:Int) ↔ Any_wipedWithRecs p):=⟨fun h => by omega,fun ⟨t,ht,he⟩ => absurd he (HAL.out t ht)⟩;go_wp2;go_ret;exact ⟨-1,rfl,HP.out,hb⟩
theorem contains_wipedWithRecs (p:Nat × (Nat → TapeD)) (t:TypeId) (v:Value) (hi:Nat) (w:World) (h:(layTape.slice t).rd w hi p [v]) (hhi:hi ≤ w.heap.size) :
    Calls Tryz.prog 65 #[v,.func (.func 68) #[] #[]] w (BoolP (Any_wipedWithRecs p) w):=by
  have C:=index_wipedWithRecs p t v hi w h hhi;obtain ⟨ao,cap,e,hm,hc⟩:=h
  cases e
  clear hc hm
  go_enter Tryz.func65,Tryz.ntmps65
  go_wp2_with fail
  refine C.mono ?_;rintro e w1 ⟨z,rfl,hz,b1⟩;have HZ:Hid (0 ≤ z ↔ Any_wipedWithRecs p):=hz;have HB:Hid (Below w.heap.size w w1):=b1;clear hz C b1
  by_cases h0:0 ≤ z
  · have HP:Hid (Any_wipedWithRecs p):=HZ.out.mp h0
    go_wp2;go_ret;exact boolYes rfl HP.out HB.out
  · have HP:Hid (¬ Any_wipedWithRecs p):=fun h => h0 (HZ.out.mpr h)
    have td:decide (0 ≤ z) = false:=by simp;omega
    clear h0;go_wp2;go_ret;exact boolNo rfl HP.out HB.out
def GroupsP (s:Nat → Int) (p:Nat × (Nat → Nat × (Nat → DriveD))):Prop:=(p.1:Int) = s 0 + s 1 ∧ ∀ i,i < p.1 → DrivesP s (p.2 i)
set_option maxHeartbeats 8000000 in
theorem groupsFit_any (s:Nat → Int) (hs:OkShape s) (p:Nat × (Nat → Nat × (Nat → DriveD))) (v:Value) (hi:Nat) (w:World) (h:((layDrive.slice 98).slice 95).rd w hi p [v]) (hhi:hi ≤ w.heap.size) :
    Calls Tryz.prog 63 #[shapeV s,v] w (BoolP (GroupsP s p) w):=by
  obtain ⟨ao,cap,e,hm,hc⟩:=h
  cases e
  unfold maxLen at hm;have HC:Hid (p.1 ≠ 0 → ∃ b off,ao = some ⟨b,off,none⟩ ∧ b < hi ∧ ∀ i,i < p.1 → ∃ ce,(layDrive.slice 98).rd w hi (p.2 i) ce ∧ ∀ j,j < (layDrive.slice 98).sz → w.cell? ⟨b,off + (i * (layDrive.slice 98).sz + j),none⟩ = ce[j]?):=hc;have T0:=one_new w #[.int .i64 (s 0),.int .i64 (s 1),.int .i64 (s 2),.int .i64 (s 3),.int .i64 (s 4),.int .i64 (s 5),.int .i64 (s 6),.int .i64 (s 7),.int .i64 (s 8)] 33;have CG:=fun w' => groupCount_any s hs w';have CD:=fun w' => driveCount_any s hs w';have HS:Hid (OkShape s):=hs;clear hc hs;unfold shapeV at CG CD ⊢
  go_enter Tryz.func63,Tryz.ntmps63
  go_wp2_with fail
  refine (CG _).mono ?_;rintro e w1 ⟨rfl,b1⟩;have HT1:Hid (One w w1 #[.int .i64 (s 0),.int .i64 (s 1),.int .i64 (s 2),.int .i64 (s 3),.int .i64 (s 4),.int .i64 (s 5),.int .i64 (s 6),.int .i64 (s 7),.int .i64 (s 8)] 33):=T0.call b1;clear b1 T0 CG
  by_cases hl:(p.1:Int) = s 0 + s 1
  · have hne:((p.1:Int) != s 0 + s 1) = false:=by simpa using hl
    have HL:Hid ((p.1:Int) = s 0 + s 1):=hl;clear hl;go_wp2
    go_loopw [16] (fun i wr => ∃ k:Nat,k ≤ p.1 ∧ i = .int .i64 k ∧ (∀ i,i < k → DrivesP s (p.2 i)) ∧ One w wr #[.int .i64 (s 0),.int .i64 (s 1),.int .i64 (s 2),.int .i64 (s 3),.int .i64 (s 4),.int .i64 (s 5),.int .i64 (s 6),.int .i64 (s 7),.int .i64 (s 8)] 33) (fun i _ => p.1 - (intOf i).toNat)
    case atStart => exact ⟨0,Nat.zero_le _,rfl,fun i hi => by omega,HT1.out⟩
    case round =>
      clear HT1;obtain ⟨k,hk,rfl,hal,T2⟩:=hrel;obtain ⟨wo,rfl⟩:∃ x,x = wr:=⟨_,rfl⟩;have HAL:Hid (∀ i,i < k → DrivesP s (p.2 i)):=hal;have HT2:Hid (One w wo #[.int .i64 (s 0),.int .i64 (s 1),.int .i64 (s 2),.int .i64 (s 3),.int .i64 (s 4),.int .i64 (s 5),.int .i64 (s 6),.int .i64 (s 7),.int .i64 (s 8)] 33):=T2;clear hal;have x2_0:wo.cell? ⟨w.heap.size,0,none⟩ = some (.int .i64 (s 0)):=T2.b1.cell 0;have x2_1:wo.cell? ⟨w.heap.size,1,none⟩ = some (.int .i64 (s 1)):=T2.b1.cell 1;have x2_2:wo.cell? ⟨w.heap.size,2,none⟩ = some (.int .i64 (s 2)):=T2.b1.cell 2;have x2_3:wo.cell? ⟨w.heap.size,3,none⟩ = some (.int .i64 (s 3)):=T2.b1.cell 3;have x2_4:wo.cell? ⟨w.heap.size,4,none⟩ = some (.int .i64 (s 4)):=T2.b1.cell 4;have x2_5:wo.cell? ⟨w.heap.size,5,none⟩ = some (.int .i64 (s 5)):=T2.b1.cell 5;have x2_6:wo.cell? ⟨w.heap.size,6,none⟩ = some (.int .i64 (s 6)):=T2.b1.cell 6;have x2_7:wo.cell? ⟨w.heap.size,7,none⟩ = some (.int .i64 (s 7)):=T2.b1.cell 7;have x2_8:wo.cell? ⟨w.heap.size,8,none⟩ = some (.int .i64 (s 8)):=T2.b1.cell 8
      by_cases hlt:k < p.1
      · obtain ⟨b,off,he,hbl,hel⟩:=HC.out (by omega)
        subst he;obtain ⟨ck,hrk,hcell⟩:=elem_rd (t:=0) hel T2.bel hhi hbl hlt;obtain ⟨ao9,cap9,rfl⟩:=sl_form hrk
        have c0:wo.cell? ⟨b,off + k,none⟩ = some (.slice ao9 (p.2 k).1 cap9):=by
          have h:=hcell 0 (show 0 < 1 by decide);rw [show (layDrive.slice 98).sz = 1 from rfl,Nat.mul_one,Nat.add_zero] at h;exact h
        obtain ⟨_,_,e9,hm9,hc9⟩:=hrk
        cases e9
        have HC9:Hid ((p.2 k).1 ≠ 0 → ∃ b off,ao9 = some ⟨b,off,none⟩ ∧ b < hi ∧ ∀ i,i < (p.2 k).1 → ∃ ce,layDrive.rd wo hi ((p.2 k).2 i) ce ∧ ∀ j,j < layDrive.sz → wo.cell? ⟨b,off + (i * layDrive.sz + j),none⟩ = ce[j]?):=hc9;unfold maxLen at hm9;have zw:w.heap.size < wo.heap.size:=T2.b1.lt;clear hcell hc9 hel T2
        go_wp2_with fail
        refine (CD _).mono ?_;rintro e w3 ⟨rfl,b3⟩;have HT3:Hid (One w w3 #[.int .i64 (s 0),.int .i64 (s 1),.int .i64 (s 2),.int .i64 (s 3),.int .i64 (s 4),.int .i64 (s 5),.int .i64 (s 6),.int .i64 (s 7),.int .i64 (s 8)] 33):=HT2.out.call b3;have HB3:Hid (Below wo.heap.size wo w3):=b3;clear b3 c0 x2_0 x2_1 x2_2 x2_3 x2_4 x2_5 x2_6 x2_7 x2_8
        by_cases hl2:((p.2 k).1:Int) = s 2 + s 3
        · have hne2:(((p.2 k).1:Int) != s 2 + s 3) = false:=by simpa using hl2
          have HL2:Hid (((p.2 k).1:Int) = s 2 + s 3):=hl2;clear hl2;go_wp2
          go_loopw [27] (fun i wx => ∃ q:Nat,q ≤ (p.2 k).1 ∧ i = .int .i64 q ∧ (∀ i,i < q → BlocksP s ((p.2 k).2 i).blocks) ∧ One w wx #[.int .i64 (s 0),.int .i64 (s 1),.int .i64 (s 2),.int .i64 (s 3),.int .i64 (s 4),.int .i64 (s 5),.int .i64 (s 6),.int .i64 (s 7),.int .i64 (s 8)] 33 ∧ Below wo.heap.size wo wx) (fun i _ => (p.2 k).1 - (intOf i).toNat)
          case atStart => exact ⟨0,Nat.zero_le _,rfl,fun i hi => by omega,HT3.out,HB3.out⟩
          case round =>
            clear HT3 HB3;obtain ⟨q,hq,rfl,hal2,T4,hb4⟩:=hrel;obtain ⟨wx,rfl⟩:∃ x,x = wr:=⟨_,rfl⟩;have HAL2:Hid (∀ i,i < q → BlocksP s ((p.2 k).2 i).blocks):=hal2;have HT4:Hid (One w wx #[.int .i64 (s 0),.int .i64 (s 1),.int .i64 (s 2),.int .i64 (s 3),.int .i64 (s 4),.int .i64 (s 5),.int .i64 (s 6),.int .i64 (s 7),.int .i64 (s 8)] 33):=T4;have HB4:Hid (Below wo.heap.size wo wx):=hb4;clear hal2
            by_cases hlq:q < (p.2 k).1
            · obtain ⟨b9,off9,he9,hb9,hel9⟩:=HC9.out (by omega)
              subst he9;obtain ⟨cq,hrq,hcq⟩:=elem_rd (t:=0) hel9 hb4 (by omega) hb9 hlq;obtain ⟨ao5,cap5,rfl,g5⟩:=Drive_rd hrq;have c4:wx.cell? ⟨b9,off9 + q * 2,none⟩ = some (.bool ((p.2 k).2 q).wiped):=hcq 0 (by decide);have c5:wx.cell? ⟨b9,off9 + q * 2 + 1,none⟩ = some (.slice ao5 ((p.2 k).2 q).blocks.1 cap5):=hcq 1 (by decide);have HG5:Hid ((layBlock.slice 111).rd wx hi ((p.2 k).2 q).blocks [.slice ao5 ((p.2 k).2 q).blocks.1 cap5]):=g5;have zx:w.heap.size < wx.heap.size:=T4.b1.lt;clear hel9 hcq hrq T4 hb4 g5
              go_upto_region 11 with fail
              have bA:Below wx.heap.size wx (wx.alloc (.cells #[.bool ((p.2 k).2 q).wiped,.slice ao5 ((p.2 k).2 q).blocks.1 cap5] 98)):=(Below.refl _ _).alloc (Nat.le_refl _) _;have T5:One w (wx.alloc (.cells #[.bool ((p.2 k).2 q).wiped,.slice ao5 ((p.2 k).2 q).blocks.1 cap5] 98)) #[.int .i64 (s 0),.int .i64 (s 1),.int .i64 (s 2),.int .i64 (s 3),.int .i64 (s 4),.int .i64 (s 5),.int .i64 (s 6),.int .i64 (s 7),.int .i64 (s 8)] 33:=HT4.out.call bA;have X5:Box (wx.alloc (.cells #[.bool ((p.2 k).2 q).wiped,.slice ao5 ((p.2 k).2 q).blocks.1 cap5] 98)) wx.heap.size #[.bool ((p.2 k).2 q).wiped,.slice ao5 ((p.2 k).2 q).blocks.1 cap5] 98:=box_new _ _ _;obtain ⟨W5,hW5⟩:∃ x,x = wx.alloc (.cells #[.bool ((p.2 k).2 q).wiped,.slice ao5 ((p.2 k).2 q).blocks.1 cap5] 98):=⟨_,rfl⟩;rw [← hW5] at T5 X5 bA ⊢;have y5_1:W5.cell? ⟨wx.heap.size,1,none⟩ = some (.slice ao5 ((p.2 k).2 q).blocks.1 cap5):=X5.cell 1;have HT5:Hid (One w W5 #[.int .i64 (s 0),.int .i64 (s 1),.int .i64 (s 2),.int .i64 (s 3),.int .i64 (s 4),.int .i64 (s 5),.int .i64 (s 6),.int .i64 (s 7),.int .i64 (s 8)] 33):=T5;have HB5:Hid (Below wx.heap.size wx W5):=bA;have x5_0:W5.cell? ⟨w.heap.size,0,none⟩ = some (.int .i64 (s 0)):=T5.b1.cell 0;have x5_1:W5.cell? ⟨w.heap.size,1,none⟩ = some (.int .i64 (s 1)):=T5.b1.cell 1;have x5_2:W5.cell? ⟨w.heap.size,2,none⟩ = some (.int .i64 (s 2)):=T5.b1.cell 2;have x5_3:W5.cell? ⟨w.heap.size,3,none⟩ = some (.int .i64 (s 3)):=T5.b1.cell 3;have x5_4:W5.cell? ⟨w.heap.size,4,none⟩ = some (.int .i64 (s 4)):=T5.b1.cell 4;have x5_5:W5.cell? ⟨w.heap.size,5,none⟩ = some (.int .i64 (s 5)):=T5.b1.cell 5;have x5_6:W5.cell? ⟨w.heap.size,6,none⟩ = some (.int .i64 (s 6)):=T5.b1.cell 6;have x5_7:W5.cell? ⟨w.heap.size,7,none⟩ = some (.int .i64 (s 7)):=T5.b1.cell 7;have x5_8:W5.cell? ⟨w.heap.size,8,none⟩ = some (.int .i64 (s 8)):=T5.b1.cell 8;obtain ⟨t6,h6⟩:=exB (BlocksP s ((p.2 k).2 q).blocks);have CB:=det_b (blocksFit_any s HS.out ((p.2 k).2 q).blocks _ _ hi W5 ((layBlock.slice 111).rd_below HG5.out bA (by omega)) (by have:=bA.size;omega)) h6;unfold shapeV at CB;have H6:Hid (t6 = true ↔ BlocksP s ((p.2 k).2 q).blocks):=h6;clear T5 X5 bA hW5 h6 c4 c5
              go_wp2_with fail
              refine CB.mono ?_;rintro e w6 ⟨rfl,b6⟩;have HT6:Hid (One w w6 #[.int .i64 (s 0),.int .i64 (s 1),.int .i64 (s 2),.int .i64 (s 3),.int .i64 (s 4),.int .i64 (s 5),.int .i64 (s 6),.int .i64 (s 7),.int .i64 (s 8)] 33):=HT5.out.call b6;have HB6:Hid (Below wo.heap.size wo w6):=HB4.out.trans ((HB5.out.trans (b6.mono HB5.out.size)).mono HB4.out.size);clear b6 CB x5_0 x5_1 x5_2 x5_3 x5_4 x5_5 x5_6 x5_7 x5_8 y5_1
              cases t6 with
              | false =>
                go_wp2;go_ret;exact boolNo rfl (fun h => by have:=H6.out.2 ((h.2 k hlt).2 q hlq);simp at this) HT6.out.bel
              | true =>
                go_wp2
                go_roundw
                case rel => exact ⟨q + 1,by omega,by go_num,fun i hi => by
                              by_cases c:i = q
                              · subst c;exact H6.out.1 (by simp)
                              · exact HAL2.out i (by omega),HT6.out,HB6.out⟩
                case measure => simp [intOf];omega
            · obtain rfl:q = (p.2 k).1:=by omega
              clear T4 hb4;go_wp2
              go_roundw
              case rel => exact ⟨k + 1,by omega,by go_num,fun i hi => by
                            by_cases c:i = k
                            · subst c
                              exact ⟨HL2.out,HAL2.out⟩
                            · exact HAL.out i (by omega),HT4.out⟩
              case measure => simp [intOf];omega
        · have hne2:(((p.2 k).1:Int) != s 2 + s 3) = true:=by simpa using hl2
          have HN2:Hid (¬ ((p.2 k).1:Int) = s 2 + s 3):=hl2;clear hl2;go_wp2;go_ret;exact boolNo rfl (fun h => HN2.out (h.2 k hlt).1) HT3.out.bel
      · obtain rfl:k = p.1:=by omega
        go_wp2;go_ret;exact boolYes rfl ⟨HL.out,HAL.out⟩ HT2.out.bel
  · have hne:((p.1:Int) != s 0 + s 1) = true:=by simpa using hl
    have HN:Hid (¬ (p.1:Int) = s 0 + s 1):=hl;clear hl;go_wp2;go_ret;exact boolNo rfl (fun h => HN.out h.1) HT1.out.bel
end Go.Proofs.YtbjblbbbafiepaaGreat
namespace Go.Proofs.YtbjblbbbafiepaaGreat
open Go.RowKit F256
set_option maxHeartbeats 8000000 in
theorem itemIn_any (s:Nat → Int) (hs:OkShape s) (r:RecD) (cs:List Value) (hi:Nat) (w:World) (h:layRec.rd w hi r cs) (hhi:hi ≤ w.heap.size) :
    Calls Tryz.prog 138 #[shapeV s,.agg cs.toArray] w (BoolP (ItemP s r) w):=by
  obtain ⟨ao6,cap6,ao7,cap7,ao8,cap8,rfl,g6,g7,g8,-,-,-,hl,-⟩:=Rec_rd h;clear h;have hb:=okB hs;obtain ⟨v6,e6,⟨h6,hcp6⟩,_⟩:=g6
  cases e6
  have H6:Hid (RdI w hi (.slice ao6 r.rows.1 cap6) r.rows.1 r.rows.2):=h6;have HCP:Hid (CapP (.slice ao6 r.rows.1 cap6) r.rows.1):=hcp6;have hm6:=h6.mx;obtain ⟨v7,e7,⟨_,_,e7',hm7,_⟩,_⟩:=g7
  cases e7
  cases e7'
  unfold maxLen at hm6 hm7;clear h6 hcp6 g8;have T0:=two_newb w #[.int .i64 (s 0),.int .i64 (s 1),.int .i64 (s 2),.int .i64 (s 3),.int .i64 (s 4),.int .i64 (s 5),.int .i64 (s 6),.int .i64 (s 7),.int .i64 (s 8)] #[.int .i64 r.kind,.int .i64 r.seq,.string r.name,.int .i64 r.length,.int .i64 r.group,.int .i64 r.row,.slice ao6 r.rows.1 cap6,.slice ao7 r.data.1 cap7,.slice ao8 r.delta.1 cap8] 33 93;have CP:=fun w' => implParts_any s r.length w';unfold shapeV intR at CP;unfold shapeV
  go_enter Tryz.func138,Tryz.ntmps138
  by_cases hl1:r.length = -1
  · have HL:Hid (r.length = -1):=hl1
    have e1:(r.length == -1) = true:=by simp [hl1]
    have HB:Hid (Below w.heap.size w ((w.alloc (.cells #[.int .i64 (s 0),.int .i64 (s 1),.int .i64 (s 2),.int .i64 (s 3),.int .i64 (s 4),.int .i64 (s 5),.int .i64 (s 6),.int .i64 (s 7),.int .i64 (s 8)] 33)).alloc (.cells #[.int .i64 r.kind,.int .i64 r.seq,.string r.name,.int .i64 r.length,.int .i64 r.group,.int .i64 r.row,.slice ao6 r.rows.1 cap6,.slice ao7 r.data.1 cap7,.slice ao8 r.delta.1 cap8] 93))):=T0.bel;clear T0 CP hl1;obtain ⟨b0,h0⟩:∃ b,((r.data.1:Int) == 0) = b:=⟨_,rfl⟩;obtain ⟨b1,h1⟩:∃ b,((r.rows.1:Int) == 0) = b:=⟨_,rfl⟩
    have HE:Hid (ItemP s r ↔ (b0 = true ∧ b1 = true)):=by
      show ItemP s r ↔ _
      rw [← h0,← h1];unfold ItemP
      simp [HL.out]
    have hst:b0 = false ∨ (b0 = true ∧ b1 = false) ∨ (b0 = true ∧ b1 = true):=by
      clear HE h0 h1
      cases b0 <;> simp
    rcases hst with rfl | ⟨rfl,rfl⟩ | ⟨rfl,rfl⟩
    all_goals
      go_wp2;go_ret
      first
        | exact boolNo rfl (fun h => by have:=HE.out.1 h;simp at this) HB.out
        | exact boolYes rfl (HE.out.2 (by simp)) HB.out
  · have e1:(r.length == -1) = false:=by simp [hl1]
    have HL:Hid (r.length ≠ -1):=hl1;clear hl1
    go_wp2_with fail
    refine (CP _).mono ?_;rintro e w1 ⟨pv,pc,rfl,hp,b1⟩;have T1:Two w w1 #[.int .i64 (s 0),.int .i64 (s 1),.int .i64 (s 2),.int .i64 (s 3),.int .i64 (s 4),.int .i64 (s 5),.int .i64 (s 6),.int .i64 (s 7),.int .i64 (s 8)] #[.int .i64 r.kind,.int .i64 r.seq,.string r.name,.int .i64 r.length,.int .i64 r.group,.int .i64 r.row,.slice ao6 r.rows.1 cap6,.slice ao7 r.data.1 cap7,.slice ao8 r.delta.1 cap8] 33 93:=T0.call b1;clear b1 T0 CP;have HT1:Hid (Two w w1 #[.int .i64 (s 0),.int .i64 (s 1),.int .i64 (s 2),.int .i64 (s 3),.int .i64 (s 4),.int .i64 (s 5),.int .i64 (s 6),.int .i64 (s 7),.int .i64 (s 8)] #[.int .i64 r.kind,.int .i64 r.seq,.string r.name,.int .i64 r.length,.int .i64 r.group,.int .i64 r.row,.slice ao6 r.rows.1 cap6,.slice ao7 r.data.1 cap7,.slice ao8 r.delta.1 cap8] 33 93):=T1;have z1:w.heap.size + 1 < w1.heap.size:=T1.b2.lt;have x1_0:w1.cell? ⟨w.heap.size,0,none⟩ = some (.int .i64 (s 0)):=T1.b1.cell 0;have x1_1:w1.cell? ⟨w.heap.size,1,none⟩ = some (.int .i64 (s 1)):=T1.b1.cell 1;have x1_2:w1.cell? ⟨w.heap.size,2,none⟩ = some (.int .i64 (s 2)):=T1.b1.cell 2;have x1_3:w1.cell? ⟨w.heap.size,3,none⟩ = some (.int .i64 (s 3)):=T1.b1.cell 3;have x1_4:w1.cell? ⟨w.heap.size,4,none⟩ = some (.int .i64 (s 4)):=T1.b1.cell 4;have x1_5:w1.cell? ⟨w.heap.size,5,none⟩ = some (.int .i64 (s 5)):=T1.b1.cell 5;have x1_6:w1.cell? ⟨w.heap.size,6,none⟩ = some (.int .i64 (s 6)):=T1.b1.cell 6;have x1_7:w1.cell? ⟨w.heap.size,7,none⟩ = some (.int .i64 (s 7)):=T1.b1.cell 7;have x1_8:w1.cell? ⟨w.heap.size,8,none⟩ = some (.int .i64 (s 8)):=T1.b1.cell 8;have y1_0:w1.cell? ⟨w.heap.size + 1,0,none⟩ = some (.int .i64 r.kind):=T1.b2.cell 0;have y1_1:w1.cell? ⟨w.heap.size + 1,1,none⟩ = some (.int .i64 r.seq):=T1.b2.cell 1;have y1_2:w1.cell? ⟨w.heap.size + 1,2,none⟩ = some (.string r.name):=T1.b2.cell 2;have y1_3:w1.cell? ⟨w.heap.size + 1,3,none⟩ = some (.int .i64 r.length):=T1.b2.cell 3;have y1_4:w1.cell? ⟨w.heap.size + 1,4,none⟩ = some (.int .i64 r.group):=T1.b2.cell 4;have y1_5:w1.cell? ⟨w.heap.size + 1,5,none⟩ = some (.int .i64 r.row):=T1.b2.cell 5;have y1_6:w1.cell? ⟨w.heap.size + 1,6,none⟩ = some (.slice ao6 r.rows.1 cap6):=T1.b2.cell 6;have y1_7:w1.cell? ⟨w.heap.size + 1,7,none⟩ = some (.slice ao7 r.data.1 cap7):=T1.b2.cell 7;have y1_8:w1.cell? ⟨w.heap.size + 1,8,none⟩ = some (.slice ao8 r.delta.1 cap8):=T1.b2.cell 8;clear T1
    go_upto_region 4 with fail
    have bA:Below w1.heap.size w1 (w1.alloc (.cells #[.int .i64 pc,.int .i64 pv] 45)):=(Below.refl _ _).alloc (Nat.le_refl _) _;have T2:Two w (w1.alloc (.cells #[.int .i64 pc,.int .i64 pv] 45)) #[.int .i64 (s 0),.int .i64 (s 1),.int .i64 (s 2),.int .i64 (s 3),.int .i64 (s 4),.int .i64 (s 5),.int .i64 (s 6),.int .i64 (s 7),.int .i64 (s 8)] #[.int .i64 r.kind,.int .i64 r.seq,.string r.name,.int .i64 r.length,.int .i64 r.group,.int .i64 r.row,.slice ao6 r.rows.1 cap6,.slice ao7 r.data.1 cap7,.slice ao8 r.delta.1 cap8] 33 93:=HT1.out.call bA;have X2:Box (w1.alloc (.cells #[.int .i64 pc,.int .i64 pv] 45)) w1.heap.size #[.int .i64 pc,.int .i64 pv] 45:=box_new _ _ _;obtain ⟨W2,hW2⟩:∃ W2,W2 = w1.alloc (.cells #[.int .i64 pc,.int .i64 pv] 45):=⟨_,rfl⟩;rw [← hW2] at T2 X2 ⊢;have HT2:Hid (Two w W2 #[.int .i64 (s 0),.int .i64 (s 1),.int .i64 (s 2),.int .i64 (s 3),.int .i64 (s 4),.int .i64 (s 5),.int .i64 (s 6),.int .i64 (s 7),.int .i64 (s 8)] #[.int .i64 r.kind,.int .i64 r.seq,.string r.name,.int .i64 r.length,.int .i64 r.group,.int .i64 r.row,.slice ao6 r.rows.1 cap6,.slice ao7 r.data.1 cap7,.slice ao8 r.delta.1 cap8] 33 93):=T2;have q0:W2.cell? ⟨w1.heap.size,0,none⟩ = some (.int .i64 pc):=X2.cell 0;have q1:W2.cell? ⟨w1.heap.size,1,none⟩ = some (.int .i64 pv):=X2.cell 1;clear bA hW2 x1_0 y1_0 x1_1 y1_1 x1_2 y1_2 x1_3 y1_3 x1_4 y1_4 x1_5 y1_5 x1_6 y1_6 x1_7 y1_7 x1_8 y1_8;have x2_0:W2.cell? ⟨w.heap.size,0,none⟩ = some (.int .i64 (s 0)):=T2.b1.cell 0;have x2_1:W2.cell? ⟨w.heap.size,1,none⟩ = some (.int .i64 (s 1)):=T2.b1.cell 1;have x2_2:W2.cell? ⟨w.heap.size,2,none⟩ = some (.int .i64 (s 2)):=T2.b1.cell 2;have x2_3:W2.cell? ⟨w.heap.size,3,none⟩ = some (.int .i64 (s 3)):=T2.b1.cell 3;have x2_4:W2.cell? ⟨w.heap.size,4,none⟩ = some (.int .i64 (s 4)):=T2.b1.cell 4;have x2_5:W2.cell? ⟨w.heap.size,5,none⟩ = some (.int .i64 (s 5)):=T2.b1.cell 5;have x2_6:W2.cell? ⟨w.heap.size,6,none⟩ = some (.int .i64 (s 6)):=T2.b1.cell 6;have x2_7:W2.cell? ⟨w.heap.size,7,none⟩ = some (.int .i64 (s 7)):=T2.b1.cell 7;have x2_8:W2.cell? ⟨w.heap.size,8,none⟩ = some (.int .i64 (s 8)):=T2.b1.cell 8;have y2_0:W2.cell? ⟨w.heap.size + 1,0,none⟩ = some (.int .i64 r.kind):=T2.b2.cell 0;have y2_1:W2.cell? ⟨w.heap.size + 1,1,none⟩ = some (.int .i64 r.seq):=T2.b2.cell 1;have y2_2:W2.cell? ⟨w.heap.size + 1,2,none⟩ = some (.string r.name):=T2.b2.cell 2;have y2_3:W2.cell? ⟨w.heap.size + 1,3,none⟩ = some (.int .i64 r.length):=T2.b2.cell 3;have y2_4:W2.cell? ⟨w.heap.size + 1,4,none⟩ = some (.int .i64 r.group):=T2.b2.cell 4;have y2_5:W2.cell? ⟨w.heap.size + 1,5,none⟩ = some (.int .i64 r.row):=T2.b2.cell 5;have y2_6:W2.cell? ⟨w.heap.size + 1,6,none⟩ = some (.slice ao6 r.rows.1 cap6):=T2.b2.cell 6;have y2_7:W2.cell? ⟨w.heap.size + 1,7,none⟩ = some (.slice ao7 r.data.1 cap7):=T2.b2.cell 7;have y2_8:W2.cell? ⟨w.heap.size + 1,8,none⟩ = some (.slice ao8 r.delta.1 cap8):=T2.b2.cell 8
    clear T2 X2
    by_cases hok:1 ≤ r.length ∧ r.length ≤ 3 * (s 2 * 4)
    · have hpp:pc = 0 ∧ pv = (r.length + s 2 * 4 - 1) / (s 2 * 4):=by
        rcases hp with ⟨h1,_⟩ | ⟨_,h1,_⟩ | ⟨_,h1,h2,_⟩ | ⟨_,_,_,h1,h2⟩
        · exact absurd hs h1
        · omega
        · omega
        · exact ⟨h1,h2⟩
      obtain ⟨rfl,hpv⟩:=hpp;have HPV:Hid (pv = (r.length + s 2 * 4 - 1) / (s 2 * 4)):=hpv;have HOK:Hid (1 ≤ r.length ∧ r.length ≤ 3 * (s 2 * 4)):=hok;clear hp hpv hs
      by_cases hd:0 < r.data.1
      · have d1:decide (0 < (r.data.1:Int)) = true:=by simp;omega
        obtain ⟨b0,h0⟩:∃ b,((r.data.1:Int) == r.length) = b:=⟨_,rfl⟩;obtain ⟨b1,h1⟩:∃ b,((r.rows.1:Int) == 0) = b:=⟨_,rfl⟩
        have HE:Hid (ItemP s r ↔ (b0 = true ∧ b1 = true)):=by
          show ItemP s r ↔ _
          rw [← h0,← h1];unfold ItemP;have:=HL.out;have:=HOK.out
          constructor
          · rintro (h | ⟨_,_,_,h | h⟩)
            · omega
            · simp;omega
            · omega
          · intro h
            simp at h
            exact .inr ⟨by omega,by omega,by omega,.inl ⟨hd,h.1,h.2⟩⟩
        have hst:b0 = false ∨ (b0 = true ∧ b1 = false) ∨ (b0 = true ∧ b1 = true):=by
          clear HE h0 h1
          cases b0 <;> simp
        clear hok
        rcases hst with rfl | ⟨rfl,rfl⟩ | ⟨rfl,rfl⟩
        all_goals
          go_wp2;go_ret
          first
            | exact boolNo rfl (fun h => by have:=HE.out.1 h;simp at this) HT2.out.bel
            | exact boolYes rfl (HE.out.2 (by simp)) HT2.out.bel
      · have d1:decide (0 < (r.data.1:Int)) = false:=by simp;omega
        have hd0:r.data.1 = 0:=by omega
        obtain ⟨t2,h2⟩:=exB (ApartP r.rows.1 r.rows.2 (s 4 - 1));have cQ:=det_b (differWithin_any _ r.rows.1 r.rows.2 hi (s 4) (by omega) (by omega) W2 (H6.out.below HT2.out.bel hhi) HCP.out (Nat.le_trans hhi HT2.out.bel.size)) h2;obtain ⟨b0,h0⟩:∃ b,((r.rows.1:Int) == pv) = b:=⟨_,rfl⟩
        have HE:Hid (ItemP s r ↔ (b0 = true ∧ t2 = true)):=by
          show ItemP s r ↔ _
          rw [← h0,h2,HPV.out];unfold ItemP;have:=HL.out;have:=HOK.out
          constructor
          · rintro (h | ⟨_,_,_,h | h⟩)
            · omega
            · omega
            · exact ⟨by simpa using h.2.1,h.2.2⟩
          · intro h
            exact .inr ⟨by omega,by omega,by omega,.inr ⟨hd0,by simpa using h.1,h.2⟩⟩
        clear hok h2 hd0
        cases b0 with
        | false =>
          go_wp2;go_ret;exact boolNo rfl (fun h => by have:=HE.out.1 h;simp at this) HT2.out.bel
        | true =>
          go_wp2_with fail
          refine cQ.mono ?_;rintro e w3 ⟨rfl,b3⟩;have HB3:Hid (Below w.heap.size w w3):=(HT2.out.call b3).bel;clear b3 cQ;go_wp2;go_ret
          cases t2 with
          | true => exact boolYes rfl (HE.out.2 (by simp)) HB3.out
          | false => exact boolNo rfl (fun h => by have:=HE.out.1 h;simp at this) HB3.out
    · have hc0:(pc != 0) = true:=by
        have:pc ≠ 0:=by
          rcases hp with ⟨h1,h2,_⟩ | ⟨_,h1,h2,_⟩ | ⟨_,h1,h2,h3,_⟩ | ⟨_,h1,h2,h3,_⟩
          · omega
          · omega
          · omega
          · omega
        simp [this]
      have HNO:Hid (¬ ItemP s r):=fun h => by
        have:=HL.out;unfold ItemP at h;omega
      clear hp hok;go_wp2;go_ret;exact boolNo rfl HNO.out HT2.out.bel
end Go.Proofs.YtbjblbbbafiepaaGreat
namespace Go.Proofs.YtbjblbbbafiepaaGreat
open Go.RowKit F256
def leastN (g:Nat → Int):Nat → Int
  | 0 => 0
  | k + 1 => g k + 1
theorem rise_next {g:Nat → Int} {most:Int} {k:Nat} (h:RiseP k g most) (h1:leastN g k ≤ g k) (h2:g k ≤ most):RiseP (k + 1) g most:=fun i hi => by
  by_cases c:i = k
  · subst c
    cases i with
    | zero => exact ⟨h1,h2,fun h0 => by omega⟩
    | succ j =>
      have:=(h j (by omega)).1
      simp only [leastN] at h1
      exact ⟨by omega,h2,fun _ => by rw [show j + 1 - 1 = j by omega];omega⟩
  · exact h i (by omega)
theorem rise_least {g:Nat → Int} {most:Int} {n k:Nat} (h:RiseP n g most) (hk:k < n):leastN g k ≤ g k:=by
  cases k with
  | zero => exact (h 0 hk).1
  | succ j =>
    have:=(h (j + 1) hk).2.2 (by omega);rw [show j + 1 - 1 = j by omega] at this
    simp only [leastN]
    omega
set_option maxHeartbeats 2000000 in
theorem risesWithin_any (v:Value) (n:Nat) (g:Nat → Int) (hi:Nat) (bound:Int) (hb:bound ≤ 1000000) (w:World) (r:RdI w hi v n g) :
    Calls Tryz.prog 152 #[v,.int .i64 bound] w (BoolP (RiseP n g (bound - 1)) w):=by
  obtain ⟨ao,cap,rfl,hm,hc⟩:=r;unfold maxLen at hm
  go_enter Tryz.func152,Tryz.ntmps152
  go_wp2
  go_loop [5,10] (fun l i => ∃ k:Nat,k ≤ n ∧ i = .int .i64 k ∧ l = .int .i64 (leastN g k) ∧ RiseP k g (bound - 1)) (fun _ i => n - (intOf i).toNat)
  case atStart => exact ⟨0,Nat.zero_le _,rfl,rfl,fun i hi => by omega⟩
  case round =>
    obtain ⟨k,hk,rfl,rfl,hall⟩:=hrel;have HALL:Hid (RiseP k g (bound - 1)):=hall;clear hall
    by_cases hlt:k < n
    · obtain ⟨b,off,rfl,hblt,hcell⟩:=hc (by omega)
      have hck:w.cell? ⟨b,off + k,none⟩ = some (.int .i64 (g k)):=hcell k hlt;obtain ⟨x,hx⟩:∃ x,x = g k:=⟨_,rfl⟩;have HX:Hid (x = g k):=hx;rw [← hx] at hck;obtain ⟨l,hl⟩:∃ l,l = leastN g k:=⟨_,rfl⟩;have HL:Hid (l = leastN g k):=hl;rw [← hl]
      have hl0:0 ≤ l:=by
        rw [hl]
        cases k with
        | zero => exact Int.le_refl _
        | succ j =>
          have:=(HALL.out j (by omega)).1
          simp only [leastN]
          omega
      clear hc hcell hx hl
      by_cases h1:x < l
      · have HNO:Hid (¬ RiseP n g (bound - 1)):=fun h => by
          have:=rise_least h hlt;rw [← HX.out,← HL.out] at this;omega
        go_wp2;go_ret;exact boolNo rfl HNO.out (Below.refl _ _)
      · have e1:decide (x < l) = false:=by simp;omega
        by_cases h2:bound ≤ x
        · have HNO:Hid (¬ RiseP n g (bound - 1)):=fun h => by
            have:=(h k hlt).2.1;rw [← HX.out] at this;omega
          clear h1;go_wp2;go_ret;exact boolNo rfl HNO.out (Below.refl _ _)
        · have e2:decide (bound ≤ x) = false:=by simp;omega
          have HRN:Hid (RiseP (k + 1) g (bound - 1)):=rise_next HALL.out (by rw [← HX.out,← HL.out];omega) (by rw [← HX.out];omega)
          have hxb:x ≤ 1000000:=by omega
          have hx0:0 ≤ x:=by omega
          have HLN:Hid (x + 1 = leastN g (k + 1)):=by show x + 1 = g k + 1;rw [HX.out]
          have wadd:IntKind.i64.wrap (x + 1) = x + 1:=by rw [IntKind.wrap_i64];omega
          clear h1 h2;go_wp2
          go_round
          case rel => exact ⟨k + 1,by omega,by go_num,by rw [← HLN.out],HRN.out⟩
          case measure => simp [intOf];omega
    · obtain rfl:k = n:=by omega
      clear hc;go_wp2;go_ret;exact boolYes rfl HALL.out (Below.refl _ _)
end Go.Proofs.YtbjblbbbafiepaaGreat