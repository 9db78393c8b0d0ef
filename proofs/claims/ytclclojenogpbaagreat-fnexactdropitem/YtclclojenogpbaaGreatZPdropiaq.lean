/- Walk of the specification's l5Strike. -/
import Derived.Test.YtclclojenogpbaaGreatZPdropiap
set_option linter.unusedVariables false
set_option linter.unusedSimpArgs false
set_option maxHeartbeats 16000000
namespace Go.Proofs.YtclclojenogpbaaGreat
open Go.RowKit F256
set_option maxRecDepth 20000 in
theorem zlF (R pv E:Nat) (l o m:Int) (y0 y1 y2 y3 y4 y5 y6 y7 y8 yp0 yl0 yq0 yp1 yl1 yq1 yp2 yl2 yq2 y9 y10 yb:_) (w:World) (hR:Box w R #[.int .i64 0,.int .i64 0,.int .i64 0,.int .i64 0,.int .i64 0,.int .i64 0,.int .i64 0,.int .i64 0,.int .i64 0,.int .i64 0,.slice none 0 0,.slice none 0 0,.slice none 0 0,.int .i64 0,.int .i64 0,.bool false] 46) (hp:w.cell? ⟨pv,0,none⟩=some (.pointer (some ⟨E,0,none⟩))) (hX:Box w E #[.int .i32 l,.int .u32 0,.int .u32 o,.int .i32 m,.int .u32 0,.int .i64 y0,.int .i64 y1,.int .i64 y2,.int .i64 y3,.int .i64 y4,.int .i64 y5,.int .i64 y6,.int .i64 y7,.int .i64 y8,.slice yp0 yl0 yq0,.slice yp1 yl1 yq1,.slice yp2 yl2 yq2,.int .i64 y9,.int .i64 y10,.bool yb] 149) (hRE:R≠E) (hRp:R≠pv) :
 CallsD Tryz.prog 130 #[.pointer (some ⟨R,0,none⟩),.pointer (some ⟨pv,0,none⟩)] .returning w fun e u' w'=>e=.returned (.tuple #[])∧u'=.returning∧Box w' R #[.int .i64 0,.int .i64 y0,.int .i64 y1,.int .i64 y2,.int .i64 y3,.int .i64 y4,.int .i64 y5,.int .i64 y6,.int .i64 y7,.int .i64 y8,.slice yp0 yl0 yq0,.slice yp1 yl1 yq1,.slice yp2 yl2 yq2,.int .i64 y9,.int .i64 y10,.bool yb] 46∧ChgL [R] w w':=by
 have x_5:w.cell? ⟨E,5,none⟩=some (.int .i64 y0):=hX.cell 5;have x_6:w.cell? ⟨E,6,none⟩=some (.int .i64 y1):=hX.cell 6;have x_7:w.cell? ⟨E,7,none⟩=some (.int .i64 y2):=hX.cell 7;have x_8:w.cell? ⟨E,8,none⟩=some (.int .i64 y3):=hX.cell 8;have x_9:w.cell? ⟨E,9,none⟩=some (.int .i64 y4):=hX.cell 9;have x_10:w.cell? ⟨E,10,none⟩=some (.int .i64 y5):=hX.cell 10;have x_11:w.cell? ⟨E,11,none⟩=some (.int .i64 y6):=hX.cell 11;have x_12:w.cell? ⟨E,12,none⟩=some (.int .i64 y7):=hX.cell 12;have x_13:w.cell? ⟨E,13,none⟩=some (.int .i64 y8):=hX.cell 13;have x_14:w.cell? ⟨E,14,none⟩=some (.slice yp0 yl0 yq0):=hX.cell 14;have x_15:w.cell? ⟨E,15,none⟩=some (.slice yp1 yl1 yq1):=hX.cell 15;have x_16:w.cell? ⟨E,16,none⟩=some (.slice yp2 yl2 yq2):=hX.cell 16;have x_17:w.cell? ⟨E,17,none⟩=some (.int .i64 y9):=hX.cell 17;have x_18:w.cell? ⟨E,18,none⟩=some (.int .i64 y10):=hX.cell 18;have x_19:w.cell? ⟨E,19,none⟩=some (.bool yb):=hX.cell 19;have R1:=hR;have X1:=hX;have hp1:=hp;have C1:ChgL [R] w w:=ChgL.refl _ _;refine callsD_of_wpS Tryz.func130 rfl fun c₀ cs hu=>?_
 apply wpS_seq
 apply wpS_seq
 apply wpS_region
 simp [wpOpsS,go_sem,recoverD,hu,Tryz.ntmps130,Exit.thenS]
 refine wpS_cond (t:=false) (by simp [Act.eval,Array.replicate]) ?_
 simp only [Bool.false_eq_true,if_false]
 refine wpS_of_wp (wp_skip ?_)
 simp only [Exit.thenS]
 clear hR hX hp;refine wpS_of_wp ?_;have e_5:w.cell? ⟨E,5,none⟩=some (.int .i64 y0):=X1.cell 5;have e_6:w.cell? ⟨E,6,none⟩=some (.int .i64 y1):=X1.cell 6;have e_7:w.cell? ⟨E,7,none⟩=some (.int .i64 y2):=X1.cell 7;have e_8:w.cell? ⟨E,8,none⟩=some (.int .i64 y3):=X1.cell 8;have e_9:w.cell? ⟨E,9,none⟩=some (.int .i64 y4):=X1.cell 9;have e_10:w.cell? ⟨E,10,none⟩=some (.int .i64 y5):=X1.cell 10;have e_11:w.cell? ⟨E,11,none⟩=some (.int .i64 y6):=X1.cell 11;have e_12:w.cell? ⟨E,12,none⟩=some (.int .i64 y7):=X1.cell 12;have e_13:w.cell? ⟨E,13,none⟩=some (.int .i64 y8):=X1.cell 13;have e_14:w.cell? ⟨E,14,none⟩=some (.slice yp0 yl0 yq0):=X1.cell 14;have e_15:w.cell? ⟨E,15,none⟩=some (.slice yp1 yl1 yq1):=X1.cell 15;have e_16:w.cell? ⟨E,16,none⟩=some (.slice yp2 yl2 yq2):=X1.cell 16;have e_17:w.cell? ⟨E,17,none⟩=some (.int .i64 y9):=X1.cell 17;have e_18:w.cell? ⟨E,18,none⟩=some (.int .i64 y10):=X1.cell 18;have e_19:w.cell? ⟨E,19,none⟩=some (.bool yb):=X1.cell 19;have r_1:w.cell? ⟨R,1,none⟩=some (.int .i64 0):=R1.cell 1;have rf_1:w.frozen? ⟨R,1,none⟩=false:=R1.frozen 1;have r_2:w.cell? ⟨R,2,none⟩=some (.int .i64 0):=R1.cell 2;have rf_2:w.frozen? ⟨R,2,none⟩=false:=R1.frozen 2;have r_3:w.cell? ⟨R,3,none⟩=some (.int .i64 0):=R1.cell 3;have rf_3:w.frozen? ⟨R,3,none⟩=false:=R1.frozen 3;have r_4:w.cell? ⟨R,4,none⟩=some (.int .i64 0):=R1.cell 4;have rf_4:w.frozen? ⟨R,4,none⟩=false:=R1.frozen 4;have r_5:w.cell? ⟨R,5,none⟩=some (.int .i64 0):=R1.cell 5;have rf_5:w.frozen? ⟨R,5,none⟩=false:=R1.frozen 5;have r_6:w.cell? ⟨R,6,none⟩=some (.int .i64 0):=R1.cell 6;have rf_6:w.frozen? ⟨R,6,none⟩=false:=R1.frozen 6;have r_7:w.cell? ⟨R,7,none⟩=some (.int .i64 0):=R1.cell 7;have rf_7:w.frozen? ⟨R,7,none⟩=false:=R1.frozen 7;have r_8:w.cell? ⟨R,8,none⟩=some (.int .i64 0):=R1.cell 8;have rf_8:w.frozen? ⟨R,8,none⟩=false:=R1.frozen 8;have r_9:w.cell? ⟨R,9,none⟩=some (.int .i64 0):=R1.cell 9;have rf_9:w.frozen? ⟨R,9,none⟩=false:=R1.frozen 9;have r_10:w.cell? ⟨R,10,none⟩=some (.slice none 0 0):=R1.cell 10;have rf_10:w.frozen? ⟨R,10,none⟩=false:=R1.frozen 10;have r_11:w.cell? ⟨R,11,none⟩=some (.slice none 0 0):=R1.cell 11;have rf_11:w.frozen? ⟨R,11,none⟩=false:=R1.frozen 11;have r_12:w.cell? ⟨R,12,none⟩=some (.slice none 0 0):=R1.cell 12;have rf_12:w.frozen? ⟨R,12,none⟩=false:=R1.frozen 12;have r_13:w.cell? ⟨R,13,none⟩=some (.int .i64 0):=R1.cell 13;have rf_13:w.frozen? ⟨R,13,none⟩=false:=R1.frozen 13;have r_14:w.cell? ⟨R,14,none⟩=some (.int .i64 0):=R1.cell 14;have rf_14:w.frozen? ⟨R,14,none⟩=false:=R1.frozen 14;have r_15:w.cell? ⟨R,15,none⟩=some (.bool false):=R1.cell 15;have rf_15:w.frozen? ⟨R,15,none⟩=false:=R1.frozen 15;have R2:Box (stN w R 1 (rwV y0 y1 y2 y3 y4 y5 y6 y7 y8 yp0 yl0 yq0 yp1 yl1 yq1 yp2 yl2 yq2 y9 y10 yb)) R (.int .i64 0::rwV y0 y1 y2 y3 y4 y5 y6 y7 y8 yp0 yl0 yq0 yp1 yl1 yq1 yp2 yl2 yq2 y9 y10 yb).toArray 46:=R1.stL (rwV y0 y1 y2 y3 y4 y5 y6 y7 y8 yp0 yl0 yq0 yp1 yl1 yq1 yp2 yl2 yq2 y9 y10 yb) 1
 have C2':ChgL [R] w (stN w R 1 (rwV y0 y1 y2 y3 y4 y5 y6 y7 y8 yp0 yl0 yq0 yp1 yl1 yq1 yp2 yl2 yq2 y9 y10 yb)):=C1.trans ⟨(zbp R _ w 1).1,(zbp R _ w 1).2.1,(zbp R _ w 1).2.2,Nat.le_of_eq (zbP R _ w 1).symm,fun b _ hb=>zbX R b (fun hh=>hb (by simp [hh])) _ w 1⟩;clear R1 X1 C1  x_5 x_6 x_7 x_8 x_9 x_10 x_11 x_12 x_13 x_14 x_15 x_16 x_17 x_18 x_19;go_wp2;exact ⟨rfl,_,by cases c₀;simp_all,_,results_none rfl _ _ _,rfl,rfl,R2,C2'⟩
set_option maxRecDepth 20000 in
theorem zkv (u:TypeId) (pvv:Value) (R pv E:Nat) (l o m:Int) (y0 y1 y2 y3 y4 y5 y6 y7 y8 yp0 yl0 yq0 yp1 yl1 yq1 yp2 yl2 yq2 y9 y10 yb:_) (w:World) (hR:Box w R #[.int .i64 0,.int .i64 0,.int .i64 0,.int .i64 0,.int .i64 0,.int .i64 0,.int .i64 0,.int .i64 0,.int .i64 0,.int .i64 0,.slice none 0 0,.slice none 0 0,.slice none 0 0,.int .i64 0,.int .i64 0,.bool false] 46) (hp:w.cell? ⟨pv,0,none⟩=some (.pointer (some ⟨E,0,none⟩))) (hX:Box w E #[.int .i32 l,.int .u32 0,.int .u32 o,.int .i32 m,.int .u32 0,.int .i64 y0,.int .i64 y1,.int .i64 y2,.int .i64 y3,.int .i64 y4,.int .i64 y5,.int .i64 y6,.int .i64 y7,.int .i64 y8,.slice yp0 yl0 yq0,.slice yp1 yl1 yq1,.slice yp2 yl2 yq2,.int .i64 y9,.int .i64 y10,.bool yb] 149) (hRE:R≠E) (hRp:R≠pv) :
 CallsD Tryz.prog 130 #[.pointer (some ⟨R,0,none⟩),.pointer (some ⟨pv,0,none⟩)] (.panicking [{ v:=.iface u pvv,recovered:=false }]) w fun e u' w'=>e=.returned (.tuple #[])∧u'=(.panicking [{ v:=.iface u pvv,recovered:=true }])∧Box w' R #[.int .i64 9,.int .i64 y0,.int .i64 y1,.int .i64 y2,.int .i64 y3,.int .i64 y4,.int .i64 y5,.int .i64 y6,.int .i64 y7,.int .i64 y8,.slice yp0 yl0 yq0,.slice yp1 yl1 yq1,.slice yp2 yl2 yq2,.int .i64 y9,.int .i64 y10,.bool yb] 46∧ChgL [R] w w':=by
 have x_5:w.cell? ⟨E,5,none⟩=some (.int .i64 y0):=hX.cell 5;have x_6:w.cell? ⟨E,6,none⟩=some (.int .i64 y1):=hX.cell 6;have x_7:w.cell? ⟨E,7,none⟩=some (.int .i64 y2):=hX.cell 7;have x_8:w.cell? ⟨E,8,none⟩=some (.int .i64 y3):=hX.cell 8;have x_9:w.cell? ⟨E,9,none⟩=some (.int .i64 y4):=hX.cell 9;have x_10:w.cell? ⟨E,10,none⟩=some (.int .i64 y5):=hX.cell 10;have x_11:w.cell? ⟨E,11,none⟩=some (.int .i64 y6):=hX.cell 11;have x_12:w.cell? ⟨E,12,none⟩=some (.int .i64 y7):=hX.cell 12;have x_13:w.cell? ⟨E,13,none⟩=some (.int .i64 y8):=hX.cell 13;have x_14:w.cell? ⟨E,14,none⟩=some (.slice yp0 yl0 yq0):=hX.cell 14;have x_15:w.cell? ⟨E,15,none⟩=some (.slice yp1 yl1 yq1):=hX.cell 15;have x_16:w.cell? ⟨E,16,none⟩=some (.slice yp2 yl2 yq2):=hX.cell 16;have x_17:w.cell? ⟨E,17,none⟩=some (.int .i64 y9):=hX.cell 17;have x_18:w.cell? ⟨E,18,none⟩=some (.int .i64 y10):=hX.cell 18;have x_19:w.cell? ⟨E,19,none⟩=some (.bool yb):=hX.cell 19;have R1:Box (w.setCell ⟨R,0,none⟩ (.int .i64 9)) R (.int .i64 9::rwY).toArray 46:=hR.setc 0 _;have C1:ChgL [R] w (w.setCell ⟨R,0,none⟩ (.int .i64 9)):=(ChgL.refl _ _).st _ 0 _ (by simp);have X1:Box (w.setCell ⟨R,0,none⟩ (.int .i64 9)) E #[.int .i32 l,.int .u32 0,.int .u32 o,.int .i32 m,.int .u32 0,.int .i64 y0,.int .i64 y1,.int .i64 y2,.int .i64 y3,.int .i64 y4,.int .i64 y5,.int .i64 y6,.int .i64 y7,.int .i64 y8,.slice yp0 yl0 yq0,.slice yp1 yl1 yq1,.slice yp2 yl2 yq2,.int .i64 y9,.int .i64 y10,.bool yb] 149:=hX.seto 0 _ (fun h=>hRE h.symm);have hp1:(w.setCell ⟨R,0,none⟩ (.int .i64 9)).cell? ⟨pv,0,none⟩=some (.pointer (some ⟨E,0,none⟩)):=(World.cell?_setCell_other _ ⟨R,0,none⟩ ⟨pv,0,none⟩ _ (by simp [hRp])).trans hp;have r0:w.cell? ⟨R,0,none⟩=some (.int .i64 0):=hR.cell 0;have rf0:w.frozen? ⟨R,0,none⟩=false:=hR.frozen 0;refine callsD_of_wpS Tryz.func130 rfl fun c₀ cs hu=>?_
 apply wpS_seq
 apply wpS_seq
 apply wpS_region
 simp [wpOpsS,go_sem,recoverD,hu,Tryz.ntmps130,Exit.thenS]
 refine wpS_cond (t:=true) (by simp [Act.eval,Array.replicate]) ?_
 simp only [if_true]
 apply wpS_region
 simp [wpOpsS,go_sem,r0,rf0,Exit.thenS]
 clear r0 rf0 hR hX hp;refine wpS_of_wp ?_;obtain ⟨W,hW⟩:∃ x,x=(w.setCell ⟨R,0,none⟩ (.int .i64 9)):=⟨_,rfl⟩;rw [← hW] at R1 X1 hp1 C1 ⊢;have e_5:W.cell? ⟨E,5,none⟩=some (.int .i64 y0):=X1.cell 5;have e_6:W.cell? ⟨E,6,none⟩=some (.int .i64 y1):=X1.cell 6;have e_7:W.cell? ⟨E,7,none⟩=some (.int .i64 y2):=X1.cell 7;have e_8:W.cell? ⟨E,8,none⟩=some (.int .i64 y3):=X1.cell 8;have e_9:W.cell? ⟨E,9,none⟩=some (.int .i64 y4):=X1.cell 9;have e_10:W.cell? ⟨E,10,none⟩=some (.int .i64 y5):=X1.cell 10;have e_11:W.cell? ⟨E,11,none⟩=some (.int .i64 y6):=X1.cell 11;have e_12:W.cell? ⟨E,12,none⟩=some (.int .i64 y7):=X1.cell 12;have e_13:W.cell? ⟨E,13,none⟩=some (.int .i64 y8):=X1.cell 13;have e_14:W.cell? ⟨E,14,none⟩=some (.slice yp0 yl0 yq0):=X1.cell 14;have e_15:W.cell? ⟨E,15,none⟩=some (.slice yp1 yl1 yq1):=X1.cell 15;have e_16:W.cell? ⟨E,16,none⟩=some (.slice yp2 yl2 yq2):=X1.cell 16;have e_17:W.cell? ⟨E,17,none⟩=some (.int .i64 y9):=X1.cell 17;have e_18:W.cell? ⟨E,18,none⟩=some (.int .i64 y10):=X1.cell 18;have e_19:W.cell? ⟨E,19,none⟩=some (.bool yb):=X1.cell 19;have r_1:W.cell? ⟨R,1,none⟩=some (.int .i64 0):=R1.cell 1;have rf_1:W.frozen? ⟨R,1,none⟩=false:=R1.frozen 1;have r_2:W.cell? ⟨R,2,none⟩=some (.int .i64 0):=R1.cell 2;have rf_2:W.frozen? ⟨R,2,none⟩=false:=R1.frozen 2;have r_3:W.cell? ⟨R,3,none⟩=some (.int .i64 0):=R1.cell 3;have rf_3:W.frozen? ⟨R,3,none⟩=false:=R1.frozen 3;have r_4:W.cell? ⟨R,4,none⟩=some (.int .i64 0):=R1.cell 4;have rf_4:W.frozen? ⟨R,4,none⟩=false:=R1.frozen 4;have r_5:W.cell? ⟨R,5,none⟩=some (.int .i64 0):=R1.cell 5;have rf_5:W.frozen? ⟨R,5,none⟩=false:=R1.frozen 5;have r_6:W.cell? ⟨R,6,none⟩=some (.int .i64 0):=R1.cell 6;have rf_6:W.frozen? ⟨R,6,none⟩=false:=R1.frozen 6;have r_7:W.cell? ⟨R,7,none⟩=some (.int .i64 0):=R1.cell 7;have rf_7:W.frozen? ⟨R,7,none⟩=false:=R1.frozen 7;have r_8:W.cell? ⟨R,8,none⟩=some (.int .i64 0):=R1.cell 8;have rf_8:W.frozen? ⟨R,8,none⟩=false:=R1.frozen 8;have r_9:W.cell? ⟨R,9,none⟩=some (.int .i64 0):=R1.cell 9;have rf_9:W.frozen? ⟨R,9,none⟩=false:=R1.frozen 9;have r_10:W.cell? ⟨R,10,none⟩=some (.slice none 0 0):=R1.cell 10;have rf_10:W.frozen? ⟨R,10,none⟩=false:=R1.frozen 10;have r_11:W.cell? ⟨R,11,none⟩=some (.slice none 0 0):=R1.cell 11;have rf_11:W.frozen? ⟨R,11,none⟩=false:=R1.frozen 11;have r_12:W.cell? ⟨R,12,none⟩=some (.slice none 0 0):=R1.cell 12;have rf_12:W.frozen? ⟨R,12,none⟩=false:=R1.frozen 12;have r_13:W.cell? ⟨R,13,none⟩=some (.int .i64 0):=R1.cell 13;have rf_13:W.frozen? ⟨R,13,none⟩=false:=R1.frozen 13;have r_14:W.cell? ⟨R,14,none⟩=some (.int .i64 0):=R1.cell 14;have rf_14:W.frozen? ⟨R,14,none⟩=false:=R1.frozen 14;have r_15:W.cell? ⟨R,15,none⟩=some (.bool false):=R1.cell 15
 have rf_15:W.frozen? ⟨R,15,none⟩=false:=R1.frozen 15;have R2:Box (stN W R 1 (rwV y0 y1 y2 y3 y4 y5 y6 y7 y8 yp0 yl0 yq0 yp1 yl1 yq1 yp2 yl2 yq2 y9 y10 yb)) R (.int .i64 9::rwV y0 y1 y2 y3 y4 y5 y6 y7 y8 yp0 yl0 yq0 yp1 yl1 yq1 yp2 yl2 yq2 y9 y10 yb).toArray 46:=R1.stL (rwV y0 y1 y2 y3 y4 y5 y6 y7 y8 yp0 yl0 yq0 yp1 yl1 yq1 yp2 yl2 yq2 y9 y10 yb) 1;have C2':ChgL [R] w (stN W R 1 (rwV y0 y1 y2 y3 y4 y5 y6 y7 y8 yp0 yl0 yq0 yp1 yl1 yq1 yp2 yl2 yq2 y9 y10 yb)):=C1.trans ⟨(zbp R _ W 1).1,(zbp R _ W 1).2.1,(zbp R _ W 1).2.2,Nat.le_of_eq (zbP R _ W 1).symm,fun b _ hb=>zbX R b (fun hh=>hb (by simp [hh])) _ W 1⟩;clear R1 X1 C1 hW x_5 x_6 x_7 x_8 x_9 x_10 x_11 x_12 x_13 x_14 x_15 x_16 x_17 x_18 x_19;go_wp2;exact ⟨rfl,_,rfl,_,results_none rfl _ _ _,rfl,rfl,R2,C2'⟩
set_option maxRecDepth 20000 in
theorem zh0:ToV zaj zaQ 234:=fun cs d hi w r hhi hn=>by
 obtain ⟨ao1,cap1,rfl,h1,k0⟩:=zbw r;clear r;unfold zaQ at hn;have R1:=hid h1;clear h1;have Q0:=hid k0;clear k0;have T0:=zax w #[.int .i64 d.stamp,.slice ao1 d.bytes.1 cap1] #[.int .i64 0,.slice none 0 0] 126 126
 go_enter Tryz.func234,Tryz.ntmps234
 go_wp2_with fail
 refine (zdp _ d.bytes hi _ (zaf.rd_below R1.out T0.bel hhi) (Nat.le_trans hhi T0.bel.size) (by omega)).mono ?_;rintro e w1 ⟨v0,rfl,o0,b0⟩;obtain ⟨bo1,bcap1,hv⟩:=zbv o0;obtain rfl:=za2 hv;clear hv;have T0c:=T0.call b0;have z0:=T0.b2.lt;have y0:=b0.size;have c0_1:w1.cell? ⟨w.heap.size,1,none⟩=some (.slice ao1 d.bytes.1 cap1):=T0c.b1.cell 1;have c0f_1:w1.frozen? ⟨w.heap.size,1,none⟩=false:=T0c.b1.frozen 1;have T1x:Two w (w1.setCell ⟨w.heap.size,1,none⟩ (.slice bo1 d.bytes.1 bcap1)) #[.int .i64 d.stamp,.slice bo1 d.bytes.1 bcap1] #[.int .i64 0,.slice none 0 0] 126 126:=⟨T0c.b1.stL [.slice bo1 d.bytes.1 bcap1] 1,T0c.b2.seto _ _ (by omega),T0c.bel.setCell (Nat.le_refl _) _⟩;have O1_0:=(o0.stN w.heap.size 1 [.slice bo1 d.bytes.1 bcap1] (by omega))
 have e1:(w1.setCell ⟨w.heap.size,1,none⟩ (.slice bo1 d.bytes.1 bcap1)).heap.size=w1.heap.size:=by simp
 clear o0 b0
 go_upto_region 2 with fail
 obtain ⟨W1,hW1⟩:∃ x,x=w1.setCell ⟨w.heap.size,1,none⟩ (.slice bo1 d.bytes.1 bcap1):=⟨_,rfl⟩
 have O1:Hid (OwnT zaf W1 (w.heap.size+1+1) (w1.heap.size) d.bytes [.slice bo1 d.bytes.1 bcap1]):=by rw [hW1];exact OwnT.weaken O1_0 (by simp) (Nat.le_refl _)
 rw [← hW1] at T1x e1 ⊢;clear hW1 O1_0 T0c c0_1 c0f_1;have y_0:W1.cell? ⟨w.heap.size,0,none⟩=some (.int .i64 d.stamp):=T1x.b1.cell 0;have y_1:W1.cell? ⟨w.heap.size,1,none⟩=some (.slice bo1 d.bytes.1 bcap1):=T1x.b1.cell 1;have r_0:W1.cell? ⟨w.heap.size+1,0,none⟩=some (.int .i64 0):=T1x.b2.cell 0;have rf_0:W1.frozen? ⟨w.heap.size+1,0,none⟩=false:=T1x.b2.frozen 0;have r_1:W1.cell? ⟨w.heap.size+1,1,none⟩=some (.slice none 0 0):=T1x.b2.cell 1;have rf_1:W1.frozen? ⟨w.heap.size+1,1,none⟩=false:=T1x.b2.frozen 1;have HB:=hid T1x.bel;have zz:=T1x.b2.lt;clear T1x;go_wp2;refine bodyPost_ret (v:=.agg #[.int .i64 d.stamp,.slice bo1 d.bytes.1 bcap1]) (by simp [results,Tryz.results234,go_sem,r_0,y_0,r_1,y_1]) rfl ?_;have F:OwnT zaj W1 (w.heap.size+1+1) w1.heap.size d ([.int .i64 d.stamp]++[.slice bo1 d.bytes.1 bcap1]):=OwnT.conv (OwnT.pre (A:=layI) (a:=d.stamp) (c:=[.int .i64 d.stamp]) ⟨rfl,Q0.out,rfl⟩ O1.out);refine ⟨[.int .i64 d.stamp,.slice bo1 d.bytes.1 bcap1],rfl,?_,?_⟩
 ·exact OwnT.finb (F.weaken (Nat.le_refl _) (by omega)) (b:=w.heap.size+1) (by omega) (by omega) 0 [.int .i64 d.stamp,.slice bo1 d.bytes.1 bcap1] _ rfl
 ·exact HB.out.trans (za1 (by omega) [.int .i64 d.stamp,.slice bo1 d.bytes.1 bcap1] 0)
set_option maxRecDepth 20000 in
theorem zg0:ToF (zaj.slice 126) (szSl zaQ) 233 234:=fun v d hi w h hhi hn=>by
 obtain ⟨n,x⟩:=d;obtain ⟨ao,cap,hv,hm,hc⟩:=h
 cases hv
 have hn1:=zcx hn;have hn2:∀ i,i<n→zaQ (x i)≤1048576:=fun i hi=>zbC hn hi
 simp only at hn1 hm hc
 clear hn
 go_enter Tryz.func233,Tryz.ntmps233
 go_wp2_with (at_make;refine zcg zaj [.int .i64 0,.slice none 0 0] _ 126 32 (zgy).hs rfl Tryz.underlying122 (zgy).hi x (fun _=>[]) _ rfl _ _ rfl _ _ n rfl rfl rfl rfl (by omega) (by omega) ?_;intro w1 sp1 hb1)
 go_loopw [12] (fun i wr=>∃ k:Nat,k≤n∧i=.int .i64 k∧∃ ce Ls,SlP zaj 126 wr w.heap.size w.heap.size n n k x ce Ls∧Below w.heap.size w wr) (fun i _=>n-(intOf i).toNat)
 case atStart=>exact ⟨0,Nat.zero_le _,rfl,_,_,sp1,hb1⟩
 case round=>
  clear sp1 hb1;obtain ⟨k,hk,rfl,ce,Ls,sp,hb⟩:=hrel
  by_cases hlt:k<n
  ·obtain ⟨b,off,rfl,hblt,hel⟩:=hc (by omega)
   obtain ⟨ck,hrk,hcell⟩:=zat (t:=0) hel hb hhi hblt hlt;obtain ⟨ao1,cap1,rfl,-⟩:=zbw hrk;have c0:wr.cell? ⟨b,off+k*2,none⟩=some (.int .i64 (x k).stamp):=hcell 0 (by decide);have c1:wr.cell? ⟨b,off+k*2+1,none⟩=some (.slice ao1 (x k).bytes.1 cap1):=hcell 1 (by decide);clear hc hel hcell
   go_wp2_with fail
   refine (zh0 _ (x k) hi wr hrk (Nat.le_trans hhi hb.size) (hn2 k hlt)).mono ?_;rintro e w2 ⟨cs',rfl,o2,hb2⟩;obtain ⟨bao1,bcap1,rfl⟩:=zdL o2;obtain ⟨z0,s0⟩:=sp.some hb2 hlt (show 0<zaj.sz by decide);have s0:w2.cell? ⟨w.heap.size,k*2,none⟩=some z0:=s0;have sf0:=(sp.below hb2).frozen (k*2);obtain ⟨z1,s1⟩:=sp.some hb2 hlt (show 1<zaj.sz by decide);have s1:w2.cell? ⟨w.heap.size,k*2+1,none⟩=some z1:=s1;have sf1:=(sp.below hb2).frozen (k*2+1);have N:=sp.next hb2 hlt o2 hb.size;have N2:Below w.heap.size w (stN w2 w.heap.size (k*zaj.sz) [.int .i64 (x k).stamp,.slice bao1 (x k).bytes.1 bcap1]):=(hb.trans (hb2.mono hb.size)).trans (za1 (Nat.le_refl _) _ _);clear o2 hb2 sp hb
   go_wp2_with fail
   go_roundw
   case rel=>
    obtain ⟨ce',Ls',N⟩:=N;exact ⟨k+1,by omega,by go_num,ce',Ls',N,N2⟩
   case measure=>simp [intOf];omega
  ·obtain rfl:k=n:=by omega
   go_wp2;go_ret;exact ⟨_,rfl,sp.done (Nat.le_refl _),hb⟩
set_option maxRecDepth 20000 in
theorem zh1:ToV zae zau 210:=fun cs d hi w r hhi hn=>by
 obtain ⟨ao1,cap1,rfl,h1⟩:=zbE r;clear r;unfold zau at hn;have R1:=hid h1;clear h1;have T0:=zax w #[.bool d.wiped,.slice ao1 d.blocks.1 cap1] #[.bool false,.slice none 0 0] 124 124
 go_enter Tryz.func210,Tryz.ntmps210
 go_wp2_with fail
 refine (zg0 _ d.blocks hi _ ((zaj.slice 126).rd_below R1.out T0.bel hhi) (Nat.le_trans hhi T0.bel.size) (by omega)).mono ?_;rintro e w1 ⟨v0,rfl,o0,b0⟩;obtain ⟨bo1,bcap1,hv⟩:=zbZ o0;obtain rfl:=za2 hv;clear hv;have T0c:=T0.call b0;have z0:=T0.b2.lt;have y0:=b0.size;have c0_1:w1.cell? ⟨w.heap.size,1,none⟩=some (.slice ao1 d.blocks.1 cap1):=T0c.b1.cell 1;have c0f_1:w1.frozen? ⟨w.heap.size,1,none⟩=false:=T0c.b1.frozen 1;have T1x:Two w (w1.setCell ⟨w.heap.size,1,none⟩ (.slice bo1 d.blocks.1 bcap1)) #[.bool d.wiped,.slice bo1 d.blocks.1 bcap1] #[.bool false,.slice none 0 0] 124 124:=⟨T0c.b1.stL [.slice bo1 d.blocks.1 bcap1] 1,T0c.b2.seto _ _ (by omega),T0c.bel.setCell (Nat.le_refl _) _⟩;have O1_0:=(o0.stN w.heap.size 1 [.slice bo1 d.blocks.1 bcap1] (by omega))
 have e1:(w1.setCell ⟨w.heap.size,1,none⟩ (.slice bo1 d.blocks.1 bcap1)).heap.size=w1.heap.size:=by simp
 clear o0 b0
 go_upto_region 2 with fail
 obtain ⟨W1,hW1⟩:∃ x,x=w1.setCell ⟨w.heap.size,1,none⟩ (.slice bo1 d.blocks.1 bcap1):=⟨_,rfl⟩
 have O1:Hid (OwnT (zaj.slice 126) W1 (w.heap.size+1+1) (w1.heap.size) d.blocks [.slice bo1 d.blocks.1 bcap1]):=by rw [hW1];exact OwnT.weaken O1_0 (by simp) (Nat.le_refl _)
 rw [← hW1] at T1x e1 ⊢;clear hW1 O1_0 T0c c0_1 c0f_1;have y_0:W1.cell? ⟨w.heap.size,0,none⟩=some (.bool d.wiped):=T1x.b1.cell 0;have y_1:W1.cell? ⟨w.heap.size,1,none⟩=some (.slice bo1 d.blocks.1 bcap1):=T1x.b1.cell 1;have r_0:W1.cell? ⟨w.heap.size+1,0,none⟩=some (.bool false):=T1x.b2.cell 0;have rf_0:W1.frozen? ⟨w.heap.size+1,0,none⟩=false:=T1x.b2.frozen 0;have r_1:W1.cell? ⟨w.heap.size+1,1,none⟩=some (.slice none 0 0):=T1x.b2.cell 1;have rf_1:W1.frozen? ⟨w.heap.size+1,1,none⟩=false:=T1x.b2.frozen 1;have HB:=hid T1x.bel;have zz:=T1x.b2.lt;clear T1x;go_wp2;refine bodyPost_ret (v:=.agg #[.bool d.wiped,.slice bo1 d.blocks.1 bcap1]) (by simp [results,Tryz.results210,go_sem,r_0,y_0,r_1,y_1]) rfl ?_;have F:OwnT zae W1 (w.heap.size+1+1) w1.heap.size d ([.bool d.wiped]++[.slice bo1 d.blocks.1 bcap1]):=OwnT.conv (OwnT.pre (A:=layB) (a:=d.wiped) (c:=[.bool d.wiped]) ⟨rfl,trivial,rfl⟩ O1.out);refine ⟨[.bool d.wiped,.slice bo1 d.blocks.1 bcap1],rfl,?_,?_⟩
 ·exact OwnT.finb (F.weaken (Nat.le_refl _) (by omega)) (b:=w.heap.size+1) (by omega) (by omega) 0 [.bool d.wiped,.slice bo1 d.blocks.1 bcap1] _ rfl
 ·exact HB.out.trans (za1 (by omega) [.bool d.wiped,.slice bo1 d.blocks.1 bcap1] 0)
set_option maxRecDepth 20000 in
theorem zg1:ToF (zae.slice 124) (szSl zau) 209 210:=fun v d hi w h hhi hn=>by
 obtain ⟨n,x⟩:=d;obtain ⟨ao,cap,hv,hm,hc⟩:=h
 cases hv
 have hn1:=zcx hn;have hn2:∀ i,i<n→zau (x i)≤1048576:=fun i hi=>zbC hn hi
 simp only at hn1 hm hc
 clear hn
 go_enter Tryz.func209,Tryz.ntmps209
 go_wp2_with (at_make;refine zcg zae [.bool false,.slice none 0 0] _ 124 32 (zgz).hs rfl Tryz.underlying109 (zgz).hi x (fun _=>[]) _ rfl _ _ rfl _ _ n rfl rfl rfl rfl (by omega) (by omega) ?_;intro w1 sp1 hb1)
 go_loopw [12] (fun i wr=>∃ k:Nat,k≤n∧i=.int .i64 k∧∃ ce Ls,SlP zae 124 wr w.heap.size w.heap.size n n k x ce Ls∧Below w.heap.size w wr) (fun i _=>n-(intOf i).toNat)
 case atStart=>exact ⟨0,Nat.zero_le _,rfl,_,_,sp1,hb1⟩
 case round=>
  clear sp1 hb1;obtain ⟨k,hk,rfl,ce,Ls,sp,hb⟩:=hrel
  by_cases hlt:k<n
  ·obtain ⟨b,off,rfl,hblt,hel⟩:=hc (by omega)
   obtain ⟨ck,hrk,hcell⟩:=zat (t:=0) hel hb hhi hblt hlt;obtain ⟨ao1,cap1,rfl,-⟩:=zbE hrk;have c0:wr.cell? ⟨b,off+k*2,none⟩=some (.bool (x k).wiped):=hcell 0 (by decide);have c1:wr.cell? ⟨b,off+k*2+1,none⟩=some (.slice ao1 (x k).blocks.1 cap1):=hcell 1 (by decide);clear hc hel hcell
   go_wp2_with fail
   refine (zh1 _ (x k) hi wr hrk (Nat.le_trans hhi hb.size) (hn2 k hlt)).mono ?_;rintro e w2 ⟨cs',rfl,o2,hb2⟩;obtain ⟨bao1,bcap1,rfl⟩:=ze2 o2;obtain ⟨z0,s0⟩:=sp.some hb2 hlt (show 0<zae.sz by decide);have s0:w2.cell? ⟨w.heap.size,k*2,none⟩=some z0:=s0;have sf0:=(sp.below hb2).frozen (k*2);obtain ⟨z1,s1⟩:=sp.some hb2 hlt (show 1<zae.sz by decide);have s1:w2.cell? ⟨w.heap.size,k*2+1,none⟩=some z1:=s1;have sf1:=(sp.below hb2).frozen (k*2+1);have N:=sp.next hb2 hlt o2 hb.size;have N2:Below w.heap.size w (stN w2 w.heap.size (k*zae.sz) [.bool (x k).wiped,.slice bao1 (x k).blocks.1 bcap1]):=(hb.trans (hb2.mono hb.size)).trans (za1 (Nat.le_refl _) _ _);clear o2 hb2 sp hb
   go_wp2_with fail
   go_roundw
   case rel=>
    obtain ⟨ce',Ls',N⟩:=N;exact ⟨k+1,by omega,by go_num,ce',Ls',N,N2⟩
   case measure=>simp [intOf];omega
  ·obtain rfl:k=n:=by omega
   go_wp2;go_ret;exact ⟨_,rfl,sp.done (Nat.le_refl _),hb⟩
theorem zh2:ToS (zae.slice 124) (szSl zau) 178:=fun v d hi w h hhi hn=>by
 have C:=zg1 v d hi w h hhi hn;obtain ⟨ao,cap,hv,hm,hc⟩:=h
 cases hv
 clear hm hc
 go_enter Tryz.func178,Tryz.ntmps178
 go_wp2_with fail
 refine C.mono ?_;rintro e w1 ⟨v1,rfl,o1,b1⟩;have HO:=hid o1;have HB:=hid b1;clear o1 b1 C;go_wp2;go_ret;exact ⟨v1,rfl,HO.out,HB.out⟩
theorem zfX:ToF ((zae.slice 124).slice 109) (szSl (szSl zau)) 177 178:=fun v d hi w h hhi hn=>by
 obtain ⟨n,x⟩:=d;obtain ⟨ao,cap,hv,hm,hc⟩:=h
 cases hv
 have hn1:=zcx hn;have hn2:∀ i,i<n→szSl zau (x i)≤1048576:=fun i hi=>zbC hn hi
 simp only at hn1 hm hc
 clear hn
 go_enter Tryz.func177,Tryz.ntmps177
 go_wp2_with (at_make;refine zcg (zae.slice 124) [.slice none 0 0] _ 109 24 ze9.hs rfl Tryz.underlying35 ze9.hi x (fun _=>[]) _ rfl _ _ rfl _ _ n rfl rfl rfl rfl (by omega) (by omega) ?_;intro w1 sp1 hb1)
 go_loopw [12] (fun i wr=>∃ k:Nat,k≤n∧i=.int .i64 k∧∃ ce Ls,SlP (zae.slice 124) 109 wr w.heap.size w.heap.size n n k x ce Ls∧Below w.heap.size w wr) (fun i _=>n-(intOf i).toNat)
 case atStart=>exact ⟨0,Nat.zero_le _,rfl,_,_,sp1,hb1⟩
 case round=>
  clear sp1 hb1;obtain ⟨k,hk,rfl,ce,Ls,sp,hb⟩:=hrel
  by_cases hlt:k<n
  ·obtain ⟨b,off,rfl,hblt,hel⟩:=hc (by omega)
   obtain ⟨ck,hrk,hcell⟩:=zat (t:=0) hel hb hhi hblt hlt;obtain ⟨ao1,cap1,rfl⟩:=zbM hrk
   have c0:wr.cell? ⟨b,off+k,none⟩=some (.slice ao1 (x k).1 cap1):=by
    have:=hcell 0 (by decide)
    have e:off+(k*(zae.slice 124).sz+0)=off+k:=by show off+(k*1+0)=off+k;omega
    rw [e] at this;exact this
   clear hc hel hcell
   go_wp2_with fail
   refine (zh2 _ (x k) hi wr hrk (Nat.le_trans hhi hb.size) (hn2 k hlt)).mono ?_;rintro e w2 ⟨v2,rfl,o2,hb2⟩;obtain ⟨bao1,bcap1,hv2⟩:=zbZ o2;obtain rfl:=za2 hv2;obtain ⟨z0,s0⟩:=sp.some hb2 hlt (show 0<(zae.slice 124).sz by decide)
   have e0:k*(zae.slice 124).sz+0=k:=by show k*1+0=k;omega
   rw [e0] at s0;have sf0:=(sp.below hb2).frozen k;have N:=sp.next hb2 hlt o2 hb.size
   have e1:k*(zae.slice 124).sz=k:=by show k*1=k;omega
   rw [e1] at N;have N2:Below w.heap.size w (stN w2 w.heap.size k [.slice bao1 (x k).1 bcap1]):=(hb.trans (hb2.mono hb.size)).trans (za1 (Nat.le_refl _) _ _);clear o2 hb2 sp hb hv2
   go_wp2_with fail
   go_roundw
   case rel=>
    obtain ⟨ce',Ls',N⟩:=N;exact ⟨k+1,by omega,by go_num,ce',Ls',N,N2⟩
   case measure=>simp [intOf];omega
  ·obtain rfl:k=n:=by omega
   go_wp2;go_ret;exact ⟨_,rfl,sp.done (Nat.le_refl _),hb⟩
set_option maxRecDepth 20000 in
theorem zh3:ToV zad zaS 129:=fun cs d hi w r hhi hn=>by
 obtain ⟨ao1,cap1,ao2,cap2,ao3,cap3,rfl,h1,h2,h3,k0,k4,k5⟩:=zaM r;clear r;unfold zaS at hn;have R1:=hid h1;have R2:=hid h2;have R3:=hid h3;clear h1 h2 h3;have Q0:=hid k0;have Q4:=hid k4;have Q5:=hid k5;clear k0 k4 k5;have T0:=zax w (rwW d ao1 cap1 ao2 cap2 ao3 cap3).toArray (rwV 0 0 0 0 0 0 0 0 0 none 0 0 none 0 0 none 0 0 0 0 false).toArray 38 38
 go_enter Tryz.func129,Tryz.ntmps129
 go_wp2_with fail
 refine (zfX _ d.groups hi _ (((zae.slice 124).slice 109).rd_below R1.out T0.bel hhi) (Nat.le_trans hhi T0.bel.size) (by omega)).mono ?_;rintro e w1 ⟨v0,rfl,o0,b0⟩;obtain ⟨bo1,bcap1,hv⟩:=zbZ o0;obtain rfl:=za2 hv;clear hv;have T0c:=T0.call b0;have z0:=T0.b2.lt;have y0:=b0.size;have c0_9:w1.cell? ⟨w.heap.size,9,none⟩=some (.slice ao1 d.groups.1 cap1):=T0c.b1.cell 9;have c0f_9:w1.frozen? ⟨w.heap.size,9,none⟩=false:=T0c.b1.frozen 9;have T1x:Two w (w1.setCell ⟨w.heap.size,9,none⟩ (.slice bo1 d.groups.1 bcap1)) (rwW d bo1 bcap1 ao2 cap2 ao3 cap3).toArray (rwV 0 0 0 0 0 0 0 0 0 none 0 0 none 0 0 none 0 0 0 0 false).toArray 38 38:=⟨T0c.b1.stL [.slice bo1 d.groups.1 bcap1] 9,T0c.b2.seto _ _ (by omega),T0c.bel.setCell (Nat.le_refl _) _⟩;have O1_0:=(o0.stN w.heap.size 9 [.slice bo1 d.groups.1 bcap1] (by omega))
 have e1:(w1.setCell ⟨w.heap.size,9,none⟩ (.slice bo1 d.groups.1 bcap1)).heap.size=w1.heap.size:=by simp
 clear o0 b0
 go_upto_region 2 with fail
 obtain ⟨W1,hW1⟩:∃ x,x=w1.setCell ⟨w.heap.size,9,none⟩ (.slice bo1 d.groups.1 bcap1):=⟨_,rfl⟩
 have O1:Hid (OwnT ((zae.slice 124).slice 109) W1 (w.heap.size+1+1) (w1.heap.size) d.groups [.slice bo1 d.groups.1 bcap1]):=by rw [hW1];exact OwnT.weaken O1_0 (by simp) (Nat.le_refl _)
 rw [← hW1] at T1x e1 ⊢;clear hW1 O1_0 T0c c0_9 c0f_9;have a1_10:W1.cell? ⟨w.heap.size,10,none⟩=some (.slice ao2 d.on.1 cap2):=T1x.b1.cell 10
 go_wp2_with fail
 refine (zfe _ d.on hi _ (zak.rd_below R2.out T1x.bel hhi) (Nat.le_trans hhi T1x.bel.size) (by omega)).mono ?_;rintro e w2 ⟨v1,rfl,o1,b1⟩;obtain ⟨bo2,bcap2,hv⟩:=zcu o1;obtain rfl:=za2 hv;clear hv;have T1c:=T1x.call b1;have z1:=T1x.b2.lt;have y1:=b1.size;have c1_10:w2.cell? ⟨w.heap.size,10,none⟩=some (.slice ao2 d.on.1 cap2):=T1c.b1.cell 10;have c1f_10:w2.frozen? ⟨w.heap.size,10,none⟩=false:=T1c.b1.frozen 10;have T2x:Two w (w2.setCell ⟨w.heap.size,10,none⟩ (.slice bo2 d.on.1 bcap2)) (rwW d bo1 bcap1 bo2 bcap2 ao3 cap3).toArray (rwV 0 0 0 0 0 0 0 0 0 none 0 0 none 0 0 none 0 0 0 0 false).toArray 38 38:=⟨T1c.b1.stL [.slice bo2 d.on.1 bcap2] 10,T1c.b2.seto _ _ (by omega),T1c.bel.setCell (Nat.le_refl _) _⟩;have O1_1:=(O1.out.call b1).stN w.heap.size 10 [.slice bo2 d.on.1 bcap2] (by omega);have O2_1:=(o1.stN w.heap.size 10 [.slice bo2 d.on.1 bcap2] (by omega))
 have e2:(w2.setCell ⟨w.heap.size,10,none⟩ (.slice bo2 d.on.1 bcap2)).heap.size=w2.heap.size:=by simp
 clear o1 b1 O1 T1x a1_10
 go_upto_region 3 with fail
 obtain ⟨W2,hW2⟩:∃ x,x=w2.setCell ⟨w.heap.size,10,none⟩ (.slice bo2 d.on.1 bcap2):=⟨_,rfl⟩
 have O1:Hid (OwnT ((zae.slice 124).slice 109) W2 (w.heap.size+1+1) (w1.heap.size) d.groups [.slice bo1 d.groups.1 bcap1]):=by rw [hW2];exact O1_1
 have O2:Hid (OwnT zak W2 (W1.heap.size) (w2.heap.size) d.on [.slice bo2 d.on.1 bcap2]):=by rw [hW2];exact O2_1
 rw [← hW2] at T2x e2 ⊢;clear hW2 O1_1 O2_1 T1c c1_10 c1f_10;have a2_11:W2.cell? ⟨w.heap.size,11,none⟩=some (.slice ao3 d.tapes.1 cap3):=T2x.b1.cell 11
 go_wp2_with fail
 refine (zhQ _ d.tapes hi _ ((zah.slice 112).rd_below R3.out T2x.bel hhi) (Nat.le_trans hhi T2x.bel.size) (by omega)).mono ?_;rintro e w3 ⟨v2,rfl,o2,b2⟩;obtain ⟨bo3,bcap3,hv⟩:=zbZ o2;obtain rfl:=za2 hv;clear hv;have T2c:=T2x.call b2;have z2:=T2x.b2.lt;have y2:=b2.size;have c2_11:w3.cell? ⟨w.heap.size,11,none⟩=some (.slice ao3 d.tapes.1 cap3):=T2c.b1.cell 11;have c2f_11:w3.frozen? ⟨w.heap.size,11,none⟩=false:=T2c.b1.frozen 11;have T3x:Two w (w3.setCell ⟨w.heap.size,11,none⟩ (.slice bo3 d.tapes.1 bcap3)) (rwW d bo1 bcap1 bo2 bcap2 bo3 bcap3).toArray (rwV 0 0 0 0 0 0 0 0 0 none 0 0 none 0 0 none 0 0 0 0 false).toArray 38 38:=⟨T2c.b1.stL [.slice bo3 d.tapes.1 bcap3] 11,T2c.b2.seto _ _ (by omega),T2c.bel.setCell (Nat.le_refl _) _⟩;have O1_2:=(O1.out.call b2).stN w.heap.size 11 [.slice bo3 d.tapes.1 bcap3] (by omega);have O2_2:=(O2.out.call b2).stN w.heap.size 11 [.slice bo3 d.tapes.1 bcap3] (by omega);have O3_2:=(o2.stN w.heap.size 11 [.slice bo3 d.tapes.1 bcap3] (by omega))
 have e3:(w3.setCell ⟨w.heap.size,11,none⟩ (.slice bo3 d.tapes.1 bcap3)).heap.size=w3.heap.size:=by simp
 clear o2 b2 O1 O2 T2x a2_11
 go_upto_region 4 with fail
 obtain ⟨W3,hW3⟩:∃ x,x=w3.setCell ⟨w.heap.size,11,none⟩ (.slice bo3 d.tapes.1 bcap3):=⟨_,rfl⟩
 have O1:Hid (OwnT ((zae.slice 124).slice 109) W3 (w.heap.size+1+1) (w1.heap.size) d.groups [.slice bo1 d.groups.1 bcap1]):=by rw [hW3];exact O1_2
 have O2:Hid (OwnT zak W3 (W1.heap.size) (w2.heap.size) d.on [.slice bo2 d.on.1 bcap2]):=by rw [hW3];exact O2_2
 have O3:Hid (OwnT (zah.slice 112) W3 (W2.heap.size) (w3.heap.size) d.tapes [.slice bo3 d.tapes.1 bcap3]):=by rw [hW3];exact O3_2
 rw [← hW3] at T3x e3 ⊢;clear hW3 O1_2 O2_2 O3_2 T2c c2_11 c2f_11;have y_0:W3.cell? ⟨w.heap.size,0,none⟩=some (.int .i64 (d.shape 0)):=T3x.b1.cell 0;have y_1:W3.cell? ⟨w.heap.size,1,none⟩=some (.int .i64 (d.shape 1)):=T3x.b1.cell 1;have y_2:W3.cell? ⟨w.heap.size,2,none⟩=some (.int .i64 (d.shape 2)):=T3x.b1.cell 2;have y_3:W3.cell? ⟨w.heap.size,3,none⟩=some (.int .i64 (d.shape 3)):=T3x.b1.cell 3;have y_4:W3.cell? ⟨w.heap.size,4,none⟩=some (.int .i64 (d.shape 4)):=T3x.b1.cell 4;have y_5:W3.cell? ⟨w.heap.size,5,none⟩=some (.int .i64 (d.shape 5)):=T3x.b1.cell 5;have y_6:W3.cell? ⟨w.heap.size,6,none⟩=some (.int .i64 (d.shape 6)):=T3x.b1.cell 6;have y_7:W3.cell? ⟨w.heap.size,7,none⟩=some (.int .i64 (d.shape 7)):=T3x.b1.cell 7;have y_8:W3.cell? ⟨w.heap.size,8,none⟩=some (.int .i64 (d.shape 8)):=T3x.b1.cell 8;have y_9:W3.cell? ⟨w.heap.size,9,none⟩=some (.slice bo1 d.groups.1 bcap1):=T3x.b1.cell 9;have y_10:W3.cell? ⟨w.heap.size,10,none⟩=some (.slice bo2 d.on.1 bcap2):=T3x.b1.cell 10;have y_11:W3.cell? ⟨w.heap.size,11,none⟩=some (.slice bo3 d.tapes.1 bcap3):=T3x.b1.cell 11;have y_12:W3.cell? ⟨w.heap.size,12,none⟩=some (.int .i64 d.writes):=T3x.b1.cell 12;have y_13:W3.cell? ⟨w.heap.size,13,none⟩=some (.int .i64 d.stop):=T3x.b1.cell 13;have y_14:W3.cell? ⟨w.heap.size,14,none⟩=some (.bool d.down):=T3x.b1.cell 14;have r_0:W3.cell? ⟨w.heap.size+1,0,none⟩=some (.int .i64 0):=T3x.b2.cell 0;have rf_0:W3.frozen? ⟨w.heap.size+1,0,none⟩=false:=T3x.b2.frozen 0;have r_1:W3.cell? ⟨w.heap.size+1,1,none⟩=some (.int .i64 0):=T3x.b2.cell 1;have rf_1:W3.frozen? ⟨w.heap.size+1,1,none⟩=false:=T3x.b2.frozen 1;have r_2:W3.cell? ⟨w.heap.size+1,2,none⟩=some (.int .i64 0):=T3x.b2.cell 2;have rf_2:W3.frozen? ⟨w.heap.size+1,2,none⟩=false:=T3x.b2.frozen 2;have r_3:W3.cell? ⟨w.heap.size+1,3,none⟩=some (.int .i64 0):=T3x.b2.cell 3;have rf_3:W3.frozen? ⟨w.heap.size+1,3,none⟩=false:=T3x.b2.frozen 3;have r_4:W3.cell? ⟨w.heap.size+1,4,none⟩=some (.int .i64 0):=T3x.b2.cell 4;have rf_4:W3.frozen? ⟨w.heap.size+1,4,none⟩=false:=T3x.b2.frozen 4;have r_5:W3.cell? ⟨w.heap.size+1,5,none⟩=some (.int .i64 0):=T3x.b2.cell 5;have rf_5:W3.frozen? ⟨w.heap.size+1,5,none⟩=false:=T3x.b2.frozen 5;have r_6:W3.cell? ⟨w.heap.size+1,6,none⟩=some (.int .i64 0):=T3x.b2.cell 6;have rf_6:W3.frozen? ⟨w.heap.size+1,6,none⟩=false:=T3x.b2.frozen 6;have r_7:W3.cell? ⟨w.heap.size+1,7,none⟩=some (.int .i64 0):=T3x.b2.cell 7;have rf_7:W3.frozen? ⟨w.heap.size+1,7,none⟩=false:=T3x.b2.frozen 7;have r_8:W3.cell? ⟨w.heap.size+1,8,none⟩=some (.int .i64 0):=T3x.b2.cell 8;have rf_8:W3.frozen? ⟨w.heap.size+1,8,none⟩=false:=T3x.b2.frozen 8;have r_9:W3.cell? ⟨w.heap.size+1,9,none⟩=some (.slice none 0 0):=T3x.b2.cell 9;have rf_9:W3.frozen? ⟨w.heap.size+1,9,none⟩=false:=T3x.b2.frozen 9
 have r_10:W3.cell? ⟨w.heap.size+1,10,none⟩=some (.slice none 0 0):=T3x.b2.cell 10;have rf_10:W3.frozen? ⟨w.heap.size+1,10,none⟩=false:=T3x.b2.frozen 10;have r_11:W3.cell? ⟨w.heap.size+1,11,none⟩=some (.slice none 0 0):=T3x.b2.cell 11;have rf_11:W3.frozen? ⟨w.heap.size+1,11,none⟩=false:=T3x.b2.frozen 11;have r_12:W3.cell? ⟨w.heap.size+1,12,none⟩=some (.int .i64 0):=T3x.b2.cell 12;have rf_12:W3.frozen? ⟨w.heap.size+1,12,none⟩=false:=T3x.b2.frozen 12;have r_13:W3.cell? ⟨w.heap.size+1,13,none⟩=some (.int .i64 0):=T3x.b2.cell 13;have rf_13:W3.frozen? ⟨w.heap.size+1,13,none⟩=false:=T3x.b2.frozen 13;have r_14:W3.cell? ⟨w.heap.size+1,14,none⟩=some (.bool false):=T3x.b2.cell 14;have rf_14:W3.frozen? ⟨w.heap.size+1,14,none⟩=false:=T3x.b2.frozen 14;have HB:=hid T3x.bel;have zz:=T3x.b2.lt;clear T3x;go_wp2;refine bodyPost_ret (v:=.agg (rwW d bo1 bcap1 bo2 bcap2 bo3 bcap3).toArray) (by simp [results,Tryz.results129,go_sem,r_0,y_0,r_1,y_1,r_2,y_2,r_3,y_3,r_4,y_4,r_5,y_5,r_6,y_6,r_7,y_7,r_8,y_8,r_9,y_9,r_10,y_10,r_11,y_11,r_12,y_12,r_13,y_13,r_14,y_14]) rfl ?_;have F:OwnT zad W3 (w.heap.size+1+1) w3.heap.size d ((rwS d.shape)++([.slice bo1 d.groups.1 bcap1]++([.slice bo2 d.on.1 bcap2]++([.slice bo3 d.tapes.1 bcap3]++([.int .i64 d.writes]++([.int .i64 d.stop]++[.bool d.down])))))):=OwnT.conv (OwnT.pre (A:=(zej 9)) (a:=d.shape) (c:=(rwS d.shape)) ⟨rfl,Q0.out,rfl⟩ (OwnT.two O1.out (OwnT.two O2.out (OwnT.two O3.out (OwnT.pre (A:=layI) (a:=d.writes) (c:=[.int .i64 d.writes]) ⟨rfl,Q4.out,rfl⟩ (OwnT.pre (A:=layI) (a:=d.stop) (c:=[.int .i64 d.stop]) ⟨rfl,Q5.out,rfl⟩ (OwnT.nil (A:=layB) (a:=d.down) (c:=[.bool d.down]) ⟨rfl,trivial,rfl⟩ _ _))) (Nat.le_refl _) (by omega) (by omega)) (by omega) (by omega) (by omega)) (by omega) (by omega) (by omega)));refine ⟨(rwW d bo1 bcap1 bo2 bcap2 bo3 bcap3),rfl,?_,?_⟩
 ·exact OwnT.finb (F.weaken (Nat.le_refl _) (by omega)) (b:=w.heap.size+1) (by omega) (by omega) 0 (rwW d bo1 bcap1 bo2 bcap2 bo3 bcap3) _ rfl
 ·exact HB.out.trans (za1 (by omega) (rwW d bo1 bcap1 bo2 bcap2 bo3 bcap3) 0)
end Go.Proofs.YtclclojenogpbaaGreat
