/- The deferred function that tells the world. -/
import Derived.Test.YtdhnekgfhpanfaaGreatRows
import Derived.Test.YtdhnekgfhpanfaaGreatZPstrikaj
set_option linter.unusedVariables false
set_option linter.unusedSimpArgs false
set_option maxHeartbeats 16000000
namespace Go.Proofs.YtdhnekgfhpanfaaGreat
open Go.RowKit F256
set_option maxRecDepth 20000 in
theorem ziu (R pv E:Nat) (l o m:Int) (y0 y1 y2 y3 y4 y5 y6 y7 y8 yp0 yl0 yq0 yp1 yl1 yq1 yp2 yl2 yq2 y9 y10 yb:_) (w:World) (hR:Box w R #[.int .i64 0,.int .i64 0,.int .i64 0,.int .i64 0,.int .i64 0,.int .i64 0,.int .i64 0,.int .i64 0,.int .i64 0,.int .i64 0,.slice none 0 0,.slice none 0 0,.slice none 0 0,.int .i64 0,.int .i64 0,.bool false] 36) (hp:w.cell? ⟨pv,0,none⟩=some (.pointer (some ⟨E,0,none⟩))) (hX:Box w E #[.int .i32 l,.int .u32 0,.int .u32 o,.int .i32 m,.int .u32 0,.int .i64 y0,.int .i64 y1,.int .i64 y2,.int .i64 y3,.int .i64 y4,.int .i64 y5,.int .i64 y6,.int .i64 y7,.int .i64 y8,.slice yp0 yl0 yq0,.slice yp1 yl1 yq1,.slice yp2 yl2 yq2,.int .i64 y9,.int .i64 y10,.bool yb] 110) (hRE:R≠E) (hRp:R≠pv) :
 CallsD Tryz.prog 57 #[.pointer (some ⟨R,0,none⟩),.pointer (some ⟨pv,0,none⟩)] .returning w fun e u' w'=>e=.returned (.tuple #[])∧u'=.returning∧Box w' R #[.int .i64 0,.int .i64 y0,.int .i64 y1,.int .i64 y2,.int .i64 y3,.int .i64 y4,.int .i64 y5,.int .i64 y6,.int .i64 y7,.int .i64 y8,.slice yp0 yl0 yq0,.slice yp1 yl1 yq1,.slice yp2 yl2 yq2,.int .i64 y9,.int .i64 y10,.bool yb] 36∧ChgL [R] w w':=by
 have x_5:w.cell? ⟨E,5,none⟩=some (.int .i64 y0):=hX.cell 5;have x_6:w.cell? ⟨E,6,none⟩=some (.int .i64 y1):=hX.cell 6;have x_7:w.cell? ⟨E,7,none⟩=some (.int .i64 y2):=hX.cell 7;have x_8:w.cell? ⟨E,8,none⟩=some (.int .i64 y3):=hX.cell 8;have x_9:w.cell? ⟨E,9,none⟩=some (.int .i64 y4):=hX.cell 9;have x_10:w.cell? ⟨E,10,none⟩=some (.int .i64 y5):=hX.cell 10;have x_11:w.cell? ⟨E,11,none⟩=some (.int .i64 y6):=hX.cell 11;have x_12:w.cell? ⟨E,12,none⟩=some (.int .i64 y7):=hX.cell 12;have x_13:w.cell? ⟨E,13,none⟩=some (.int .i64 y8):=hX.cell 13;have x_14:w.cell? ⟨E,14,none⟩=some (.slice yp0 yl0 yq0):=hX.cell 14;have x_15:w.cell? ⟨E,15,none⟩=some (.slice yp1 yl1 yq1):=hX.cell 15;have x_16:w.cell? ⟨E,16,none⟩=some (.slice yp2 yl2 yq2):=hX.cell 16;have x_17:w.cell? ⟨E,17,none⟩=some (.int .i64 y9):=hX.cell 17;have x_18:w.cell? ⟨E,18,none⟩=some (.int .i64 y10):=hX.cell 18;have x_19:w.cell? ⟨E,19,none⟩=some (.bool yb):=hX.cell 19;have R1:=hR;have X1:=hX;have hp1:=hp;have C1:ChgL [R] w w:=ChgL.refl _ _;refine callsD_of_wpS Tryz.func57 rfl fun c₀ cs hu=>?_
 apply wpS_seq
 apply wpS_seq
 apply wpS_region
 simp [wpOpsS,go_sem,recoverD,hu,Tryz.ntmps57,Exit.thenS]
 refine wpS_cond (t:=false) (by simp [Act.eval,Array.replicate]) ?_
 simp only [Bool.false_eq_true,if_false]
 refine wpS_of_wp (wp_skip ?_)
 simp only [Exit.thenS]
 clear hR hX hp;refine wpS_of_wp ?_;have e_5:w.cell? ⟨E,5,none⟩=some (.int .i64 y0):=X1.cell 5;have e_6:w.cell? ⟨E,6,none⟩=some (.int .i64 y1):=X1.cell 6;have e_7:w.cell? ⟨E,7,none⟩=some (.int .i64 y2):=X1.cell 7;have e_8:w.cell? ⟨E,8,none⟩=some (.int .i64 y3):=X1.cell 8;have e_9:w.cell? ⟨E,9,none⟩=some (.int .i64 y4):=X1.cell 9;have e_10:w.cell? ⟨E,10,none⟩=some (.int .i64 y5):=X1.cell 10;have e_11:w.cell? ⟨E,11,none⟩=some (.int .i64 y6):=X1.cell 11;have e_12:w.cell? ⟨E,12,none⟩=some (.int .i64 y7):=X1.cell 12;have e_13:w.cell? ⟨E,13,none⟩=some (.int .i64 y8):=X1.cell 13;have e_14:w.cell? ⟨E,14,none⟩=some (.slice yp0 yl0 yq0):=X1.cell 14;have e_15:w.cell? ⟨E,15,none⟩=some (.slice yp1 yl1 yq1):=X1.cell 15;have e_16:w.cell? ⟨E,16,none⟩=some (.slice yp2 yl2 yq2):=X1.cell 16;have e_17:w.cell? ⟨E,17,none⟩=some (.int .i64 y9):=X1.cell 17;have e_18:w.cell? ⟨E,18,none⟩=some (.int .i64 y10):=X1.cell 18;have e_19:w.cell? ⟨E,19,none⟩=some (.bool yb):=X1.cell 19;have r_1:w.cell? ⟨R,1,none⟩=some (.int .i64 0):=R1.cell 1;have rf_1:w.frozen? ⟨R,1,none⟩=false:=R1.frozen 1;have r_2:w.cell? ⟨R,2,none⟩=some (.int .i64 0):=R1.cell 2;have rf_2:w.frozen? ⟨R,2,none⟩=false:=R1.frozen 2;have r_3:w.cell? ⟨R,3,none⟩=some (.int .i64 0):=R1.cell 3;have rf_3:w.frozen? ⟨R,3,none⟩=false:=R1.frozen 3;have r_4:w.cell? ⟨R,4,none⟩=some (.int .i64 0):=R1.cell 4;have rf_4:w.frozen? ⟨R,4,none⟩=false:=R1.frozen 4;have r_5:w.cell? ⟨R,5,none⟩=some (.int .i64 0):=R1.cell 5;have rf_5:w.frozen? ⟨R,5,none⟩=false:=R1.frozen 5;have r_6:w.cell? ⟨R,6,none⟩=some (.int .i64 0):=R1.cell 6;have rf_6:w.frozen? ⟨R,6,none⟩=false:=R1.frozen 6;have r_7:w.cell? ⟨R,7,none⟩=some (.int .i64 0):=R1.cell 7;have rf_7:w.frozen? ⟨R,7,none⟩=false:=R1.frozen 7;have r_8:w.cell? ⟨R,8,none⟩=some (.int .i64 0):=R1.cell 8;have rf_8:w.frozen? ⟨R,8,none⟩=false:=R1.frozen 8;have r_9:w.cell? ⟨R,9,none⟩=some (.int .i64 0):=R1.cell 9;have rf_9:w.frozen? ⟨R,9,none⟩=false:=R1.frozen 9;have r_10:w.cell? ⟨R,10,none⟩=some (.slice none 0 0):=R1.cell 10;have rf_10:w.frozen? ⟨R,10,none⟩=false:=R1.frozen 10;have r_11:w.cell? ⟨R,11,none⟩=some (.slice none 0 0):=R1.cell 11;have rf_11:w.frozen? ⟨R,11,none⟩=false:=R1.frozen 11;have r_12:w.cell? ⟨R,12,none⟩=some (.slice none 0 0):=R1.cell 12;have rf_12:w.frozen? ⟨R,12,none⟩=false:=R1.frozen 12;have r_13:w.cell? ⟨R,13,none⟩=some (.int .i64 0):=R1.cell 13;have rf_13:w.frozen? ⟨R,13,none⟩=false:=R1.frozen 13;have r_14:w.cell? ⟨R,14,none⟩=some (.int .i64 0):=R1.cell 14;have rf_14:w.frozen? ⟨R,14,none⟩=false:=R1.frozen 14;have r_15:w.cell? ⟨R,15,none⟩=some (.bool false):=R1.cell 15;have rf_15:w.frozen? ⟨R,15,none⟩=false:=R1.frozen 15;have R2:Box (stN w R 1 (rwV y0 y1 y2 y3 y4 y5 y6 y7 y8 yp0 yl0 yq0 yp1 yl1 yq1 yp2 yl2 yq2 y9 y10 yb)) R (.int .i64 0::rwV y0 y1 y2 y3 y4 y5 y6 y7 y8 yp0 yl0 yq0 yp1 yl1 yq1 yp2 yl2 yq2 y9 y10 yb).toArray 36:=R1.stL (rwV y0 y1 y2 y3 y4 y5 y6 y7 y8 yp0 yl0 yq0 yp1 yl1 yq1 yp2 yl2 yq2 y9 y10 yb) 1
 have C2':ChgL [R] w (stN w R 1 (rwV y0 y1 y2 y3 y4 y5 y6 y7 y8 yp0 yl0 yq0 yp1 yl1 yq1 yp2 yl2 yq2 y9 y10 yb)):=C1.trans ⟨(za3 R _ w 1).1,(za3 R _ w 1).2.1,(za3 R _ w 1).2.2,Nat.le_of_eq (zbx R _ w 1).symm,fun b _ hb=>zbG R b (fun hh=>hb (by simp [hh])) _ w 1⟩;clear R1 X1 C1  x_5 x_6 x_7 x_8 x_9 x_10 x_11 x_12 x_13 x_14 x_15 x_16 x_17 x_18 x_19;go_wp2;exact ⟨rfl,_,by cases c₀;simp_all,_,results_none rfl _ _ _,rfl,rfl,R2,C2'⟩
set_option maxRecDepth 20000 in
theorem zhK (u:TypeId) (pvv:Value) (R pv E:Nat) (l o m:Int) (y0 y1 y2 y3 y4 y5 y6 y7 y8 yp0 yl0 yq0 yp1 yl1 yq1 yp2 yl2 yq2 y9 y10 yb:_) (w:World) (hR:Box w R #[.int .i64 0,.int .i64 0,.int .i64 0,.int .i64 0,.int .i64 0,.int .i64 0,.int .i64 0,.int .i64 0,.int .i64 0,.int .i64 0,.slice none 0 0,.slice none 0 0,.slice none 0 0,.int .i64 0,.int .i64 0,.bool false] 36) (hp:w.cell? ⟨pv,0,none⟩=some (.pointer (some ⟨E,0,none⟩))) (hX:Box w E #[.int .i32 l,.int .u32 0,.int .u32 o,.int .i32 m,.int .u32 0,.int .i64 y0,.int .i64 y1,.int .i64 y2,.int .i64 y3,.int .i64 y4,.int .i64 y5,.int .i64 y6,.int .i64 y7,.int .i64 y8,.slice yp0 yl0 yq0,.slice yp1 yl1 yq1,.slice yp2 yl2 yq2,.int .i64 y9,.int .i64 y10,.bool yb] 110) (hRE:R≠E) (hRp:R≠pv) :
 CallsD Tryz.prog 57 #[.pointer (some ⟨R,0,none⟩),.pointer (some ⟨pv,0,none⟩)] (.panicking [{ v:=.iface u pvv,recovered:=false }]) w fun e u' w'=>e=.returned (.tuple #[])∧u'=(.panicking [{ v:=.iface u pvv,recovered:=true }])∧Box w' R #[.int .i64 9,.int .i64 y0,.int .i64 y1,.int .i64 y2,.int .i64 y3,.int .i64 y4,.int .i64 y5,.int .i64 y6,.int .i64 y7,.int .i64 y8,.slice yp0 yl0 yq0,.slice yp1 yl1 yq1,.slice yp2 yl2 yq2,.int .i64 y9,.int .i64 y10,.bool yb] 36∧ChgL [R] w w':=by
 have x_5:w.cell? ⟨E,5,none⟩=some (.int .i64 y0):=hX.cell 5;have x_6:w.cell? ⟨E,6,none⟩=some (.int .i64 y1):=hX.cell 6;have x_7:w.cell? ⟨E,7,none⟩=some (.int .i64 y2):=hX.cell 7;have x_8:w.cell? ⟨E,8,none⟩=some (.int .i64 y3):=hX.cell 8;have x_9:w.cell? ⟨E,9,none⟩=some (.int .i64 y4):=hX.cell 9;have x_10:w.cell? ⟨E,10,none⟩=some (.int .i64 y5):=hX.cell 10;have x_11:w.cell? ⟨E,11,none⟩=some (.int .i64 y6):=hX.cell 11;have x_12:w.cell? ⟨E,12,none⟩=some (.int .i64 y7):=hX.cell 12;have x_13:w.cell? ⟨E,13,none⟩=some (.int .i64 y8):=hX.cell 13;have x_14:w.cell? ⟨E,14,none⟩=some (.slice yp0 yl0 yq0):=hX.cell 14;have x_15:w.cell? ⟨E,15,none⟩=some (.slice yp1 yl1 yq1):=hX.cell 15;have x_16:w.cell? ⟨E,16,none⟩=some (.slice yp2 yl2 yq2):=hX.cell 16;have x_17:w.cell? ⟨E,17,none⟩=some (.int .i64 y9):=hX.cell 17;have x_18:w.cell? ⟨E,18,none⟩=some (.int .i64 y10):=hX.cell 18;have x_19:w.cell? ⟨E,19,none⟩=some (.bool yb):=hX.cell 19;have R1:Box (w.setCell ⟨R,0,none⟩ (.int .i64 9)) R (.int .i64 9::rwY).toArray 36:=hR.setc 0 _;have C1:ChgL [R] w (w.setCell ⟨R,0,none⟩ (.int .i64 9)):=(ChgL.refl _ _).st _ 0 _ (by simp);have X1:Box (w.setCell ⟨R,0,none⟩ (.int .i64 9)) E #[.int .i32 l,.int .u32 0,.int .u32 o,.int .i32 m,.int .u32 0,.int .i64 y0,.int .i64 y1,.int .i64 y2,.int .i64 y3,.int .i64 y4,.int .i64 y5,.int .i64 y6,.int .i64 y7,.int .i64 y8,.slice yp0 yl0 yq0,.slice yp1 yl1 yq1,.slice yp2 yl2 yq2,.int .i64 y9,.int .i64 y10,.bool yb] 110:=hX.seto 0 _ (fun h=>hRE h.symm);have hp1:(w.setCell ⟨R,0,none⟩ (.int .i64 9)).cell? ⟨pv,0,none⟩=some (.pointer (some ⟨E,0,none⟩)):=(World.cell?_setCell_other _ ⟨R,0,none⟩ ⟨pv,0,none⟩ _ (by simp [hRp])).trans hp;have r0:w.cell? ⟨R,0,none⟩=some (.int .i64 0):=hR.cell 0;have rf0:w.frozen? ⟨R,0,none⟩=false:=hR.frozen 0;refine callsD_of_wpS Tryz.func57 rfl fun c₀ cs hu=>?_
 apply wpS_seq
 apply wpS_seq
 apply wpS_region
 simp [wpOpsS,go_sem,recoverD,hu,Tryz.ntmps57,Exit.thenS]
 refine wpS_cond (t:=true) (by simp [Act.eval,Array.replicate]) ?_
 simp only [if_true]
 apply wpS_region
 simp [wpOpsS,go_sem,r0,rf0,Exit.thenS]
 clear r0 rf0 hR hX hp;refine wpS_of_wp ?_;obtain ⟨W,hW⟩:∃ x,x=(w.setCell ⟨R,0,none⟩ (.int .i64 9)):=⟨_,rfl⟩;rw [← hW] at R1 X1 hp1 C1 ⊢;have e_5:W.cell? ⟨E,5,none⟩=some (.int .i64 y0):=X1.cell 5;have e_6:W.cell? ⟨E,6,none⟩=some (.int .i64 y1):=X1.cell 6;have e_7:W.cell? ⟨E,7,none⟩=some (.int .i64 y2):=X1.cell 7;have e_8:W.cell? ⟨E,8,none⟩=some (.int .i64 y3):=X1.cell 8;have e_9:W.cell? ⟨E,9,none⟩=some (.int .i64 y4):=X1.cell 9;have e_10:W.cell? ⟨E,10,none⟩=some (.int .i64 y5):=X1.cell 10;have e_11:W.cell? ⟨E,11,none⟩=some (.int .i64 y6):=X1.cell 11;have e_12:W.cell? ⟨E,12,none⟩=some (.int .i64 y7):=X1.cell 12;have e_13:W.cell? ⟨E,13,none⟩=some (.int .i64 y8):=X1.cell 13;have e_14:W.cell? ⟨E,14,none⟩=some (.slice yp0 yl0 yq0):=X1.cell 14;have e_15:W.cell? ⟨E,15,none⟩=some (.slice yp1 yl1 yq1):=X1.cell 15;have e_16:W.cell? ⟨E,16,none⟩=some (.slice yp2 yl2 yq2):=X1.cell 16;have e_17:W.cell? ⟨E,17,none⟩=some (.int .i64 y9):=X1.cell 17;have e_18:W.cell? ⟨E,18,none⟩=some (.int .i64 y10):=X1.cell 18;have e_19:W.cell? ⟨E,19,none⟩=some (.bool yb):=X1.cell 19;have r_1:W.cell? ⟨R,1,none⟩=some (.int .i64 0):=R1.cell 1;have rf_1:W.frozen? ⟨R,1,none⟩=false:=R1.frozen 1;have r_2:W.cell? ⟨R,2,none⟩=some (.int .i64 0):=R1.cell 2;have rf_2:W.frozen? ⟨R,2,none⟩=false:=R1.frozen 2;have r_3:W.cell? ⟨R,3,none⟩=some (.int .i64 0):=R1.cell 3;have rf_3:W.frozen? ⟨R,3,none⟩=false:=R1.frozen 3;have r_4:W.cell? ⟨R,4,none⟩=some (.int .i64 0):=R1.cell 4;have rf_4:W.frozen? ⟨R,4,none⟩=false:=R1.frozen 4;have r_5:W.cell? ⟨R,5,none⟩=some (.int .i64 0):=R1.cell 5;have rf_5:W.frozen? ⟨R,5,none⟩=false:=R1.frozen 5;have r_6:W.cell? ⟨R,6,none⟩=some (.int .i64 0):=R1.cell 6;have rf_6:W.frozen? ⟨R,6,none⟩=false:=R1.frozen 6;have r_7:W.cell? ⟨R,7,none⟩=some (.int .i64 0):=R1.cell 7;have rf_7:W.frozen? ⟨R,7,none⟩=false:=R1.frozen 7;have r_8:W.cell? ⟨R,8,none⟩=some (.int .i64 0):=R1.cell 8;have rf_8:W.frozen? ⟨R,8,none⟩=false:=R1.frozen 8;have r_9:W.cell? ⟨R,9,none⟩=some (.int .i64 0):=R1.cell 9;have rf_9:W.frozen? ⟨R,9,none⟩=false:=R1.frozen 9;have r_10:W.cell? ⟨R,10,none⟩=some (.slice none 0 0):=R1.cell 10;have rf_10:W.frozen? ⟨R,10,none⟩=false:=R1.frozen 10;have r_11:W.cell? ⟨R,11,none⟩=some (.slice none 0 0):=R1.cell 11;have rf_11:W.frozen? ⟨R,11,none⟩=false:=R1.frozen 11;have r_12:W.cell? ⟨R,12,none⟩=some (.slice none 0 0):=R1.cell 12;have rf_12:W.frozen? ⟨R,12,none⟩=false:=R1.frozen 12;have r_13:W.cell? ⟨R,13,none⟩=some (.int .i64 0):=R1.cell 13;have rf_13:W.frozen? ⟨R,13,none⟩=false:=R1.frozen 13;have r_14:W.cell? ⟨R,14,none⟩=some (.int .i64 0):=R1.cell 14;have rf_14:W.frozen? ⟨R,14,none⟩=false:=R1.frozen 14;have r_15:W.cell? ⟨R,15,none⟩=some (.bool false):=R1.cell 15
 have rf_15:W.frozen? ⟨R,15,none⟩=false:=R1.frozen 15;have R2:Box (stN W R 1 (rwV y0 y1 y2 y3 y4 y5 y6 y7 y8 yp0 yl0 yq0 yp1 yl1 yq1 yp2 yl2 yq2 y9 y10 yb)) R (.int .i64 9::rwV y0 y1 y2 y3 y4 y5 y6 y7 y8 yp0 yl0 yq0 yp1 yl1 yq1 yp2 yl2 yq2 y9 y10 yb).toArray 36:=R1.stL (rwV y0 y1 y2 y3 y4 y5 y6 y7 y8 yp0 yl0 yq0 yp1 yl1 yq1 yp2 yl2 yq2 y9 y10 yb) 1;have C2':ChgL [R] w (stN W R 1 (rwV y0 y1 y2 y3 y4 y5 y6 y7 y8 yp0 yl0 yq0 yp1 yl1 yq1 yp2 yl2 yq2 y9 y10 yb)):=C1.trans ⟨(za3 R _ W 1).1,(za3 R _ W 1).2.1,(za3 R _ W 1).2.2,Nat.le_of_eq (zbx R _ W 1).symm,fun b _ hb=>zbG R b (fun hh=>hb (by simp [hh])) _ W 1⟩;clear R1 X1 C1 hW x_5 x_6 x_7 x_8 x_9 x_10 x_11 x_12 x_13 x_14 x_15 x_16 x_17 x_18 x_19;go_wp2;exact ⟨rfl,_,rfl,_,results_none rfl _ _ _,rfl,rfl,R2,C2'⟩
set_option maxRecDepth 20000 in
theorem zfQ:ToV zah zaz 153:=fun cs d hi w r hhi hn=>by
 obtain ⟨ao1,cap1,rfl,h1,k0⟩:=zbb r;clear r;unfold zaz at hn;have R1:=hid h1;clear h1;have Q0:=hid k0;clear k0;have T0:=zay w #[.int .i64 d.stamp,.slice ao1 d.bytes.1 cap1] #[.int .i64 0,.slice none 0 0] 90 90
 go_enter Tryz.func153,Tryz.ntmps153
 go_wp2_with fail
 refine (zcJ _ d.bytes hi _ (zae.rd_below R1.out T0.bel hhi) (Nat.le_trans hhi T0.bel.size) (by omega)).mono ?_;rintro e w1 ⟨v0,rfl,o0,b0⟩;obtain ⟨bo1,bcap1,hv⟩:=zba o0;obtain rfl:=zaK hv;clear hv;have T0c:=T0.call b0;have z0:=T0.b2.lt;have y0:=b0.size;have c0_1:w1.cell? ⟨w.heap.size,1,none⟩=some (.slice ao1 d.bytes.1 cap1):=T0c.b1.cell 1;have c0f_1:w1.frozen? ⟨w.heap.size,1,none⟩=false:=T0c.b1.frozen 1;have T1x:Two w (w1.setCell ⟨w.heap.size,1,none⟩ (.slice bo1 d.bytes.1 bcap1)) #[.int .i64 d.stamp,.slice bo1 d.bytes.1 bcap1] #[.int .i64 0,.slice none 0 0] 90 90:=⟨T0c.b1.stL [.slice bo1 d.bytes.1 bcap1] 1,T0c.b2.seto _ _ (by omega),T0c.bel.setCell (Nat.le_refl _) _⟩;have O1_0:=(o0.stN w.heap.size 1 [.slice bo1 d.bytes.1 bcap1] (by omega))
 have e1:(w1.setCell ⟨w.heap.size,1,none⟩ (.slice bo1 d.bytes.1 bcap1)).heap.size=w1.heap.size:=by simp
 clear o0 b0
 go_upto_region 2 with fail
 obtain ⟨W1,hW1⟩:∃ x,x=w1.setCell ⟨w.heap.size,1,none⟩ (.slice bo1 d.bytes.1 bcap1):=⟨_,rfl⟩
 have O1:Hid (OwnT zae W1 (w.heap.size+1+1) (w1.heap.size) d.bytes [.slice bo1 d.bytes.1 bcap1]):=by rw [hW1];exact OwnT.weaken O1_0 (by simp) (Nat.le_refl _)
 rw [← hW1] at T1x e1 ⊢;clear hW1 O1_0 T0c c0_1 c0f_1;have y_0:W1.cell? ⟨w.heap.size,0,none⟩=some (.int .i64 d.stamp):=T1x.b1.cell 0;have y_1:W1.cell? ⟨w.heap.size,1,none⟩=some (.slice bo1 d.bytes.1 bcap1):=T1x.b1.cell 1;have r_0:W1.cell? ⟨w.heap.size+1,0,none⟩=some (.int .i64 0):=T1x.b2.cell 0;have rf_0:W1.frozen? ⟨w.heap.size+1,0,none⟩=false:=T1x.b2.frozen 0;have r_1:W1.cell? ⟨w.heap.size+1,1,none⟩=some (.slice none 0 0):=T1x.b2.cell 1;have rf_1:W1.frozen? ⟨w.heap.size+1,1,none⟩=false:=T1x.b2.frozen 1;have HB:=hid T1x.bel;have zz:=T1x.b2.lt;clear T1x;go_wp2;refine bodyPost_ret (v:=.agg #[.int .i64 d.stamp,.slice bo1 d.bytes.1 bcap1]) (by simp [results,Tryz.results153,go_sem,r_0,y_0,r_1,y_1]) rfl ?_;have F:OwnT zah W1 (w.heap.size+1+1) w1.heap.size d ([.int .i64 d.stamp]++[.slice bo1 d.bytes.1 bcap1]):=OwnT.conv (OwnT.pre (A:=layI) (a:=d.stamp) (c:=[.int .i64 d.stamp]) ⟨rfl,Q0.out,rfl⟩ O1.out);refine ⟨[.int .i64 d.stamp,.slice bo1 d.bytes.1 bcap1],rfl,?_,?_⟩
 ·exact OwnT.finb (F.weaken (Nat.le_refl _) (by omega)) (b:=w.heap.size+1) (by omega) (by omega) 0 [.int .i64 d.stamp,.slice bo1 d.bytes.1 bcap1] _ rfl
 ·exact HB.out.trans (zaI (by omega) [.int .i64 d.stamp,.slice bo1 d.bytes.1 bcap1] 0)
set_option maxRecDepth 20000 in
theorem ze1:ToF (zah.slice 90) (szSl zaz) 152 153:=fun v d hi w h hhi hn=>by
 obtain ⟨n,x⟩:=d;obtain ⟨ao,cap,hv,hm,hc⟩:=h
 cases hv
 have hn1:=zbU hn;have hn2:∀ i,i<n→zaz (x i)≤1048576:=fun i hi=>zbf hn hi
 simp only at hn1 hm hc
 clear hn
 go_enter Tryz.func152,Tryz.ntmps152
 go_wp2_with (at_make;refine zbH zah [.int .i64 0,.slice none 0 0] _ 90 32 (zeK).hs rfl Tryz.underlying75 (zeK).hi x (fun _=>[]) _ rfl _ _ rfl _ _ n rfl rfl rfl rfl (by omega) (by omega) ?_;intro w1 sp1 hb1)
 go_loopw [12] (fun i wr=>∃ k:Nat,k≤n∧i=.int .i64 k∧∃ ce Ls,SlP zah 90 wr w.heap.size w.heap.size n n k x ce Ls∧Below w.heap.size w wr) (fun i _=>n-(intOf i).toNat)
 case atStart=>exact ⟨0,Nat.zero_le _,rfl,_,_,sp1,hb1⟩
 case round=>
  clear sp1 hb1;obtain ⟨k,hk,rfl,ce,Ls,sp,hb⟩:=hrel
  by_cases hlt:k<n
  ·obtain ⟨b,off,rfl,hblt,hel⟩:=hc (by omega)
   obtain ⟨ck,hrk,hcell⟩:=zap (t:=0) hel hb hhi hblt hlt;obtain ⟨ao1,cap1,rfl,-⟩:=zbb hrk;have c0:wr.cell? ⟨b,off+k*2,none⟩=some (.int .i64 (x k).stamp):=hcell 0 (by decide);have c1:wr.cell? ⟨b,off+k*2+1,none⟩=some (.slice ao1 (x k).bytes.1 cap1):=hcell 1 (by decide);clear hc hel hcell
   go_wp2_with fail
   refine (zfQ _ (x k) hi wr hrk (Nat.le_trans hhi hb.size) (hn2 k hlt)).mono ?_;rintro e w2 ⟨cs',rfl,o2,hb2⟩;obtain ⟨bao1,bcap1,rfl⟩:=zcU o2;obtain ⟨z0,s0⟩:=sp.some hb2 hlt (show 0<zah.sz by decide);have s0:w2.cell? ⟨w.heap.size,k*2,none⟩=some z0:=s0;have sf0:=(sp.below hb2).frozen (k*2);obtain ⟨z1,s1⟩:=sp.some hb2 hlt (show 1<zah.sz by decide);have s1:w2.cell? ⟨w.heap.size,k*2+1,none⟩=some z1:=s1;have sf1:=(sp.below hb2).frozen (k*2+1);have N:=sp.next hb2 hlt o2 hb.size;have N2:Below w.heap.size w (stN w2 w.heap.size (k*zah.sz) [.int .i64 (x k).stamp,.slice bao1 (x k).bytes.1 bcap1]):=(hb.trans (hb2.mono hb.size)).trans (zaI (Nat.le_refl _) _ _);clear o2 hb2 sp hb
   go_wp2_with fail
   go_roundw
   case rel=>
    obtain ⟨ce',Ls',N⟩:=N;exact ⟨k+1,by omega,by go_num,ce',Ls',N,N2⟩
   case measure=>simp [intOf];omega
  ·obtain rfl:k=n:=by omega
   go_wp2;go_ret;exact ⟨_,rfl,sp.done (Nat.le_refl _),hb⟩
set_option maxRecDepth 20000 in
theorem zfR:ToV zaa zam 129:=fun cs d hi w r hhi hn=>by
 obtain ⟨ao1,cap1,rfl,h1⟩:=zbh r;clear r;unfold zam at hn;have R1:=hid h1;clear h1;have T0:=zay w #[.bool d.wiped,.slice ao1 d.blocks.1 cap1] #[.bool false,.slice none 0 0] 77 77
 go_enter Tryz.func129,Tryz.ntmps129
 go_wp2_with fail
 refine (ze1 _ d.blocks hi _ ((zah.slice 90).rd_below R1.out T0.bel hhi) (Nat.le_trans hhi T0.bel.size) (by omega)).mono ?_;rintro e w1 ⟨v0,rfl,o0,b0⟩;obtain ⟨bo1,bcap1,hv⟩:=zby o0;obtain rfl:=zaK hv;clear hv;have T0c:=T0.call b0;have z0:=T0.b2.lt;have y0:=b0.size;have c0_1:w1.cell? ⟨w.heap.size,1,none⟩=some (.slice ao1 d.blocks.1 cap1):=T0c.b1.cell 1;have c0f_1:w1.frozen? ⟨w.heap.size,1,none⟩=false:=T0c.b1.frozen 1;have T1x:Two w (w1.setCell ⟨w.heap.size,1,none⟩ (.slice bo1 d.blocks.1 bcap1)) #[.bool d.wiped,.slice bo1 d.blocks.1 bcap1] #[.bool false,.slice none 0 0] 77 77:=⟨T0c.b1.stL [.slice bo1 d.blocks.1 bcap1] 1,T0c.b2.seto _ _ (by omega),T0c.bel.setCell (Nat.le_refl _) _⟩;have O1_0:=(o0.stN w.heap.size 1 [.slice bo1 d.blocks.1 bcap1] (by omega))
 have e1:(w1.setCell ⟨w.heap.size,1,none⟩ (.slice bo1 d.blocks.1 bcap1)).heap.size=w1.heap.size:=by simp
 clear o0 b0
 go_upto_region 2 with fail
 obtain ⟨W1,hW1⟩:∃ x,x=w1.setCell ⟨w.heap.size,1,none⟩ (.slice bo1 d.blocks.1 bcap1):=⟨_,rfl⟩
 have O1:Hid (OwnT (zah.slice 90) W1 (w.heap.size+1+1) (w1.heap.size) d.blocks [.slice bo1 d.blocks.1 bcap1]):=by rw [hW1];exact OwnT.weaken O1_0 (by simp) (Nat.le_refl _)
 rw [← hW1] at T1x e1 ⊢;clear hW1 O1_0 T0c c0_1 c0f_1;have y_0:W1.cell? ⟨w.heap.size,0,none⟩=some (.bool d.wiped):=T1x.b1.cell 0;have y_1:W1.cell? ⟨w.heap.size,1,none⟩=some (.slice bo1 d.blocks.1 bcap1):=T1x.b1.cell 1;have r_0:W1.cell? ⟨w.heap.size+1,0,none⟩=some (.bool false):=T1x.b2.cell 0;have rf_0:W1.frozen? ⟨w.heap.size+1,0,none⟩=false:=T1x.b2.frozen 0;have r_1:W1.cell? ⟨w.heap.size+1,1,none⟩=some (.slice none 0 0):=T1x.b2.cell 1;have rf_1:W1.frozen? ⟨w.heap.size+1,1,none⟩=false:=T1x.b2.frozen 1;have HB:=hid T1x.bel;have zz:=T1x.b2.lt;clear T1x;go_wp2;refine bodyPost_ret (v:=.agg #[.bool d.wiped,.slice bo1 d.blocks.1 bcap1]) (by simp [results,Tryz.results129,go_sem,r_0,y_0,r_1,y_1]) rfl ?_;have F:OwnT zaa W1 (w.heap.size+1+1) w1.heap.size d ([.bool d.wiped]++[.slice bo1 d.blocks.1 bcap1]):=OwnT.conv (OwnT.pre (A:=layB) (a:=d.wiped) (c:=[.bool d.wiped]) ⟨rfl,trivial,rfl⟩ O1.out);refine ⟨[.bool d.wiped,.slice bo1 d.blocks.1 bcap1],rfl,?_,?_⟩
 ·exact OwnT.finb (F.weaken (Nat.le_refl _) (by omega)) (b:=w.heap.size+1) (by omega) (by omega) 0 [.bool d.wiped,.slice bo1 d.blocks.1 bcap1] _ rfl
 ·exact HB.out.trans (zaI (by omega) [.bool d.wiped,.slice bo1 d.blocks.1 bcap1] 0)
set_option maxRecDepth 20000 in
theorem ze2:ToF (zaa.slice 77) (szSl zam) 128 129:=fun v d hi w h hhi hn=>by
 obtain ⟨n,x⟩:=d;obtain ⟨ao,cap,hv,hm,hc⟩:=h
 cases hv
 have hn1:=zbU hn;have hn2:∀ i,i<n→zam (x i)≤1048576:=fun i hi=>zbf hn hi
 simp only at hn1 hm hc
 clear hn
 go_enter Tryz.func128,Tryz.ntmps128
 go_wp2_with (at_make;refine zbH zaa [.bool false,.slice none 0 0] _ 77 32 (zeL).hs rfl Tryz.underlying78 (zeL).hi x (fun _=>[]) _ rfl _ _ rfl _ _ n rfl rfl rfl rfl (by omega) (by omega) ?_;intro w1 sp1 hb1)
 go_loopw [12] (fun i wr=>∃ k:Nat,k≤n∧i=.int .i64 k∧∃ ce Ls,SlP zaa 77 wr w.heap.size w.heap.size n n k x ce Ls∧Below w.heap.size w wr) (fun i _=>n-(intOf i).toNat)
 case atStart=>exact ⟨0,Nat.zero_le _,rfl,_,_,sp1,hb1⟩
 case round=>
  clear sp1 hb1;obtain ⟨k,hk,rfl,ce,Ls,sp,hb⟩:=hrel
  by_cases hlt:k<n
  ·obtain ⟨b,off,rfl,hblt,hel⟩:=hc (by omega)
   obtain ⟨ck,hrk,hcell⟩:=zap (t:=0) hel hb hhi hblt hlt;obtain ⟨ao1,cap1,rfl,-⟩:=zbh hrk;have c0:wr.cell? ⟨b,off+k*2,none⟩=some (.bool (x k).wiped):=hcell 0 (by decide);have c1:wr.cell? ⟨b,off+k*2+1,none⟩=some (.slice ao1 (x k).blocks.1 cap1):=hcell 1 (by decide);clear hc hel hcell
   go_wp2_with fail
   refine (zfR _ (x k) hi wr hrk (Nat.le_trans hhi hb.size) (hn2 k hlt)).mono ?_;rintro e w2 ⟨cs',rfl,o2,hb2⟩;obtain ⟨bao1,bcap1,rfl⟩:=zdO o2;obtain ⟨z0,s0⟩:=sp.some hb2 hlt (show 0<zaa.sz by decide);have s0:w2.cell? ⟨w.heap.size,k*2,none⟩=some z0:=s0;have sf0:=(sp.below hb2).frozen (k*2);obtain ⟨z1,s1⟩:=sp.some hb2 hlt (show 1<zaa.sz by decide);have s1:w2.cell? ⟨w.heap.size,k*2+1,none⟩=some z1:=s1;have sf1:=(sp.below hb2).frozen (k*2+1);have N:=sp.next hb2 hlt o2 hb.size;have N2:Below w.heap.size w (stN w2 w.heap.size (k*zaa.sz) [.bool (x k).wiped,.slice bao1 (x k).blocks.1 bcap1]):=(hb.trans (hb2.mono hb.size)).trans (zaI (Nat.le_refl _) _ _);clear o2 hb2 sp hb
   go_wp2_with fail
   go_roundw
   case rel=>
    obtain ⟨ce',Ls',N⟩:=N;exact ⟨k+1,by omega,by go_num,ce',Ls',N,N2⟩
   case measure=>simp [intOf];omega
  ·obtain rfl:k=n:=by omega
   go_wp2;go_ret;exact ⟨_,rfl,sp.done (Nat.le_refl _),hb⟩
theorem zfS:ToS (zaa.slice 77) (szSl zam) 92:=fun v d hi w h hhi hn=>by
 have C:=ze2 v d hi w h hhi hn;obtain ⟨ao,cap,hv,hm,hc⟩:=h
 cases hv
 clear hm hc
 go_enter Tryz.func92,Tryz.ntmps92
 go_wp2_with fail
 refine C.mono ?_;rintro e w1 ⟨v1,rfl,o1,b1⟩;have HO:=hid o1;have HB:=hid b1;clear o1 b1 C;go_wp2;go_ret;exact ⟨v1,rfl,HO.out,HB.out⟩
theorem zek:ToF ((zaa.slice 77).slice 78) (szSl (szSl zam)) 91 92:=fun v d hi w h hhi hn=>by
 obtain ⟨n,x⟩:=d;obtain ⟨ao,cap,hv,hm,hc⟩:=h
 cases hv
 have hn1:=zbU hn;have hn2:∀ i,i<n→szSl zam (x i)≤1048576:=fun i hi=>zbf hn hi
 simp only at hn1 hm hc
 clear hn
 go_enter Tryz.func91,Tryz.ntmps91
 go_wp2_with (at_make;refine zbH (zaa.slice 77) [.slice none 0 0] _ 78 24 zdV.hs rfl Tryz.underlying31 zdV.hi x (fun _=>[]) _ rfl _ _ rfl _ _ n rfl rfl rfl rfl (by omega) (by omega) ?_;intro w1 sp1 hb1)
 go_loopw [12] (fun i wr=>∃ k:Nat,k≤n∧i=.int .i64 k∧∃ ce Ls,SlP (zaa.slice 77) 78 wr w.heap.size w.heap.size n n k x ce Ls∧Below w.heap.size w wr) (fun i _=>n-(intOf i).toNat)
 case atStart=>exact ⟨0,Nat.zero_le _,rfl,_,_,sp1,hb1⟩
 case round=>
  clear sp1 hb1;obtain ⟨k,hk,rfl,ce,Ls,sp,hb⟩:=hrel
  by_cases hlt:k<n
  ·obtain ⟨b,off,rfl,hblt,hel⟩:=hc (by omega)
   obtain ⟨ck,hrk,hcell⟩:=zap (t:=0) hel hb hhi hblt hlt;obtain ⟨ao1,cap1,rfl⟩:=zbr hrk
   have c0:wr.cell? ⟨b,off+k,none⟩=some (.slice ao1 (x k).1 cap1):=by
    have:=hcell 0 (by decide)
    have e:off+(k*(zaa.slice 77).sz+0)=off+k:=by show off+(k*1+0)=off+k;omega
    rw [e] at this;exact this
   clear hc hel hcell
   go_wp2_with fail
   refine (zfS _ (x k) hi wr hrk (Nat.le_trans hhi hb.size) (hn2 k hlt)).mono ?_;rintro e w2 ⟨v2,rfl,o2,hb2⟩;obtain ⟨bao1,bcap1,hv2⟩:=zby o2;obtain rfl:=zaK hv2;obtain ⟨z0,s0⟩:=sp.some hb2 hlt (show 0<(zaa.slice 77).sz by decide)
   have e0:k*(zaa.slice 77).sz+0=k:=by show k*1+0=k;omega
   rw [e0] at s0;have sf0:=(sp.below hb2).frozen k;have N:=sp.next hb2 hlt o2 hb.size
   have e1:k*(zaa.slice 77).sz=k:=by show k*1=k;omega
   rw [e1] at N;have N2:Below w.heap.size w (stN w2 w.heap.size k [.slice bao1 (x k).1 bcap1]):=(hb.trans (hb2.mono hb.size)).trans (zaI (Nat.le_refl _) _ _);clear o2 hb2 sp hb hv2
   go_wp2_with fail
   go_roundw
   case rel=>
    obtain ⟨ce',Ls',N⟩:=N;exact ⟨k+1,by omega,by go_num,ce',Ls',N,N2⟩
   case measure=>simp [intOf];omega
  ·obtain rfl:k=n:=by omega
   go_wp2;go_ret;exact ⟨_,rfl,sp.done (Nat.le_refl _),hb⟩
set_option maxRecDepth 20000 in
theorem zfT:ToV zad zaT 56:=fun cs d hi w r hhi hn=>by
 obtain ⟨ao1,cap1,ao2,cap2,ao3,cap3,rfl,h1,h2,h3,k0,k4,k5⟩:=zaN r;clear r;unfold zaT at hn;have R1:=hid h1;have R2:=hid h2;have R3:=hid h3;clear h1 h2 h3;have Q0:=hid k0;have Q4:=hid k4;have Q5:=hid k5;clear k0 k4 k5;have T0:=zay w (rwW d ao1 cap1 ao2 cap2 ao3 cap3).toArray (rwV 0 0 0 0 0 0 0 0 0 none 0 0 none 0 0 none 0 0 0 0 false).toArray 34 34
 go_enter Tryz.func56,Tryz.ntmps56
 go_wp2_with fail
 refine (zek _ d.groups hi _ (((zaa.slice 77).slice 78).rd_below R1.out T0.bel hhi) (Nat.le_trans hhi T0.bel.size) (by omega)).mono ?_;rintro e w1 ⟨v0,rfl,o0,b0⟩;obtain ⟨bo1,bcap1,hv⟩:=zby o0;obtain rfl:=zaK hv;clear hv;have T0c:=T0.call b0;have z0:=T0.b2.lt;have y0:=b0.size;have c0_9:w1.cell? ⟨w.heap.size,9,none⟩=some (.slice ao1 d.groups.1 cap1):=T0c.b1.cell 9;have c0f_9:w1.frozen? ⟨w.heap.size,9,none⟩=false:=T0c.b1.frozen 9;have T1x:Two w (w1.setCell ⟨w.heap.size,9,none⟩ (.slice bo1 d.groups.1 bcap1)) (rwW d bo1 bcap1 ao2 cap2 ao3 cap3).toArray (rwV 0 0 0 0 0 0 0 0 0 none 0 0 none 0 0 none 0 0 0 0 false).toArray 34 34:=⟨T0c.b1.stL [.slice bo1 d.groups.1 bcap1] 9,T0c.b2.seto _ _ (by omega),T0c.bel.setCell (Nat.le_refl _) _⟩;have O1_0:=(o0.stN w.heap.size 9 [.slice bo1 d.groups.1 bcap1] (by omega))
 have e1:(w1.setCell ⟨w.heap.size,9,none⟩ (.slice bo1 d.groups.1 bcap1)).heap.size=w1.heap.size:=by simp
 clear o0 b0
 go_upto_region 2 with fail
 obtain ⟨W1,hW1⟩:∃ x,x=w1.setCell ⟨w.heap.size,9,none⟩ (.slice bo1 d.groups.1 bcap1):=⟨_,rfl⟩
 have O1:Hid (OwnT ((zaa.slice 77).slice 78) W1 (w.heap.size+1+1) (w1.heap.size) d.groups [.slice bo1 d.groups.1 bcap1]):=by rw [hW1];exact OwnT.weaken O1_0 (by simp) (Nat.le_refl _)
 rw [← hW1] at T1x e1 ⊢;clear hW1 O1_0 T0c c0_9 c0f_9;have a1_10:W1.cell? ⟨w.heap.size,10,none⟩=some (.slice ao2 d.on.1 cap2):=T1x.b1.cell 10
 go_wp2_with fail
 refine (zd0 _ d.on hi _ (zai.rd_below R2.out T1x.bel hhi) (Nat.le_trans hhi T1x.bel.size) (by omega)).mono ?_;rintro e w2 ⟨v1,rfl,o1,b1⟩;obtain ⟨bo2,bcap2,hv⟩:=zbR o1;obtain rfl:=zaK hv;clear hv;have T1c:=T1x.call b1;have z1:=T1x.b2.lt;have y1:=b1.size;have c1_10:w2.cell? ⟨w.heap.size,10,none⟩=some (.slice ao2 d.on.1 cap2):=T1c.b1.cell 10;have c1f_10:w2.frozen? ⟨w.heap.size,10,none⟩=false:=T1c.b1.frozen 10;have T2x:Two w (w2.setCell ⟨w.heap.size,10,none⟩ (.slice bo2 d.on.1 bcap2)) (rwW d bo1 bcap1 bo2 bcap2 ao3 cap3).toArray (rwV 0 0 0 0 0 0 0 0 0 none 0 0 none 0 0 none 0 0 0 0 false).toArray 34 34:=⟨T1c.b1.stL [.slice bo2 d.on.1 bcap2] 10,T1c.b2.seto _ _ (by omega),T1c.bel.setCell (Nat.le_refl _) _⟩;have O1_1:=(O1.out.call b1).stN w.heap.size 10 [.slice bo2 d.on.1 bcap2] (by omega);have O2_1:=(o1.stN w.heap.size 10 [.slice bo2 d.on.1 bcap2] (by omega))
 have e2:(w2.setCell ⟨w.heap.size,10,none⟩ (.slice bo2 d.on.1 bcap2)).heap.size=w2.heap.size:=by simp
 clear o1 b1 O1 T1x a1_10
 go_upto_region 3 with fail
 obtain ⟨W2,hW2⟩:∃ x,x=w2.setCell ⟨w.heap.size,10,none⟩ (.slice bo2 d.on.1 bcap2):=⟨_,rfl⟩
 have O1:Hid (OwnT ((zaa.slice 77).slice 78) W2 (w.heap.size+1+1) (w1.heap.size) d.groups [.slice bo1 d.groups.1 bcap1]):=by rw [hW2];exact O1_1
 have O2:Hid (OwnT zai W2 (W1.heap.size) (w2.heap.size) d.on [.slice bo2 d.on.1 bcap2]):=by rw [hW2];exact O2_1
 rw [← hW2] at T2x e2 ⊢;clear hW2 O1_1 O2_1 T1c c1_10 c1f_10;have a2_11:W2.cell? ⟨w.heap.size,11,none⟩=some (.slice ao3 d.tapes.1 cap3):=T2x.b1.cell 11
 go_wp2_with fail
 refine (zfL _ d.tapes hi _ ((zag.slice 57).rd_below R3.out T2x.bel hhi) (Nat.le_trans hhi T2x.bel.size) (by omega)).mono ?_;rintro e w3 ⟨v2,rfl,o2,b2⟩;obtain ⟨bo3,bcap3,hv⟩:=zby o2;obtain rfl:=zaK hv;clear hv;have T2c:=T2x.call b2;have z2:=T2x.b2.lt;have y2:=b2.size;have c2_11:w3.cell? ⟨w.heap.size,11,none⟩=some (.slice ao3 d.tapes.1 cap3):=T2c.b1.cell 11;have c2f_11:w3.frozen? ⟨w.heap.size,11,none⟩=false:=T2c.b1.frozen 11;have T3x:Two w (w3.setCell ⟨w.heap.size,11,none⟩ (.slice bo3 d.tapes.1 bcap3)) (rwW d bo1 bcap1 bo2 bcap2 bo3 bcap3).toArray (rwV 0 0 0 0 0 0 0 0 0 none 0 0 none 0 0 none 0 0 0 0 false).toArray 34 34:=⟨T2c.b1.stL [.slice bo3 d.tapes.1 bcap3] 11,T2c.b2.seto _ _ (by omega),T2c.bel.setCell (Nat.le_refl _) _⟩;have O1_2:=(O1.out.call b2).stN w.heap.size 11 [.slice bo3 d.tapes.1 bcap3] (by omega);have O2_2:=(O2.out.call b2).stN w.heap.size 11 [.slice bo3 d.tapes.1 bcap3] (by omega);have O3_2:=(o2.stN w.heap.size 11 [.slice bo3 d.tapes.1 bcap3] (by omega))
 have e3:(w3.setCell ⟨w.heap.size,11,none⟩ (.slice bo3 d.tapes.1 bcap3)).heap.size=w3.heap.size:=by simp
 clear o2 b2 O1 O2 T2x a2_11
 go_upto_region 4 with fail
 obtain ⟨W3,hW3⟩:∃ x,x=w3.setCell ⟨w.heap.size,11,none⟩ (.slice bo3 d.tapes.1 bcap3):=⟨_,rfl⟩
 have O1:Hid (OwnT ((zaa.slice 77).slice 78) W3 (w.heap.size+1+1) (w1.heap.size) d.groups [.slice bo1 d.groups.1 bcap1]):=by rw [hW3];exact O1_2
 have O2:Hid (OwnT zai W3 (W1.heap.size) (w2.heap.size) d.on [.slice bo2 d.on.1 bcap2]):=by rw [hW3];exact O2_2
 have O3:Hid (OwnT (zag.slice 57) W3 (W2.heap.size) (w3.heap.size) d.tapes [.slice bo3 d.tapes.1 bcap3]):=by rw [hW3];exact O3_2
 rw [← hW3] at T3x e3 ⊢;clear hW3 O1_2 O2_2 O3_2 T2c c2_11 c2f_11;have y_0:W3.cell? ⟨w.heap.size,0,none⟩=some (.int .i64 (d.shape 0)):=T3x.b1.cell 0;have y_1:W3.cell? ⟨w.heap.size,1,none⟩=some (.int .i64 (d.shape 1)):=T3x.b1.cell 1;have y_2:W3.cell? ⟨w.heap.size,2,none⟩=some (.int .i64 (d.shape 2)):=T3x.b1.cell 2;have y_3:W3.cell? ⟨w.heap.size,3,none⟩=some (.int .i64 (d.shape 3)):=T3x.b1.cell 3;have y_4:W3.cell? ⟨w.heap.size,4,none⟩=some (.int .i64 (d.shape 4)):=T3x.b1.cell 4;have y_5:W3.cell? ⟨w.heap.size,5,none⟩=some (.int .i64 (d.shape 5)):=T3x.b1.cell 5;have y_6:W3.cell? ⟨w.heap.size,6,none⟩=some (.int .i64 (d.shape 6)):=T3x.b1.cell 6;have y_7:W3.cell? ⟨w.heap.size,7,none⟩=some (.int .i64 (d.shape 7)):=T3x.b1.cell 7;have y_8:W3.cell? ⟨w.heap.size,8,none⟩=some (.int .i64 (d.shape 8)):=T3x.b1.cell 8;have y_9:W3.cell? ⟨w.heap.size,9,none⟩=some (.slice bo1 d.groups.1 bcap1):=T3x.b1.cell 9;have y_10:W3.cell? ⟨w.heap.size,10,none⟩=some (.slice bo2 d.on.1 bcap2):=T3x.b1.cell 10;have y_11:W3.cell? ⟨w.heap.size,11,none⟩=some (.slice bo3 d.tapes.1 bcap3):=T3x.b1.cell 11;have y_12:W3.cell? ⟨w.heap.size,12,none⟩=some (.int .i64 d.writes):=T3x.b1.cell 12;have y_13:W3.cell? ⟨w.heap.size,13,none⟩=some (.int .i64 d.stop):=T3x.b1.cell 13;have y_14:W3.cell? ⟨w.heap.size,14,none⟩=some (.bool d.down):=T3x.b1.cell 14;have r_0:W3.cell? ⟨w.heap.size+1,0,none⟩=some (.int .i64 0):=T3x.b2.cell 0;have rf_0:W3.frozen? ⟨w.heap.size+1,0,none⟩=false:=T3x.b2.frozen 0;have r_1:W3.cell? ⟨w.heap.size+1,1,none⟩=some (.int .i64 0):=T3x.b2.cell 1;have rf_1:W3.frozen? ⟨w.heap.size+1,1,none⟩=false:=T3x.b2.frozen 1;have r_2:W3.cell? ⟨w.heap.size+1,2,none⟩=some (.int .i64 0):=T3x.b2.cell 2;have rf_2:W3.frozen? ⟨w.heap.size+1,2,none⟩=false:=T3x.b2.frozen 2;have r_3:W3.cell? ⟨w.heap.size+1,3,none⟩=some (.int .i64 0):=T3x.b2.cell 3;have rf_3:W3.frozen? ⟨w.heap.size+1,3,none⟩=false:=T3x.b2.frozen 3;have r_4:W3.cell? ⟨w.heap.size+1,4,none⟩=some (.int .i64 0):=T3x.b2.cell 4;have rf_4:W3.frozen? ⟨w.heap.size+1,4,none⟩=false:=T3x.b2.frozen 4;have r_5:W3.cell? ⟨w.heap.size+1,5,none⟩=some (.int .i64 0):=T3x.b2.cell 5;have rf_5:W3.frozen? ⟨w.heap.size+1,5,none⟩=false:=T3x.b2.frozen 5;have r_6:W3.cell? ⟨w.heap.size+1,6,none⟩=some (.int .i64 0):=T3x.b2.cell 6;have rf_6:W3.frozen? ⟨w.heap.size+1,6,none⟩=false:=T3x.b2.frozen 6;have r_7:W3.cell? ⟨w.heap.size+1,7,none⟩=some (.int .i64 0):=T3x.b2.cell 7;have rf_7:W3.frozen? ⟨w.heap.size+1,7,none⟩=false:=T3x.b2.frozen 7;have r_8:W3.cell? ⟨w.heap.size+1,8,none⟩=some (.int .i64 0):=T3x.b2.cell 8;have rf_8:W3.frozen? ⟨w.heap.size+1,8,none⟩=false:=T3x.b2.frozen 8;have r_9:W3.cell? ⟨w.heap.size+1,9,none⟩=some (.slice none 0 0):=T3x.b2.cell 9;have rf_9:W3.frozen? ⟨w.heap.size+1,9,none⟩=false:=T3x.b2.frozen 9
 have r_10:W3.cell? ⟨w.heap.size+1,10,none⟩=some (.slice none 0 0):=T3x.b2.cell 10;have rf_10:W3.frozen? ⟨w.heap.size+1,10,none⟩=false:=T3x.b2.frozen 10;have r_11:W3.cell? ⟨w.heap.size+1,11,none⟩=some (.slice none 0 0):=T3x.b2.cell 11;have rf_11:W3.frozen? ⟨w.heap.size+1,11,none⟩=false:=T3x.b2.frozen 11;have r_12:W3.cell? ⟨w.heap.size+1,12,none⟩=some (.int .i64 0):=T3x.b2.cell 12;have rf_12:W3.frozen? ⟨w.heap.size+1,12,none⟩=false:=T3x.b2.frozen 12;have r_13:W3.cell? ⟨w.heap.size+1,13,none⟩=some (.int .i64 0):=T3x.b2.cell 13;have rf_13:W3.frozen? ⟨w.heap.size+1,13,none⟩=false:=T3x.b2.frozen 13;have r_14:W3.cell? ⟨w.heap.size+1,14,none⟩=some (.bool false):=T3x.b2.cell 14;have rf_14:W3.frozen? ⟨w.heap.size+1,14,none⟩=false:=T3x.b2.frozen 14;have HB:=hid T3x.bel;have zz:=T3x.b2.lt;clear T3x;go_wp2;refine bodyPost_ret (v:=.agg (rwW d bo1 bcap1 bo2 bcap2 bo3 bcap3).toArray) (by simp [results,Tryz.results56,go_sem,r_0,y_0,r_1,y_1,r_2,y_2,r_3,y_3,r_4,y_4,r_5,y_5,r_6,y_6,r_7,y_7,r_8,y_8,r_9,y_9,r_10,y_10,r_11,y_11,r_12,y_12,r_13,y_13,r_14,y_14]) rfl ?_;have F:OwnT zad W3 (w.heap.size+1+1) w3.heap.size d ((rwS d.shape)++([.slice bo1 d.groups.1 bcap1]++([.slice bo2 d.on.1 bcap2]++([.slice bo3 d.tapes.1 bcap3]++([.int .i64 d.writes]++([.int .i64 d.stop]++[.bool d.down])))))):=OwnT.conv (OwnT.pre (A:=(zdg 9)) (a:=d.shape) (c:=(rwS d.shape)) ⟨rfl,Q0.out,rfl⟩ (OwnT.two O1.out (OwnT.two O2.out (OwnT.two O3.out (OwnT.pre (A:=layI) (a:=d.writes) (c:=[.int .i64 d.writes]) ⟨rfl,Q4.out,rfl⟩ (OwnT.pre (A:=layI) (a:=d.stop) (c:=[.int .i64 d.stop]) ⟨rfl,Q5.out,rfl⟩ (OwnT.nil (A:=layB) (a:=d.down) (c:=[.bool d.down]) ⟨rfl,trivial,rfl⟩ _ _))) (Nat.le_refl _) (by omega) (by omega)) (by omega) (by omega) (by omega)) (by omega) (by omega) (by omega)));refine ⟨(rwW d bo1 bcap1 bo2 bcap2 bo3 bcap3),rfl,?_,?_⟩
 ·exact OwnT.finb (F.weaken (Nat.le_refl _) (by omega)) (b:=w.heap.size+1) (by omega) (by omega) 0 (rwW d bo1 bcap1 bo2 bcap2 bo3 bcap3) _ rfl
 ·exact HB.out.trans (zaI (by omega) (rwW d bo1 bcap1 bo2 bcap2 bo3 bcap3) 0)
set_option maxRecDepth 20000 in
theorem ziv (E:Nat) (v0 v1 v2 v3 v4 v5 v6 v7 v8 vp0 vl0 vq0 vp1 vl1 vq1 vp2 vl2 vq2 v9 v10 vb:_) (d:WorldD) (K:List Nat) (T:Nat) (kd sq:Int) (w:World) (hX:Box w E #[.int .i32 0,.int .u32 0,.int .u32 0,.int .i32 0,.int .u32 0,.int .i64 v0,.int .i64 v1,.int .i64 v2,.int .i64 v3,.int .i64 v4,.int .i64 v5,.int .i64 v6,.int .i64 v7,.int .i64 v8,.slice vp0 vl0 vq0,.slice vp1 vl1 vq1,.slice vp2 vl2 vq2,.int .i64 v9,.int .i64 v10,.bool vb] 110) (hO:EncO w E d [.int .i64 v0,.int .i64 v1,.int .i64 v2,.int .i64 v3,.int .i64 v4,.int .i64 v5,.int .i64 v6,.int .i64 v7,.int .i64 v8,.slice vp0 vl0 vq0,.slice vp1 vl1 vq1,.slice vp2 vl2 vq2,.int .i64 v9,.int .i64 v10,.bool vb] K) (hT:T<d.tapes.1) (hn:(d.tapes.2 T).recs.1≤1048576) (hpw:¬ (v10≠-1∧v10≤v9)) (hwr:-9223372036854775808≤d.writes∧d.writes+1≤9223372036854775807) :
 Calls Tryz.prog 32 #[.pointer (some ⟨E,0,none⟩),.int .i64 (T:Int),.int .i64 kd,.int .i64 sq] w fun e w'=>e=.returned (.tuple #[])∧∃ cs' K',Box w' E (([.int .i32 0,.int .u32 0,.int .u32 0,.int .i32 0,.int .u32 0]:List Value)++cs').toArray 110∧EncO w' E { zb7 d T kd sq with writes:=d.writes+1 } cs' K'∧(∀ b,b∈K'→b∈K∨w.heap.size≤b)∧ChgL (E::K) w w':=by
 have hmf:∀ (fn:Fn) (first cap:Array Value) (w:World),(Instr.makeFunc fn first cap).run Tryz.prog w=.ok (.func fn first cap) w:=fun _ _ _ _=>rfl;have hE:E<w.heap.size:=hX.lt;have TB:=zbu w #[.int .i64 (T:Int)] #[.int .i64 kd] #[.int .i64 sq] 2 2 2;have X1:=hX.below TB.bel hE
 go_enter Tryz.func32,Tryz.ntmps32
 go_upto_region 1 with fail
 obtain ⟨W,hW⟩:∃ x,x=(((w.alloc (.cells #[.int .i64 (T:Int)] 2)).alloc (.cells #[.int .i64 kd] 2)).alloc (.cells #[.int .i64 sq] 2)):=⟨_,rfl⟩;rw [← hW] at TB X1 ⊢;have zW:w.heap.size≤W.heap.size:=TB.bel.size;clear hW hX;have O1:EncO W E d (rwV v0 v1 v2 v3 v4 v5 v6 v7 v8 vp0 vl0 vq0 vp1 vl1 vq1 vp2 vl2 vq2 v9 v10 vb) K:=⟨Lay.own_kept _ hO.own (fun b hb=>TB.bel.block b (zad.own_lt hO.own b hb)),hO.nd,hO.ne⟩;have CR:=zd9 E v0 v1 v2 v3 v4 v5 v6 v7 v8 vp0 vl0 vq0 vp1 vl1 vq1 vp2 vl2 vq2 v9 v10 vb d (zb7 d T kd sq) K w.heap.size (w.heap.size+1) (w.heap.size+1+1) W X1 O1 hpw hwr (fun W' hX' hO' hC'=>zfP E d _ K _ _ _ T kd sq hT hn W' hX' hO' ((World.cell?_of_block (hC'.block (w.heap.size) TB.b1.lt (by simp;omega))).trans (TB.b1.cell 0)) ((World.cell?_of_block (hC'.block (w.heap.size+1) TB.b2.lt (by simp;omega))).trans (TB.b2.cell 0)) ((World.cell?_of_block (hC'.block (w.heap.size+1+1) TB.b3.lt (by simp;omega))).trans (TB.b3.cell 0)) ⟨by have:=hC'.size;have:=TB.b3.lt;omega,fun hb=>by have:=zad.own_lt hO.own _ hb;omega⟩ ⟨by have:=hC'.size;have:=TB.b3.lt;omega,fun hb=>by have:=zad.own_lt hO.own _ hb;omega⟩ ⟨by have:=hC'.size;have:=TB.b3.lt;omega,fun hb=>by have:=zad.own_lt hO.own _ hb;omega⟩);have HCR:=CR;clear CR hO hpw hwr O1 X1
 go_wp2_with (go_at_call 58;refine HCR.mono ?_;rintro e w5 ⟨rfl,cs',K',X5,O5,s5,C5⟩)
 go_end0
 exact ⟨rfl,cs',K',X5,O5,fun b hb=>(s5 b hb).imp id (fun h=>by omega),(ChgL.of_below TB.bel).trans C5⟩
set_option maxRecDepth 20000 in
theorem zgK (E:Nat) (v0 v1 v2 v3 v4 v5 v6 v7 v8 vp0 vl0 vq0 vp1 vl1 vq1 vp2 vl2 vq2 v9 v10 vb:_) (d:WorldD) (K:List Nat) (T:Nat) (kd sq:Int) (w:World) (hX:Box w E #[.int .i32 0,.int .u32 0,.int .u32 0,.int .i32 0,.int .u32 0,.int .i64 v0,.int .i64 v1,.int .i64 v2,.int .i64 v3,.int .i64 v4,.int .i64 v5,.int .i64 v6,.int .i64 v7,.int .i64 v8,.slice vp0 vl0 vq0,.slice vp1 vl1 vq1,.slice vp2 vl2 vq2,.int .i64 v9,.int .i64 v10,.bool vb] 110) (h1:∀ x,x∈([.int .i64 v0,.int .i64 v1,.int .i64 v2,.int .i64 v3,.int .i64 v4,.int .i64 v5,.int .i64 v6,.int .i64 v7,.int .i64 v8,.slice vp0 vl0 vq0,.slice none 0 0,.slice vp2 vl2 vq2,.int .i64 v9,.int .i64 v10,.bool true]:List Value)→x.oneCell'=true) (hs:v10≠-1) (hw:v10≤v9) :
 Calls Tryz.prog 32 #[.pointer (some ⟨E,0,none⟩),.int .i64 (T:Int),.int .i64 kd,.int .i64 sq] w fun e w'=>e=.panicked [{ v:=.iface 139 (.agg #[]),recovered:=false }]∧Box w' E #[.int .i32 0,.int .u32 0,.int .u32 1,.int .i32 0,.int .u32 0,.int .i64 v0,.int .i64 v1,.int .i64 v2,.int .i64 v3,.int .i64 v4,.int .i64 v5,.int .i64 v6,.int .i64 v7,.int .i64 v8,.slice vp0 vl0 vq0,.slice none 0 0,.slice vp2 vl2 vq2,.int .i64 v9,.int .i64 v10,.bool true] 110∧ChgL [E] w w':=by
 have hmf:∀ (fn:Fn) (first cap:Array Value) (w:World),(Instr.makeFunc fn first cap).run Tryz.prog w=.ok (.func fn first cap) w:=fun _ _ _ _=>rfl;have hE:E<w.heap.size:=hX.lt;have TB:=zbu w #[.int .i64 (T:Int)] #[.int .i64 kd] #[.int .i64 sq] 2 2 2;have X1:=hX.below TB.bel hE
 go_enter Tryz.func32,Tryz.ntmps32
 go_upto_region 1 with fail
 obtain ⟨W,hW⟩:∃ x,x=(((w.alloc (.cells #[.int .i64 (T:Int)] 2)).alloc (.cells #[.int .i64 kd] 2)).alloc (.cells #[.int .i64 sq] 2)):=⟨_,rfl⟩;rw [← hW] at TB X1 ⊢;have zW:w.heap.size≤W.heap.size:=TB.bel.size;clear hW hX;have CR:=fun fv=>zeY E v0 v1 v2 v3 v4 v5 v6 v7 v8 vp0 vl0 vq0 vp1 vl1 vq1 vp2 vl2 vq2 v9 v10 vb fv W X1 h1 hs hw;clear h1 hs hw X1
 go_wp2_with (go_at_call 58;refine (CR _).mono ?_;rintro e w5 ⟨rfl,X5,C5⟩)
 exact ⟨rfl,rfl,X5,(ChgL.of_below TB.bel).trans C5⟩
theorem ze3 (E:Nat) (v0 v1 v2 v3 v4 v5 v6 v7 v8 vp0 vl0 vq0 vp1 vl1 vq1 vp2 vl2 vq2 v9 v10 vb:_) (d:WorldD) (K:List Nat) (T:Nat) (kd sq:Int) (w:World) (hX:Box w E #[.int .i32 0,.int .u32 0,.int .u32 0,.int .i32 0,.int .u32 0,.int .i64 v0,.int .i64 v1,.int .i64 v2,.int .i64 v3,.int .i64 v4,.int .i64 v5,.int .i64 v6,.int .i64 v7,.int .i64 v8,.slice vp0 vl0 vq0,.slice vp1 vl1 vq1,.slice vp2 vl2 vq2,.int .i64 v9,.int .i64 v10,.bool vb] 110) (a0 a1 a2:Nat) (h0:w.cell? ⟨a0,0,none⟩=some (.int .i64 (T:Int))) (h01:w.cell? ⟨a1,0,none⟩=some (.int .i64 kd)) (h02:w.cell? ⟨a2,0,none⟩=some (.int .i64 sq)) (hO:EncO w E d [.int .i64 v0,.int .i64 v1,.int .i64 v2,.int .i64 v3,.int .i64 v4,.int .i64 v5,.int .i64 v6,.int .i64 v7,.int .i64 v8,.slice vp0 vl0 vq0,.slice vp1 vl1 vq1,.slice vp2 vl2 vq2,.int .i64 v9,.int .i64 v10,.bool vb] K) (hT:T<d.tapes.1) (hn:(d.tapes.2 T).recs.1≤1048576) (hpw:¬ (v10≠-1∧v10≤v9)) (hwr:-9223372036854775808≤d.writes∧d.writes+1≤9223372036854775807) :
 Calls Tryz.prog 31 #[.pointer (some ⟨E,0,none⟩),.pointer (some ⟨a0,0,none⟩),.pointer (some ⟨a1,0,none⟩),.pointer (some ⟨a2,0,none⟩)] w fun e w'=>e=.returned (.tuple #[])∧∃ cs' K',Box w' E (([.int .i32 0,.int .u32 0,.int .u32 0,.int .i32 0,.int .u32 0]:List Value)++cs').toArray 110∧EncO w' E { zb7 d T kd sq with writes:=d.writes+1 } cs' K'∧(∀ b,b∈K'→b∈K∨w.heap.size≤b)∧ChgL (E::K) w w':=by
 have CR:=ziv E v0 v1 v2 v3 v4 v5 v6 v7 v8 vp0 vl0 vq0 vp1 vl1 vq1 vp2 vl2 vq2 v9 v10 vb d K T kd sq w hX hO hT hn hpw hwr;clear hX hO hT hn hpw hwr
 go_enter Tryz.func31,Tryz.ntmps31
 go_wp2_with (go_at_call 32;refine CR.mono ?_;rintro e w5 ⟨rfl,cs',K',X5,O5,s5,C5⟩)
 go_end0
 exact ⟨rfl,cs',K',X5,O5,s5,C5⟩
theorem zea (E:Nat) (v0 v1 v2 v3 v4 v5 v6 v7 v8 vp0 vl0 vq0 vp1 vl1 vq1 vp2 vl2 vq2 v9 v10 vb:_) (d:WorldD) (K:List Nat) (T:Nat) (kd sq:Int) (w:World) (hX:Box w E #[.int .i32 0,.int .u32 0,.int .u32 0,.int .i32 0,.int .u32 0,.int .i64 v0,.int .i64 v1,.int .i64 v2,.int .i64 v3,.int .i64 v4,.int .i64 v5,.int .i64 v6,.int .i64 v7,.int .i64 v8,.slice vp0 vl0 vq0,.slice vp1 vl1 vq1,.slice vp2 vl2 vq2,.int .i64 v9,.int .i64 v10,.bool vb] 110) (a0 a1 a2:Nat) (h0:w.cell? ⟨a0,0,none⟩=some (.int .i64 (T:Int))) (h01:w.cell? ⟨a1,0,none⟩=some (.int .i64 kd)) (h02:w.cell? ⟨a2,0,none⟩=some (.int .i64 sq)) (h1:∀ x,x∈([.int .i64 v0,.int .i64 v1,.int .i64 v2,.int .i64 v3,.int .i64 v4,.int .i64 v5,.int .i64 v6,.int .i64 v7,.int .i64 v8,.slice vp0 vl0 vq0,.slice none 0 0,.slice vp2 vl2 vq2,.int .i64 v9,.int .i64 v10,.bool true]:List Value)→x.oneCell'=true) (hs:v10≠-1) (hw:v10≤v9) :
 Calls Tryz.prog 31 #[.pointer (some ⟨E,0,none⟩),.pointer (some ⟨a0,0,none⟩),.pointer (some ⟨a1,0,none⟩),.pointer (some ⟨a2,0,none⟩)] w fun e w'=>e=.panicked [{ v:=.iface 139 (.agg #[]),recovered:=false }]∧Box w' E #[.int .i32 0,.int .u32 0,.int .u32 1,.int .i32 0,.int .u32 0,.int .i64 v0,.int .i64 v1,.int .i64 v2,.int .i64 v3,.int .i64 v4,.int .i64 v5,.int .i64 v6,.int .i64 v7,.int .i64 v8,.slice vp0 vl0 vq0,.slice none 0 0,.slice vp2 vl2 vq2,.int .i64 v9,.int .i64 v10,.bool true] 110∧ChgL [E] w w':=by
 have CR:=zgK E v0 v1 v2 v3 v4 v5 v6 v7 v8 vp0 vl0 vq0 vp1 vl1 vq1 vp2 vl2 vq2 v9 v10 vb d K T kd sq w hX h1 hs hw;clear hX h1 hs hw
 go_enter Tryz.func31,Tryz.ntmps31
 go_wp2_with (go_at_call 32;refine CR.mono ?_;rintro e w5 ⟨rfl,X5,C5⟩)
 exact ⟨rfl,rfl,X5,C5⟩
set_option maxRecDepth 100000 in
theorem zfU (d:WorldD) (cs:List Value) (hi:Nat) (T:Nat) (kd sq:Int) (a0 a1 a2:Nat) (w:World) (h:zad.rd w hi d cs) (hhi:hi≤w.heap.size) (hsz:zaT d≤1048576) (hc0:w.cell? ⟨a0,0,none⟩=some (.int .i64 (T:Int))) (hl0:a0<w.heap.size) (hc1:w.cell? ⟨a1,0,none⟩=some (.int .i64 kd)) (hl1:a1<w.heap.size) (hc2:w.cell? ⟨a2,0,none⟩=some (.int .i64 sq)) (hl2:a2<w.heap.size) (hT:T<d.tapes.1) (hn:(d.tapes.2 T).recs.1≤1048576) (hwr:-9223372036854775808≤d.writes∧d.writes+1≤9223372036854775807) (P:WorldResultD→Prop) (hPf:d.stop≠-1∧d.stop≤d.writes→P ⟨9,cutW d⟩) (hPo:¬ (d.stop≠-1∧d.stop≤d.writes)→P ⟨0,{ zb7 d T kd sq with writes:=d.writes+1 }⟩) :
 Calls Tryz.prog 30 #[.agg cs.toArray,.func (.func 31) #[] #[.pointer (some ⟨a0,0,none⟩),.pointer (some ⟨a1,0,none⟩),.pointer (some ⟨a2,0,none⟩)]] w (zcj P w):=by
 obtain ⟨v0,v1,v2,v3,v4,v5,v6,v7,v8,vp0,vl0,vq0,vp1,vl1,vq1,vp2,vl2,vq2,v9,v10,vb,rfl⟩:=zgz h;have hmf:∀ (fn:Fn) (first cap:Array Value) (w:World),(Instr.makeFunc fn first cap).run Tryz.prog w=.ok (.func fn first cap) w:=fun _ _ _ _=>rfl;have T0:=zay w #[.int .i64 v0,.int .i64 v1,.int .i64 v2,.int .i64 v3,.int .i64 v4,.int .i64 v5,.int .i64 v6,.int .i64 v7,.int .i64 v8,.slice vp0 vl0 vq0,.slice vp1 vl1 vq1,.slice vp2 vl2 vq2,.int .i64 v9,.int .i64 v10,.bool vb] #[.int .i64 0,.int .i64 0,.int .i64 0,.int .i64 0,.int .i64 0,.int .i64 0,.int .i64 0,.int .i64 0,.int .i64 0,.int .i64 0,.slice none 0 0,.slice none 0 0,.slice none 0 0,.int .i64 0,.int .i64 0,.bool false] 34 36;have CC:=fun w' (hb:Below w.heap.size w w')=>zfT [.int .i64 v0,.int .i64 v1,.int .i64 v2,.int .i64 v3,.int .i64 v4,.int .i64 v5,.int .i64 v6,.int .i64 v7,.int .i64 v8,.slice vp0 vl0 vq0,.slice vp1 vl1 vq1,.slice vp2 vl2 vq2,.int .i64 v9,.int .i64 v10,.bool vb] d hi w' (zad.rd_below h hb hhi) (Nat.le_trans hhi hb.size) hsz;clear h
 go_enter_defers Tryz.func30,Tryz.ntmps30
 go_wp2_with (refine zat 34 (.tmp 2) rfl rfl (w.heap.size) rfl (T0.b1) Tryz.underlying34 zbN rfl ?_)
 refine (CC _ T0.bel).mono ?_;rintro e w2 ⟨c2,rfl,o2,b2⟩;obtain ⟨u0,u1,u2,u3,u4,u5,u6,u7,u8,up0,ul0,uq0,up1,ul1,uq1,up2,ul2,uq2,u9,u10,ub,rfl⟩:=zg2 o2;have T2:=T0.call b2;have z2:w.heap.size+1<w2.heap.size:=T2.b2.lt;have TB:=zay w2 #[.int .i32 0,.int .u32 0,.int .u32 0,.int .i32 0,.int .u32 0,.int .i64 u0,.int .i64 u1,.int .i64 u2,.int .i64 u3,.int .i64 u4,.int .i64 u5,.int .i64 u6,.int .i64 u7,.int .i64 u8,.slice up0 ul0 uq0,.slice up1 ul1 uq1,.slice up2 ul2 uq2,.int .i64 u9,.int .i64 u10,.bool ub] #[.pointer (some ⟨w2.heap.size,0,none⟩)] 110 64;obtain ⟨K,hk1,hk2,hk3⟩:=o2;have hkz:∀ b,b∈K→w.heap.size≤b∧b<w2.heap.size:=fun b hb=>⟨by have:=hk3 b hb;simp at this;omega,(hk3 b hb).2⟩
 go_upto_region 2 with fail
 obtain ⟨W3,hW3⟩:∃ x,x=(w2.alloc (.cells #[.int .i32 0,.int .u32 0,.int .u32 0,.int .i32 0,.int .u32 0,.int .i64 u0,.int .i64 u1,.int .i64 u2,.int .i64 u3,.int .i64 u4,.int .i64 u5,.int .i64 u6,.int .i64 u7,.int .i64 u8,.slice up0 ul0 uq0,.slice up1 ul1 uq1,.slice up2 ul2 uq2,.int .i64 u9,.int .i64 u10,.bool ub] 110)).alloc (.cells #[.pointer (some ⟨w2.heap.size,0,none⟩)] 64):=⟨_,rfl⟩;rw [← hW3] at TB ⊢;clear hW3;have T3:=T2.call TB.bel;have O3:EncO W3 w2.heap.size d [.int .i64 u0,.int .i64 u1,.int .i64 u2,.int .i64 u3,.int .i64 u4,.int .i64 u5,.int .i64 u6,.int .i64 u7,.int .i64 u8,.slice up0 ul0 uq0,.slice up1 ul1 uq1,.slice up2 ul2 uq2,.int .i64 u9,.int .i64 u10,.bool ub] K:=⟨Lay.own_kept _ hk1 (fun b hb=>TB.bel.block b (hkz b hb).2),hk2,fun hb=>by have:=hkz _ hb;omega⟩;have z3:w2.heap.size+1<W3.heap.size:=TB.b2.lt;have hst:=zji hk1;have hwt:=zd6 hk1;have q0:W3.cell? ⟨a0,0,none⟩=some (.int .i64 (T:Int)):=(T3.bel.cell (p:=⟨a0,0,none⟩) hl0).trans hc0;have q1:W3.cell? ⟨a1,0,none⟩=some (.int .i64 kd):=(T3.bel.cell (p:=⟨a1,0,none⟩) hl1).trans hc1;have q2:W3.cell? ⟨a2,0,none⟩=some (.int .i64 sq):=(T3.bel.cell (p:=⟨a2,0,none⟩) hl2).trans hc2;have x5:W3.cell? ⟨w2.heap.size+1,0,none⟩=some (.pointer (some ⟨w2.heap.size,0,none⟩)):=TB.b2.cell 0
 by_cases hf:u10≠-1∧u10≤u9
 ·have hP:P ⟨9,cutW d⟩:=hPf (by rw [← hst,← hwt];exact hf)
  obtain ⟨KC,kc1,kc2,kc3⟩:=ziM hk1 hk2;have CF:=zea w2.heap.size u0 u1 u2 u3 u4 u5 u6 u7 u8 up0 ul0 uq0 up1 ul1 uq1 up2 ul2 uq2 u9 u10 ub d K T kd sq W3 TB.b1 a0 a1 a2 q0 q1 q2 (fun x hx=>zad.own_one kc1 x hx) hf.1 hf.2;have HS:Hid (u10=d.stop∧u9=d.writes):=⟨hst,hwt⟩;clear hst hwt hf hPf hPo
  go_wp2_with (go_at_call 31;refine CF.mono ?_;rintro e w5 ⟨rfl,X5,C5⟩)
  have hR5:=T3.b2.chgl C5 (by simp;omega);have P5:=TB.b2.chgl C5 (by simp);refine leaves_cons (f:=57) (args:=#[.pointer (some ⟨w.heap.size+1,0,none⟩),.pointer (some ⟨w2.heap.size+1,0,none⟩)]) (by simp) (by simp [go_sem]) ?_;refine (zhK _ _ (w.heap.size+1) (w2.heap.size+1) w2.heap.size 0 1 0 _ _ _ _ _ _ _ _ _ _ _ _ _ _ _ _ _ _ _ _ _ _ hR5 (P5.cell 0) X5 (by omega) (by omega)).mono ?_;rintro e u' w7 ⟨rfl,rfl,R7,C7⟩
  simp only [settle,Leaves,List.dropWhile]
  have z5:=C5.size;have z7:=C7.size;have B5:Below w.heap.size w w5:=T3.bel.trans (C5.bel (fun b hb=>by simp at hb;omega) T3.bel.size);have B7:Below w.heap.size w w7:=B5.trans (C7.bel (fun b hb=>by simp at hb;omega) B5.size)
  have O7:OwnT zad w7 w.heap.size w7.heap.size (cutW d) [.int .i64 u0,.int .i64 u1,.int .i64 u2,.int .i64 u3,.int .i64 u4,.int .i64 u5,.int .i64 u6,.int .i64 u7,.int .i64 u8,.slice up0 ul0 uq0,.slice none 0 0,.slice up2 ul2 uq2,.int .i64 u9,.int .i64 u10,.bool true]:=by
   refine ⟨KC,?_,kc2,fun b hb=>⟨(hkz b (kc3 b hb)).1,by have:=hkz b (kc3 b hb);omega⟩⟩;refine Lay.own_chgL _ (Lay.own_chgL _ (Lay.own_kept _ kc1 (fun b hb=>TB.bel.block b (hkz b (kc3 b hb)).2)) C5 (fun b hb hm=>?_)) C7 (fun b hb hm=>?_)
   ·simp at hm;have:=hkz b (kc3 b hb);omega
   ·simp at hm;have:=hk3 b (kc3 b hb);have:=T0.b2.lt;omega
  have hT:zcj P w (.returned (.agg #[.int .i64 9,.int .i64 u0,.int .i64 u1,.int .i64 u2,.int .i64 u3,.int .i64 u4,.int .i64 u5,.int .i64 u6,.int .i64 u7,.int .i64 u8,.slice up0 ul0 uq0,.slice none 0 0,.slice up2 ul2 uq2,.int .i64 u9,.int .i64 u10,.bool true])) w7:=by
   refine ⟨⟨9,_⟩,[.int .i64 9,.int .i64 u0,.int .i64 u1,.int .i64 u2,.int .i64 u3,.int .i64 u4,.int .i64 u5,.int .i64 u6,.int .i64 u7,.int .i64 u8,.slice up0 ul0 uq0,.slice none 0 0,.slice up2 ul2 uq2,.int .i64 u9,.int .i64 u10,.bool true],rfl,hP,?_,B7⟩;exact zb9 9 (by decide) O7
  exact ⟨_,results_cell_row Tryz.results30 _ w7 (w.heap.size+1) 36 #[.int .i64 9,.int .i64 u0,.int .i64 u1,.int .i64 u2,.int .i64 u3,.int .i64 u4,.int .i64 u5,.int .i64 u6,.int .i64 u7,.int .i64 u8,.slice up0 ul0 uq0,.slice none 0 0,.slice up2 ul2 uq2,.int .i64 u9,.int .i64 u10,.bool true] (0,0) (.struct _) rfl R7 Tryz.underlying36 rfl (by rw [zaS];rfl),hT⟩
 ·have hP:P ⟨0,{ zb7 d T kd sq with writes:=d.writes+1 }⟩:=hPo (by rw [← hst,← hwt];exact hf)
  have CF:=(ze3 w2.heap.size u0 u1 u2 u3 u4 u5 u6 u7 u8 up0 ul0 uq0 up1 ul1 uq1 up2 ul2 uq2 u9 u10 ub d K T kd sq W3 TB.b1 a0 a1 a2 q0 q1 q2 O3 hT hn hf hwr).mono (R':=fun e w'=>e=.returned (.tuple #[])∧∃ y0 y1 y2 y3 y4 y5 y6 y7 y8 yp0 yl0 yq0 yp1 yl1 yq1 yp2 yl2 yq2 y9 y10 yb K',Box w' w2.heap.size #[.int .i32 0,.int .u32 0,.int .u32 0,.int .i32 0,.int .u32 0,.int .i64 y0,.int .i64 y1,.int .i64 y2,.int .i64 y3,.int .i64 y4,.int .i64 y5,.int .i64 y6,.int .i64 y7,.int .i64 y8,.slice yp0 yl0 yq0,.slice yp1 yl1 yq1,.slice yp2 yl2 yq2,.int .i64 y9,.int .i64 y10,.bool yb] 110∧EncO w' w2.heap.size { zb7 d T kd sq with writes:=d.writes+1 } [.int .i64 y0,.int .i64 y1,.int .i64 y2,.int .i64 y3,.int .i64 y4,.int .i64 y5,.int .i64 y6,.int .i64 y7,.int .i64 y8,.slice yp0 yl0 yq0,.slice yp1 yl1 yq1,.slice yp2 yl2 yq2,.int .i64 y9,.int .i64 y10,.bool yb] K'∧(∀ b,b∈K'→b∈K∨W3.heap.size≤b)∧ChgL (w2.heap.size::K) W3 w') (fun e w' ⟨he,cs',K',hX',hO',hs',hC'⟩=>by
   obtain ⟨y0,y1,y2,y3,y4,y5,y6,y7,y8,yp0,yl0,yq0,yp1,yl1,yq1,yp2,yl2,yq2,y9,y10,yb,rfl⟩:=zeX hO'.own
   exact ⟨he,y0,y1,y2,y3,y4,y5,y6,y7,y8,yp0,yl0,yq0,yp1,yl1,yq1,yp2,yl2,yq2,y9,y10,yb,K',hX',hO',hs',hC'⟩)
  have hRK:w.heap.size+1∉w2.heap.size::K:=fun hm=>by
   rcases List.mem_cons.1 hm with h | h
   ·omega
   ·have:=hk3 _ h;have:=T0.b2.lt;omega
  clear hst hwt hf hPf hPo
  go_wp2_with (first | (go_at_call 31;refine CF.mono ?_;rintro e w5 ⟨rfl,y0,y1,y2,y3,y4,y5,y6,y7,y8,yp0,yl0,yq0,yp1,yl1,yq1,yp2,yl2,yq2,y9,y10,yb,K5,X5,O5,s5,C5⟩;have hR5:=T3.b2.chgl C5 hRK) | (refine zat 36 (.tmp 4) rfl rfl (w.heap.size+1) rfl (hR5) Tryz.underlying36 zaS rfl ?_) | (refine za2 36 _ _ rfl rfl (w.heap.size+1) rfl (cs:=[.int .i64 0,.int .i64 0,.int .i64 0,.int .i64 0,.int .i64 0,.int .i64 0,.int .i64 0,.int .i64 0,.int .i64 0,.int .i64 0,.slice none 0 0,.slice none 0 0,.slice none 0 0,.int .i64 0,.int .i64 0,.bool false]) rfl hR5 zaS rfl rfl (zc8 0 (by decide) w) ?_;intro w6 R6 C6 z6))
  have z5:=C5.size
  have P5:=TB.b2.chgl C5 (fun hm=>by
   rcases List.mem_cons.1 hm with h | h
   ·omega
   ·have:=hkz _ h;omega)
  have P6:=P5.chgl C6 (by simp;omega);have X6:=X5.chgl C6 (by simp;omega);refine leaves_cons (f:=57) (args:=#[.pointer (some ⟨w.heap.size+1,0,none⟩),.pointer (some ⟨w2.heap.size+1,0,none⟩)]) (by simp) (by simp [go_sem]) ?_;refine (ziu (w.heap.size+1) (w2.heap.size+1) w2.heap.size 0 0 0 _ _ _ _ _ _ _ _ _ _ _ _ _ _ _ _ _ _ _ _ _ _ R6 (P6.cell 0) X6 (by omega) (by omega)).mono ?_;rintro e u' w7 ⟨rfl,rfl,R7,C7⟩
  simp only [settle,Leaves]
  have z7:=C7.size
  have hK5:∀ b,b∈K5→w.heap.size≤b∧b≠w.heap.size+1:=fun b hb=>by
   rcases s5 b hb with h | h
   ·exact ⟨(hkz b h).1,fun e=>hRK (by rw [← e];exact List.mem_cons_of_mem _ h)⟩
   ·omega
  have B5:Below w.heap.size w w5:=T3.bel.trans (C5.bel (fun b hb=>by
   rcases List.mem_cons.1 hb with h | h
   ·omega
   ·exact (hkz b h).1) T3.bel.size)
  have B6:Below w.heap.size w w6:=B5.trans (C6.bel (fun b hb=>by simp at hb;omega) B5.size);have B7:Below w.heap.size w w7:=B6.trans (C7.bel (fun b hb=>by simp at hb;omega) B6.size)
  have O7:OwnT zad w7 w.heap.size w7.heap.size { zb7 d T kd sq with writes:=d.writes+1 } [.int .i64 y0,.int .i64 y1,.int .i64 y2,.int .i64 y3,.int .i64 y4,.int .i64 y5,.int .i64 y6,.int .i64 y7,.int .i64 y8,.slice yp0 yl0 yq0,.slice yp1 yl1 yq1,.slice yp2 yl2 yq2,.int .i64 y9,.int .i64 y10,.bool yb]:=by
   have h5:=fun b hb=>zad.own_lt O5.own b hb;refine ⟨K5,?_,O5.nd,fun b hb=>⟨(hK5 b hb).1,by have:=h5 b hb;omega⟩⟩;exact Lay.own_chgL _ (Lay.own_chgL _ O5.own C6 (fun b hb hm=>by simp at hm;exact (hK5 b hb).2 hm)) C7 (fun b hb hm=>by simp at hm;exact (hK5 b hb).2 hm)
  have hT:zcj P w (.returned (.agg #[.int .i64 0,.int .i64 y0,.int .i64 y1,.int .i64 y2,.int .i64 y3,.int .i64 y4,.int .i64 y5,.int .i64 y6,.int .i64 y7,.int .i64 y8,.slice yp0 yl0 yq0,.slice yp1 yl1 yq1,.slice yp2 yl2 yq2,.int .i64 y9,.int .i64 y10,.bool yb])) w7:=by
   refine ⟨⟨0,_⟩,[.int .i64 0,.int .i64 y0,.int .i64 y1,.int .i64 y2,.int .i64 y3,.int .i64 y4,.int .i64 y5,.int .i64 y6,.int .i64 y7,.int .i64 y8,.slice yp0 yl0 yq0,.slice yp1 yl1 yq1,.slice yp2 yl2 yq2,.int .i64 y9,.int .i64 y10,.bool yb],rfl,hP,?_,B7⟩;exact zb9 0 (by decide) O7
  exact ⟨_,results_cell_row Tryz.results30 _ w7 (w.heap.size+1) 36 #[.int .i64 0,.int .i64 y0,.int .i64 y1,.int .i64 y2,.int .i64 y3,.int .i64 y4,.int .i64 y5,.int .i64 y6,.int .i64 y7,.int .i64 y8,.slice yp0 yl0 yq0,.slice yp1 yl1 yq1,.slice yp2 yl2 yq2,.int .i64 y9,.int .i64 y10,.bool yb] (0,0) (.struct _) rfl R7 Tryz.underlying36 rfl (by rw [zaS];rfl),hT⟩
structure Cap2 (w wc:World) (c1:Array Value) (x y:Int) (c4:Array Value) (t1 t4:TypeId):Prop where
 b1:Box wc w.heap.size c1 t1
 b2:Box wc (w.heap.size+1) #[.int .i64 x] 2
 b3:Box wc (w.heap.size+1+1) #[.int .i64 y] 2
 b4:Box wc (w.heap.size+1+1+1) c4 t4
 bel:Below w.heap.size w wc
theorem ziW (w:World) (c1 c4:Array Value) (x y:Int) (t1 t4:TypeId):Cap2 w ((((w.alloc (.cells c1 t1)).alloc (.cells #[.int .i64 x] 2)).alloc (.cells #[.int .i64 y] 2)).alloc (.cells c4 t4)) c1 x y c4 t1 t4:=by
 have A:=zay w c1 #[.int .i64 x] t1 2;have B:=zay ((w.alloc (.cells c1 t1)).alloc (.cells #[.int .i64 x] 2)) #[.int .i64 y] c4 2 t4
 have e:((w.alloc (.cells c1 t1)).alloc (.cells #[.int .i64 x] 2)).heap.size=w.heap.size+1+1:=by simp
 have A':=A.call B.bel;obtain ⟨B1,B2,_⟩:=B;rw [e] at B1 B2;exact ⟨A'.b1,A'.b2,B1,B2,A'.bel⟩
theorem Cap2.call {w wc w':World} {c1 c4:Array Value} {x y:Int} {t1 t4:TypeId} (h:Cap2 w wc c1 x y c4 t1 t4) (hb:Below wc.heap.size wc w'):Cap2 w w' c1 x y c4 t1 t4:=⟨h.b1.call hb,h.b2.call hb,h.b3.call hb,h.b4.call hb,h.bel.trans (hb.mono h.bel.size)⟩
theorem zey {P:WorldResultD→Prop} {w wc w9:World} {x:Int} {r:Nat} (hr:w.heap.size≤r) (hx:-9223372036854775808≤x∧x≤9223372036854775807) (hb:Below w.heap.size w wc) (hc:ChgL [r] wc w9) (hP:P ⟨x,zeM⟩):zcj P w (.returned (.agg #[.int .i64 x,.int .i64 0,.int .i64 0,.int .i64 0,.int .i64 0,.int .i64 0,.int .i64 0,.int .i64 0,.int .i64 0,.int .i64 0,.slice none 0 0,.slice none 0 0,.slice none 0 0,.int .i64 0,.int .i64 0,.bool false])) w9:=
 ⟨⟨x,zeM⟩,[.int .i64 x,.int .i64 0,.int .i64 0,.int .i64 0,.int .i64 0,.int .i64 0,.int .i64 0,.int .i64 0,.int .i64 0,.int .i64 0,.slice none 0 0,.slice none 0 0,.slice none 0 0,.int .i64 0,.int .i64 0,.bool false],rfl,hP,zcV _ x hx _ _,hb.trans (hc.bel (fun b hb=>by simp at hb;omega) hb.size)⟩
theorem ziX {t:Int} {b:Bool} (hb:b=true↔InP t 0 1) (w:World):Calls Tryz.prog 29 #[.int .i64 t] w fun e w'=>e=.returned (.bool b)∧w'=w:=by
 have CI:=fun w'=>zaR (show (0:Int)≤1 by decide) hb w';clear hb
 go_enter Tryz.func29,Tryz.ntmps29
 go_wp2_with fail
 refine (CI _).mono ?_;rintro e w1 ⟨rfl,e1⟩;obtain rfl:=e1.symm;go_wp2;go_ret;exact ⟨rfl,rfl⟩
structure Cap3 (w wc:World) (c1:Array Value) (x y z:Int) (c5:Array Value) (t1 t5:TypeId):Prop where
 b1:Box wc w.heap.size c1 t1
 b2:Box wc (w.heap.size+1) #[.int .i64 x] 2
 b3:Box wc (w.heap.size+1+1) #[.int .i64 y] 2
 b4:Box wc (w.heap.size+1+1+1) #[.int .i64 z] 2
 b5:Box wc (w.heap.size+1+1+1+1) c5 t5
 bel:Below w.heap.size w wc
theorem ziY (w:World) (c1 c5:Array Value) (x y z:Int) (t1 t5:TypeId):Cap3 w (((((w.alloc (.cells c1 t1)).alloc (.cells #[.int .i64 x] 2)).alloc (.cells #[.int .i64 y] 2)).alloc (.cells #[.int .i64 z] 2)).alloc (.cells c5 t5)) c1 x y z c5 t1 t5:=by
 have A:=ziW w c1 #[.int .i64 z] x y t1 2;have B:=zaH ((((w.alloc (.cells c1 t1)).alloc (.cells #[.int .i64 x] 2)).alloc (.cells #[.int .i64 y] 2)).alloc (.cells #[.int .i64 z] 2)) c5 t5
 have e:((((w.alloc (.cells c1 t1)).alloc (.cells #[.int .i64 x] 2)).alloc (.cells #[.int .i64 y] 2)).alloc (.cells #[.int .i64 z] 2)).heap.size=w.heap.size+1+1+1+1:=by simp
 have A':=A.call B.bel;have B1:=B.b1;rw [e] at B1;exact ⟨A'.b1,A'.b2,A'.b3,A'.b4,B1,A'.bel⟩
theorem Cap3.call {w wc w':World} {c1 c5:Array Value} {x y z:Int} {t1 t5:TypeId} (h:Cap3 w wc c1 x y z c5 t1 t5) (hb:Below wc.heap.size wc w'):Cap3 w w' c1 x y z c5 t1 t5:=⟨h.b1.call hb,h.b2.call hb,h.b3.call hb,h.b4.call hb,h.b5.call hb,h.bel.trans (hb.mono h.bel.size)⟩
set_option maxRecDepth 20000 in
theorem zel (d:WorldD) (t kd sq:Int) (cs:List Value) (hi:Nat) (w:World) (h:zad.rd w hi d cs) (hhi:hi≤w.heap.size) (hsz:zaT d≤1048576) (ht:-9223372036854775808≤t∧t≤9223372036854775807) (hkd:-9223372036854775808≤kd∧kd≤9223372036854775807) (hsq:-9223372036854775808≤sq∧sq≤9223372036854775807) :
 Calls Tryz.prog 8 #[.agg cs.toArray,.int .i64 t,.int .i64 kd,.int .i64 sq] w (zcj (StrikeAns d t kd sq) w):=by
 have h':=h;obtain ⟨ao1,cap1,ao2,cap2,ao3,cap3,rfl,g1,g2,g3,k0,k4,k5⟩:=zaN h';have HRD:=hid h;have HSZ:=hid hsz;have hmf:∀ (fn:Fn) (first cap:Array Value) (w:World),(Instr.makeFunc fn first cap).run Tryz.prog w=.ok (.func fn first cap) w:=fun _ _ _ _=>rfl;clear h h' hsz g1 g2 g3 k0 k4 k5 ht hkd hsq;have T0:=ziY w (rwW d ao1 cap1 ao2 cap2 ao3 cap3).toArray rwZ.toArray t kd sq 34 36
 go_enter Tryz.func8,Tryz.ntmps8
 go_wp2_with (refine zat 34 (.tmp 4) rfl rfl (w.heap.size) rfl (T0.b1) Tryz.underlying34 zbN rfl ?_)
 refine (zgB d _ hi _ (zad.rd_below HRD.out T0.bel hhi) (Nat.le_trans hhi T0.bel.size) HSZ.out).mono ?_;rintro e w1 ⟨x,rfl,hx,b1⟩;have HT1:=hid (T0.call b1);have HX:=hid hx;have z1:w.heap.size+1+1+1+1<w1.heap.size:=HT1.out.b5.lt;clear b1 T0 hx
 by_cases hx0:x=0
 case neg=>
  have hne:(x != 0)=true:=by simp [hx0]
  go_wp2_with (refine za2 36 _ _ rfl rfl (w.heap.size+1+1+1+1) rfl (cs:=(.int .i64 x::rwY)) rfl (HT1.out.b5) zaS rfl rfl (zc8 _ (zdc HX.out) w) ?_;intro w9 X9 C9 z9)
  refine zck Tryz.results8 rfl X9 Tryz.underlying36 zaS rfl rfl ?_;exact zey (by omega) (zdc HX.out) HT1.out.bel C9 (.inl ⟨x,hx0,HX.out,rfl⟩)
 subst hx0;have HOK:=hid (zie HX.out);have xt:w1.cell? ⟨w.heap.size+1,0,none⟩=some (.int .i64 t):=HT1.out.b2.cell 0;obtain ⟨b,hb⟩:=exB (InP t 0 1);have Hb:=hid hb;have CI:=fun w'=>ziX hb w';clear hb
 go_wp2_with fail
 refine (CI _).mono ?_;rintro e w1' ⟨rfl,e1⟩;obtain rfl:=e1.symm;clear CI xt
 cases b with
 | false=>
  go_wp2_with (refine za2 36 _ _ rfl rfl (w.heap.size+1+1+1+1) rfl (cs:=(.int .i64 3::rwY)) rfl (HT1.out.b5) zaS rfl rfl (zc8 _ (by decide) w) ?_;intro w9 X9 C9 z9)
  refine zck Tryz.results8 rfl X9 Tryz.underlying36 zaS rfl rfl ?_;exact zey (by omega) (by decide) HT1.out.bel C9 (.inr ⟨HX.out,.inl ⟨fun h=>(by have:=Hb.out.2 h;cases this),rfl⟩⟩)
 | true=>
 have HIN:Hid (InP t 0 1):=Hb.out.1 (by simp);obtain ⟨T,rfl,hT,hn⟩:=zgJ HOK.out HIN.out;have CW:=zfU d (rwW d ao1 cap1 ao2 cap2 ao3 cap3) hi T kd sq (w.heap.size+1) (w.heap.size+1+1) (w.heap.size+1+1+1) w1 (zad.rd_below HRD.out HT1.out.bel hhi) (Nat.le_trans hhi HT1.out.bel.size) HSZ.out (HT1.out.b2.cell 0) HT1.out.b2.lt (HT1.out.b3.cell 0) HT1.out.b3.lt (HT1.out.b4.cell 0) HT1.out.b4.lt hT hn (zeZ HOK.out) (StrikeAns d T kd sq) (fun hf=>.inr ⟨HX.out,.inr ⟨HIN.out,.inl ⟨hf,rfl⟩⟩⟩) (fun hf=>.inr ⟨HX.out,.inr ⟨HIN.out,.inr ⟨hf,rfl⟩⟩⟩)
 have CW:=CW.mono (R':=fun e w'=>∃ d' sc s0 s1 s2 s3 s4 s5 s6 s7 s8 sp0 sl0 sq0 sp1 sl1 sq1 sp2 sl2 sq2 s9 s10 sb,e=.returned (.agg (.int .i64 sc::rwV s0 s1 s2 s3 s4 s5 s6 s7 s8 sp0 sl0 sq0 sp1 sl1 sq1 sp2 sl2 sq2 s9 s10 sb).toArray)∧StrikeAns d T kd sq d'∧OwnT zaw w' w1.heap.size w'.heap.size d' (.int .i64 sc::rwV s0 s1 s2 s3 s4 s5 s6 s7 s8 sp0 sl0 sq0 sp1 sl1 sq1 sp2 sl2 sq2 s9 s10 sb)∧Below w1.heap.size w1 w') (fun e w' ⟨d',cs',he,hP,ho,hb⟩=>by
  obtain ⟨sc,s0,s1,s2,s3,s4,s5,s6,s7,s8,sp0,sl0,sq0,sp1,sl1,sq1,sp2,sl2,sq2,s9,s10,sb,rfl⟩:=zg1 ho.rd
  exact ⟨d',sc,s0,s1,s2,s3,s4,s5,s6,s7,s8,sp0,sl0,sq0,sp1,sl1,sq1,sp2,sl2,sq2,s9,s10,sb,he,hP,ho,hb⟩)
 go_wp2_with (first | (refine zat 34 (.tmp 4) rfl rfl (w.heap.size) rfl (HT1.out.b1) Tryz.underlying34 zbN rfl ?_) | (go_at_call 30;refine CW.mono ?_;rintro e w5 ⟨d',sc,s0,s1,s2,s3,s4,s5,s6,s7,s8,sp0,sl0,sq0,sp1,sl1,sq1,sp2,sl2,sq2,s9,s10,sb,rfl,hP,o5,b5⟩;have T5:=HT1.out.call b5;have z5:w1.heap.size≤w5.heap.size:=b5.size) | (refine za2 36 _ _ rfl rfl (w.heap.size+1+1+1+1) rfl (cs:=(.int .i64 sc::rwV s0 s1 s2 s3 s4 s5 s6 s7 s8 sp0 sl0 sq0 sp1 sl1 sq1 sp2 sl2 sq2 s9 s10 sb)) rfl (T5.b5) zaS rfl rfl (o5.one) ?_;intro w9 X9 C9 z9))
 refine zck Tryz.results8 rfl X9 Tryz.underlying36 zaS rfl rfl ?_;refine ⟨d',(.int .i64 sc::rwV s0 s1 s2 s3 s4 s5 s6 s7 s8 sp0 sl0 sq0 sp1 sl1 sq1 sp2 sl2 sq2 s9 s10 sb),rfl,hP,(o5.chgk C9 (fun b hb=>by simp at hb;omega)).weaken (by omega) C9.size,T5.bel.trans (C9.bel (fun b hb=>by simp at hb;omega) T5.bel.size)⟩
end Go.Proofs.YtdhnekgfhpanfaaGreat
namespace Go.Proofs.YtdhnekgfhpanfaaGreat
open Go.ChangeShapes Go.WideShapes Go.ChangeAt Go.RowKit F256
theorem zjl {w:World} {b:Nat} {t:TypeId} {a0 a1 a2 a3 a4 a5 a6 a7 a8 a9 a10 a11 a12 a13 a14:Value} (h:Box w b #[a0,a1,a2,a3,a4,a5,a6,a7,a8,a9,a10,a11,a12,a13,a14] t) :
 w.cell? ⟨b,0,none⟩=some a0∧w.cell? ⟨b,1,none⟩=some a1∧w.cell? ⟨b,2,none⟩=some a2∧w.cell? ⟨b,3,none⟩=some a3∧w.cell? ⟨b,4,none⟩=some a4∧w.cell? ⟨b,5,none⟩=some a5∧w.cell? ⟨b,6,none⟩=some a6∧w.cell? ⟨b,7,none⟩=some a7∧w.cell? ⟨b,8,none⟩=some a8∧w.cell? ⟨b,9,none⟩=some a9∧w.cell? ⟨b,10,none⟩=some a10∧w.cell? ⟨b,11,none⟩=some a11∧w.cell? ⟨b,12,none⟩=some a12∧w.cell? ⟨b,13,none⟩=some a13∧w.cell? ⟨b,14,none⟩=some a14:=
 ⟨h.cell 0,h.cell 1,h.cell 2,h.cell 3,h.cell 4,h.cell 5,h.cell 6,h.cell 7,h.cell 8,h.cell 9,h.cell 10,h.cell 11,h.cell 12,h.cell 13,h.cell 14⟩
theorem ziw {α:Type} (c:α→Nat) (x:Nat→α) (k:Nat) (a:α):∀ n:Nat,sumN (fun i=>c (upd x k a i)) n≤sumN (fun i=>c (x i)) n+(if k<n then c a else 0)
 | 0=>by simp [sumN]
 | n+1=>by
  have ih:=ziw c x k a n;rw [zaJ,zaJ]
  by_cases h:n=k
  ·subst h
   rw [zaQ,if_pos (by omega)];rw [if_neg (by omega)] at ih;omega
  ·rw [zaY x a h]
   by_cases h2:k<n
   ·rw [if_pos h2] at ih;rw [if_pos (by omega)];omega
   ·rw [if_neg h2] at ih;rw [if_neg (by omega)];omega
theorem zjm {α:Type} (c:α→Nat) (p:Nat×(Nat→α)) (k:Nat) (a:α):cSl c (p.1,upd p.2 k a)≤cSl c p+c a:=by
 have:=ziw c p.2 k a p.1;unfold cSl
 show sumN (fun i=>c (upd p.2 k a i)) p.1≤_
 split at this<;>omega
theorem zjC (d:WorldD):∃ x,AskAns d x:=by
 obtain ⟨x,hx⟩:=ziF d
 by_cases h:x=0
 ·subst h
  cases hd:d.down with
  | true=>exact ⟨9,.inr ⟨hx,.inl ⟨hd,rfl⟩⟩⟩
  | false=>exact ⟨0,.inr ⟨hx,.inr ⟨hd,rfl⟩⟩⟩
 ·exact ⟨x,.inl ⟨h,hx⟩⟩
theorem zix (d:WorldD) (t kd sq:Int):∃ q,StrikeAns d t kd sq q:=by
 obtain ⟨x,hx⟩:=zjC d
 by_cases h:x=0
 ·subst h
  by_cases h1:InP t 0 1
  ·by_cases h3:zg3 d
   ·exact ⟨_,.inr ⟨hx,.inr ⟨h1,.inl ⟨h3,rfl⟩⟩⟩⟩
   ·exact ⟨_,.inr ⟨hx,.inr ⟨h1,.inr ⟨h3,rfl⟩⟩⟩⟩
  ·exact ⟨_,.inr ⟨hx,.inl ⟨h1,rfl⟩⟩⟩
 ·exact ⟨_,.inl ⟨x,h,hx,rfl⟩⟩
theorem ziy (c:Nat→Nat) (p:Nat→Bool):∀ n:Nat,sumN (fun i=>c (selF p n i)) (zau p n).length≤sumN c n
 | 0=>by simp [zau,sumN]
 | n+1=>by
  have ih:=ziy c p n;rw [zaJ]
  cases h:p n with
  | true=>
   have e:(zau p (n+1)).length=(zau p n).length+1:=by rw [zbq,if_pos h];simp
   rw [e,zaJ,zd7 h];have h2:sumN (fun i=>c (selF p (n+1) i)) (zau p n).length≤sumN (fun i=>c (selF p n i)) (zau p n).length:=zcQ (fun i hi=>by rw [zca hi];exact Nat.le_refl _);omega
  | false=>
   rw [zcb h];have h2:sumN (fun i=>c (selF p (n+1) i)) (zau p n).length≤sumN (fun i=>c (selF p n i)) (zau p n).length:=zcQ (fun i hi=>by rw [zca hi];exact Nat.le_refl _);omega
theorem zfV (x:TapeD) (kd sq:Int):zaA (zdp x kd sq)≤zaA x:=by
 have:=ziy (fun i=>zaP (x.recs.2 i)) (fun i=>zax kd sq (x.recs.2 i)) x.recs.1;unfold zaA cSl
 show 1+sumN (fun i=>zaP (x.recs.2 (selF (fun i=>zax kd sq (x.recs.2 i)) x.recs.1 i))) (zau (fun i=>zax kd sq (x.recs.2 i)) x.recs.1).length≤_
 omega
theorem ziz {d:WorldD} {t kd sq:Int} {q:WorldResultD} (hq:StrikeAns d t kd sq q) (hsz:zaT d≤1048576):za1 q≤90000000:=by
 have h1:=zer d
 rcases hq with ⟨x,_,_,rfl⟩ | ⟨h0,⟨_,rfl⟩ | ⟨hp,⟨_,rfl⟩ | ⟨_,rfl⟩⟩⟩
 ·exact Nat.zero_le _
 ·exact Nat.zero_le _
 ·have e:za5 (cutW d)+d.on.1=za5 d:=by
   unfold za5 lenD
   show (cSl (cSl zaf)) d.groups+0+(cSl zaA) d.tapes+d.on.1=_
   omega
  show za5 (cutW d)≤_
  omega
 ·obtain ⟨T,rfl,hT,hn⟩:=zgJ (zie h0) hp
  have hs:szSl zaL d.tapes≤1048576:=by unfold zaT at hsz;omega
  have h2:=zjm zaA d.tapes T (zdp (d.tapes.2 T) kd sq);have h3:=zfV (d.tapes.2 T) kd sq;have h4:=zg0 (d.tapes.2 T);have h5:zaL (d.tapes.2 T)≤1048576:=zbf hs hT
  show za5 (zgI d T kd sq)≤_
  unfold za5 at h1 ⊢
  show (cSl (cSl zaf)) d.groups+lenD d.on+(cSl zaA) (d.tapes.1,upd d.tapes.2 T (zdp (d.tapes.2 T) kd sq))≤_
  omega
theorem zez {d:WorldD} {t kd sq:Int} {q:WorldResultD} {w:World} {f:Nat} {args:Array Value} (hq:StrikeAns d t kd sq q) (h:Calls Tryz.prog f args w (zcj (StrikeAns d t kd sq) w)):Calls Tryz.prog f args w fun e w'=>∃ cs,e=.returned (.agg cs.toArray)∧OwnT zaw w' w.heap.size w'.heap.size q cs∧Below w.heap.size w w':=
 h.mono fun e w' ⟨d',cs,h1,h2,h3,h4⟩=>⟨cs,h1,by rw [hq.one h2];exact h3,h4⟩
set_option maxRecDepth 20000 in
theorem zcv (d:WorldD) (cs:List Value) (i0:Int) (i1:Int) (i2:Int) (w:World) (rd0:zad.rd w w.heap.size d cs) (hi0:-9223372036854775808≤i0∧i0≤9223372036854775807) (hi1:-9223372036854775808≤i1∧i1≤9223372036854775807) (hi2:-9223372036854775808≤i2∧i2≤9223372036854775807) :
 Calls Tryz.prog 3 #[.agg cs.toArray,.int .i64 i0,.int .i64 i1,.int .i64 i2] w fun e w'=>e=.returned (.bool true)∧Below w.heap.size w w':=by
 obtain ⟨v0,v1,v2,v3,v4,v5,v6,v7,v8,vp0,vl0,vq0,vp1,vl1,vq1,vp2,vl2,vq2,v9,v10,vb,rfl⟩:=zgz rd0;have HR:=hid rd0;have HHi0:=hid hi0;have HHi1:=hid hi1;have HHi2:=hid hi2;clear rd0 hi0 hi1 hi2;have T0:=zaH w (rwV v0 v1 v2 v3 v4 v5 v6 v7 v8 vp0 vl0 vq0 vp1 vl1 vq1 vp2 vl2 vq2 v9 v10 vb).toArray 28
 go_enter Tryz.func3,Tryz.ntmps3
 go_wp2_with (refine zat 28 (.tmp 4) rfl rfl (w.heap.size) rfl T0.b1 Tryz.underlying28 zeN rfl ?_)
 refine (zhq _ d w.heap.size 1048576 _ (zad.rd_below HR.out T0.bel (Nat.le_refl _)) T0.bel.size (by omega)).mono ?_;rintro e w1 ⟨x,rfl,hx,b1⟩;have T1:=T0.call b1;have HT1:=hid T1;clear b1 T0
 rcases hx with rfl | ⟨hsz,hx⟩
 ·clear T1
  go_wp2;go_ret;exact ⟨rfl,HT1.out.bel⟩
 have hx0:¬ x<0:=by omega
 clear hx;obtain ⟨q,hq⟩:=zix d i0 i1 i2;obtain ⟨N,hN⟩:∃ N,N=1+za1 q:=⟨_,rfl⟩
 have hj:1+za1 q≤100000000:=by have:=ziz hq hsz;omega
 obtain ⟨M,hM⟩:∃ M,M=1+za5 d:=⟨_,rfl⟩
 have hk:1+za5 d≤100000000:=by have:=zer d;omega
 have CT:∀ w',Below w1.heap.size w1 w'→Calls Tryz.prog 7 #[.agg (rwV v0 v1 v2 v3 v4 v5 v6 v7 v8 vp0 vl0 vq0 vp1 vl1 vq1 vp2 vl2 vq2 v9 v10 vb).toArray] w' fun e w''=>∃ cs',e=.returned (.agg cs'.toArray)∧OwnT zad w'' w'.heap.size w''.heap.size d cs'∧Below w'.heap.size w' w'':=fun w' hb=>
  zhj _ d w.heap.size w' (zad.rd_below (zad.rd_below HR.out HT1.out.bel (Nat.le_refl _)) hb HT1.out.bel.size) (Nat.le_trans HT1.out.bel.size hb.size) hsz
 have CS:=fun (cs':List Value) (hi:Nat) (w':World) (h1:zad.rd w' hi d cs') (h2:hi≤w'.heap.size)=>zez hq (zej d i0 i1 i2 cs' hi w' h1 h2 hsz HHi0.out HHi1.out HHi2.out);have CI:=fun (cs':List Value) (hi:Nat) (w':World) (h1:zad.rd w' hi d cs') (h2:hi≤w'.heap.size)=>zez hq (zel d i0 i1 i2 cs' hi w' h1 h2 hsz HHi0.out HHi1.out HHi2.out);have CE:=fun c1 c2 h1 h2 w'=>zdA c1 c2 q h1 h2 w';have CW:=fun c1 c2 h1 h2 w'=>zeo c1 c2 d h1 h2 w';have CM:=fun {w':World} {lo hi:Nat} {cs:List Value} (h:OwnT zaw w' lo hi q cs)=>zi3 zc5 h 1 hj;have CK:=fun {w':World} {lo hi:Nat} {cs:List Value} (h:OwnT zad w' lo hi d cs)=>zi3 zdr h 1 hk;have CH:=fun (cs:List Value) (hi:Nat) (w':World) (h:zaw.rd w' hi (zbA 1 q) cs) (hh:hi≤w'.heap.size)=>zc6 cs q hi 1 w' h hh hj;rw [← hN] at CM CH;rw [← hM] at CK;clear hN hM hj hk hq hsz
 go_wp2_with (refine zat 28 (.tmp 4) rfl rfl (w.heap.size) rfl T1.b1 Tryz.underlying28 zeN rfl ?_)
 refine (CT _ (Below.refl _ _)).mono ?_;rintro e w2 ⟨c2,rfl,o2,b2⟩;have z1:w.heap.size<w1.heap.size:=T1.b1.lt;clear T1
 go_wp2_with fail
 refine (CS _ _ _ o2.rd (Nat.le_refl _)).mono ?_;rintro e w3 ⟨cS,rfl,oS,b3⟩;obtain ⟨sc,s0,s1,s2,s3,s4,s5,s6,s7,s8,sp0,sl0,sq0,sp1,sl1,sq1,sp2,sl2,sq2,s9,s10,sb,rfl⟩:=zg1 oS.rd;have z2:w1.heap.size≤w2.heap.size:=b2.size;have z3:w2.heap.size≤w3.heap.size:=b3.size;have B3:Below w1.heap.size w1 w3:=b2.trans (b3.mono b2.size);clear o2 b2 b3
 go_upto_region 6 with (refine zbB 36 10 (.tmp 27) _ _ 16 rfl rfl rfl rfl rfl rfl rfl rfl zgo rfl rfl oS.one ?_)
 have bA:=bAl w3 (.cells (.int .i64 sc::rwV s0 s1 s2 s3 s4 s5 s6 s7 s8 sp0 sl0 sq0 sp1 sl1 sq1 sp2 sl2 sq2 s9 s10 sb).toArray 36);have S4:=zaD w3 (.int .i64 sc::rwV s0 s1 s2 s3 s4 s5 s6 s7 s8 sp0 sl0 sq0 sp1 sl1 sq1 sp2 sl2 sq2 s9 s10 sb).toArray 36;obtain ⟨W4,hW4⟩:∃ x,x=w3.alloc (.cells (.int .i64 sc::rwV s0 s1 s2 s3 s4 s5 s6 s7 s8 sp0 sl0 sq0 sp1 sl1 sq1 sp2 sl2 sq2 s9 s10 sb).toArray 36):=⟨_,rfl⟩;rw [← hW4] at bA S4 ⊢;have B4:=B3.trans (bA.mono (by omega));have P4:=HT1.out.call B4;have OS4:=oS.call bA;have z4:w3.heap.size<W4.heap.size:=S4.lt;clear bA hW4 oS B3
 go_wp2_with (refine zat 28 (.tmp 4) rfl rfl (w.heap.size) rfl P4.b1 Tryz.underlying28 zeN rfl ?_)
 refine (CT _ B4).mono ?_;rintro e w5 ⟨cX,rfl,oX,b5⟩;obtain ⟨x0,x1,x2,x3,x4,x5,x6,x7,x8,xp0,xl0,xq0,xp1,xl1,xq1,xp2,xl2,xq2,x9,x10,xb,rfl⟩:=zg2 oX;have z5:W4.heap.size≤w5.heap.size:=b5.size;have B5:=B4.trans (b5.mono (by omega));have S5:=S4.call b5;have OS5:=OS4.call b5;clear P4 b5 B4 S4 OS4
 go_upto_region 7 with (refine zbB 34 11 (.tmp 29) _ _ 15 rfl rfl rfl rfl rfl rfl rfl rfl zi4 rfl rfl oX.one ?_)
 have bA:=bAl w5 (.cells (rwV x0 x1 x2 x3 x4 x5 x6 x7 x8 xp0 xl0 xq0 xp1 xl1 xq1 xp2 xl2 xq2 x9 x10 xb).toArray 34);have X6:=zaD w5 (rwV x0 x1 x2 x3 x4 x5 x6 x7 x8 xp0 xl0 xq0 xp1 xl1 xq1 xp2 xl2 xq2 x9 x10 xb).toArray 34;obtain ⟨W6,hW6⟩:∃ x,x=w5.alloc (.cells (rwV x0 x1 x2 x3 x4 x5 x6 x7 x8 xp0 xl0 xq0 xp1 xl1 xq1 xp2 xl2 xq2 x9 x10 xb).toArray 34):=⟨_,rfl⟩;rw [← hW6] at bA X6 ⊢;have B6:=B5.trans (bA.mono (by omega));have S6:=S5.call bA;have OS6:=OS5.call bA;have OX6:=oX.call bA;have z6:w5.heap.size<W6.heap.size:=X6.lt;clear bA hW6 oX B5 S5 OS5
 go_wp2_with (refine zat 34 (.tmp 11) rfl rfl (w5.heap.size) rfl X6 Tryz.underlying34 zbN rfl ?_)
 refine (CI _ _ _ OX6.rd (by omega)).mono ?_;rintro e w7 ⟨cG,rfl,oG,b7⟩;obtain ⟨gc,g0,g1,g2,g3,g4,g5,g6,g7,g8,gp0,gl0,gq0,gp1,gl1,gq1,gp2,gl2,gq2,g9,g10,gb,rfl⟩:=zg1 oG.rd;have z7:W6.heap.size≤w7.heap.size:=b7.size;have B7:=B6.trans (b7.mono (by omega));have S7:=S6.call b7;have OS7:=OS6.call b7;have X7:=X6.call b7;have OX7:=OX6.call b7;clear b7 B6 S6 OS6 X6 OX6
 go_upto_region 8 with (refine zbB 36 12 (.tmp 34) _ _ 16 rfl rfl rfl rfl rfl rfl rfl rfl zgo rfl rfl oG.one ?_)
 have bA:=bAl w7 (.cells (.int .i64 gc::rwV g0 g1 g2 g3 g4 g5 g6 g7 g8 gp0 gl0 gq0 gp1 gl1 gq1 gp2 gl2 gq2 g9 g10 gb).toArray 36);have G8:=zaD w7 (.int .i64 gc::rwV g0 g1 g2 g3 g4 g5 g6 g7 g8 gp0 gl0 gq0 gp1 gl1 gq1 gp2 gl2 gq2 g9 g10 gb).toArray 36;obtain ⟨W8,hW8⟩:∃ x,x=w7.alloc (.cells (.int .i64 gc::rwV g0 g1 g2 g3 g4 g5 g6 g7 g8 gp0 gl0 gq0 gp1 gl1 gq1 gp2 gl2 gq2 g9 g10 gb).toArray 36):=⟨_,rfl⟩;rw [← hW8] at bA G8 ⊢;have B8:=B7.trans (bA.mono (by omega));have S8:=S7.call bA;have OS8:=OS7.call bA;have X8:=X7.call bA;have OX8:=OX7.call bA;have OG8:=oG.call bA;have z8:w7.heap.size<W8.heap.size:=G8.lt;clear bA hW8 oG B7 S7 OS7 X7 OX7
 go_wp2_with (first | (refine zat 36 (.tmp 12) rfl rfl (w7.heap.size) rfl G8 Tryz.underlying36 zaS rfl ?_) | (refine zat 36 (.tmp 10) rfl rfl (w3.heap.size) rfl S8 Tryz.underlying36 zaS rfl ?_))
 refine (CE _ _ _ _ _ OG8.rd OS8.rd (by omega) (by omega)).mono ?_;rintro e w9 ⟨rfl,b9⟩;have z9:W8.heap.size≤w9.heap.size:=b9.size;have B9:=B8.trans (b9.mono (by omega));have S9:=hid (S8.call b9);have OS9:=hid (OS8.call b9);have X9:=hid (X8.call b9);have OX9:=hid (OX8.call b9);have G9:=hid (G8.call b9);have OG9:=hid (OG8.call b9);have HB9:=hid B9;have P9:=hid (HT1.out.call B9);have u_0:w9.cell? ⟨w5.heap.size,0,none⟩=some (.int .i64 x0):=X9.out.cell 0;have u_1:w9.cell? ⟨w5.heap.size,1,none⟩=some (.int .i64 x1):=X9.out.cell 1;have u_2:w9.cell? ⟨w5.heap.size,2,none⟩=some (.int .i64 x2):=X9.out.cell 2;have u_3:w9.cell? ⟨w5.heap.size,3,none⟩=some (.int .i64 x3):=X9.out.cell 3;have u_4:w9.cell? ⟨w5.heap.size,4,none⟩=some (.int .i64 x4):=X9.out.cell 4;have u_5:w9.cell? ⟨w5.heap.size,5,none⟩=some (.int .i64 x5):=X9.out.cell 5;have u_6:w9.cell? ⟨w5.heap.size,6,none⟩=some (.int .i64 x6):=X9.out.cell 6;have u_7:w9.cell? ⟨w5.heap.size,7,none⟩=some (.int .i64 x7):=X9.out.cell 7;have u_8:w9.cell? ⟨w5.heap.size,8,none⟩=some (.int .i64 x8):=X9.out.cell 8
 have u_9:w9.cell? ⟨w5.heap.size,9,none⟩=some (.slice xp0 xl0 xq0):=X9.out.cell 9;have u_10:w9.cell? ⟨w5.heap.size,10,none⟩=some (.slice xp1 xl1 xq1):=X9.out.cell 10;have u_11:w9.cell? ⟨w5.heap.size,11,none⟩=some (.slice xp2 xl2 xq2):=X9.out.cell 11;have u_12:w9.cell? ⟨w5.heap.size,12,none⟩=some (.int .i64 x9):=X9.out.cell 12;have u_13:w9.cell? ⟨w5.heap.size,13,none⟩=some (.int .i64 x10):=X9.out.cell 13;have u_14:w9.cell? ⟨w5.heap.size,14,none⟩=some (.bool xb):=X9.out.cell 14;have y_0:w9.cell? ⟨w.heap.size,0,none⟩=some (.int .i64 v0):=P9.out.b1.cell 0;have y_1:w9.cell? ⟨w.heap.size,1,none⟩=some (.int .i64 v1):=P9.out.b1.cell 1;have y_2:w9.cell? ⟨w.heap.size,2,none⟩=some (.int .i64 v2):=P9.out.b1.cell 2;have y_3:w9.cell? ⟨w.heap.size,3,none⟩=some (.int .i64 v3):=P9.out.b1.cell 3;have y_4:w9.cell? ⟨w.heap.size,4,none⟩=some (.int .i64 v4):=P9.out.b1.cell 4;have y_5:w9.cell? ⟨w.heap.size,5,none⟩=some (.int .i64 v5):=P9.out.b1.cell 5;have y_6:w9.cell? ⟨w.heap.size,6,none⟩=some (.int .i64 v6):=P9.out.b1.cell 6;have y_7:w9.cell? ⟨w.heap.size,7,none⟩=some (.int .i64 v7):=P9.out.b1.cell 7;have y_8:w9.cell? ⟨w.heap.size,8,none⟩=some (.int .i64 v8):=P9.out.b1.cell 8;have y_9:w9.cell? ⟨w.heap.size,9,none⟩=some (.slice vp0 vl0 vq0):=P9.out.b1.cell 9;have y_10:w9.cell? ⟨w.heap.size,10,none⟩=some (.slice vp1 vl1 vq1):=P9.out.b1.cell 10;have y_11:w9.cell? ⟨w.heap.size,11,none⟩=some (.slice vp2 vl2 vq2):=P9.out.b1.cell 11;have y_12:w9.cell? ⟨w.heap.size,12,none⟩=some (.int .i64 v9):=P9.out.b1.cell 12;have y_13:w9.cell? ⟨w.heap.size,13,none⟩=some (.int .i64 v10):=P9.out.b1.cell 13;have y_14:w9.cell? ⟨w.heap.size,14,none⟩=some (.bool vb):=P9.out.b1.cell 14;clear b9 B8 S8 OS8 X8 OX8 G8 OG8 B9
 go_upto_region 10 with fail
 go_cut [43] (fun v wx=>v=.bool false∧Below w9.heap.size w9 wx)
 case first=>
  go_region_with (first | (go_at_call 7;refine (CT _ (HB9.out.trans ((below_drewN (Below.refl _ _) 1).mono HB9.out.size))).mono ?_;rintro ee wb ⟨cs',rfl,oR,bb⟩;have bR:Below w9.heap.size w9 wb:=(below_drewN (Below.refl _ _) 1).trans bb;obtain ⟨qb0,qb1,qb2,qb3,qb4,qb5,qb6,qb7,qb8,qb9,qb10,qb11,qb12,qb13,qb14⟩:=zjl (X9.out.call bR)) | (go_at_call 10;refine (CW _ _ _ _ _ (OX9.out.call bR).rd oR.rd (Nat.le_trans (by omega) bR.size) (Nat.le_refl _)).mono ?_;rintro ee wc' ⟨rfl,bc⟩;have bC:Below w9.heap.size w9 wc':=bR.trans (bc.mono bR.size)))
  all_goals
   go_wp2
   go_meet
   exact ⟨rfl,bC⟩
 case rest=>
  obtain ⟨rfl,b10⟩:=hcut;obtain ⟨w10,rfl⟩:∃ x,x=wc:=⟨_,rfl⟩;clear u_0 u_1 u_2 u_3 u_4 u_5 u_6 u_7 u_8 u_9 u_10 u_11 u_12 u_13 u_14 y_0 y_1 y_2 y_3 y_4 y_5 y_6 y_7 y_8 y_9 y_10 y_11 y_12 y_13 y_14;have z10:w9.heap.size≤w10.heap.size:=b10.size;have B10:=HB9.out.trans (b10.mono (by omega));have S10:=S9.out.call b10;have OS10:=OS9.out.call b10;have X10:=X9.out.call b10;have OX10:=OX9.out.call b10;have G10:=G9.out.call b10;have OG10:=OG9.out.call b10;clear b10 HB9 S9 OS9 X9 OX9 G9 OG9 P9
  have hm0:¬ (M:Int)<0:=by omega
  go_wp2_with (refine zat 34 (.tmp 11) rfl rfl (w5.heap.size) rfl X10 Tryz.underlying34 zbN rfl ?_)
  refine (CK OX10).mono ?_;rintro e w11 ⟨rfl,OX11,c11⟩;have z11:w10.heap.size≤w11.heap.size:=c11.size;have B11:=B10.trans (c11.bel (B:=w1.heap.size) (by omega) (by omega));have S11:=S10.chg c11 (.inl (by omega));have OS11:=OS10.chg c11 (.inl (by omega));have G11:=G10.chg c11 (.inr (by omega));have OG11:=OG10.chg c11 (.inr (by omega));have u_0:w11.cell? ⟨w7.heap.size,0,none⟩=some (.int .i64 gc):=G11.cell 0;have u_1:w11.cell? ⟨w7.heap.size,1,none⟩=some (.int .i64 g0):=G11.cell 1;have u_2:w11.cell? ⟨w7.heap.size,2,none⟩=some (.int .i64 g1):=G11.cell 2;have u_3:w11.cell? ⟨w7.heap.size,3,none⟩=some (.int .i64 g2):=G11.cell 3;have u_4:w11.cell? ⟨w7.heap.size,4,none⟩=some (.int .i64 g3):=G11.cell 4;have u_5:w11.cell? ⟨w7.heap.size,5,none⟩=some (.int .i64 g4):=G11.cell 5;have u_6:w11.cell? ⟨w7.heap.size,6,none⟩=some (.int .i64 g5):=G11.cell 6;have u_7:w11.cell? ⟨w7.heap.size,7,none⟩=some (.int .i64 g6):=G11.cell 7;have u_8:w11.cell? ⟨w7.heap.size,8,none⟩=some (.int .i64 g7):=G11.cell 8;have u_9:w11.cell? ⟨w7.heap.size,9,none⟩=some (.int .i64 g8):=G11.cell 9;have u_10:w11.cell? ⟨w7.heap.size,10,none⟩=some (.slice gp0 gl0 gq0):=G11.cell 10;have u_11:w11.cell? ⟨w7.heap.size,11,none⟩=some (.slice gp1 gl1 gq1):=G11.cell 11;have u_12:w11.cell? ⟨w7.heap.size,12,none⟩=some (.slice gp2 gl2 gq2):=G11.cell 12;have u_13:w11.cell? ⟨w7.heap.size,13,none⟩=some (.int .i64 g9):=G11.cell 13;have u_14:w11.cell? ⟨w7.heap.size,14,none⟩=some (.int .i64 g10):=G11.cell 14;have u_15:w11.cell? ⟨w7.heap.size,15,none⟩=some (.bool gb):=G11.cell 15;have y_0:w11.cell? ⟨w3.heap.size,0,none⟩=some (.int .i64 sc):=S11.cell 0;have y_1:w11.cell? ⟨w3.heap.size,1,none⟩=some (.int .i64 s0):=S11.cell 1;have y_2:w11.cell? ⟨w3.heap.size,2,none⟩=some (.int .i64 s1):=S11.cell 2;have y_3:w11.cell? ⟨w3.heap.size,3,none⟩=some (.int .i64 s2):=S11.cell 3;have y_4:w11.cell? ⟨w3.heap.size,4,none⟩=some (.int .i64 s3):=S11.cell 4;have y_5:w11.cell? ⟨w3.heap.size,5,none⟩=some (.int .i64 s4):=S11.cell 5;have y_6:w11.cell? ⟨w3.heap.size,6,none⟩=some (.int .i64 s5):=S11.cell 6;have y_7:w11.cell? ⟨w3.heap.size,7,none⟩=some (.int .i64 s6):=S11.cell 7;have y_8:w11.cell? ⟨w3.heap.size,8,none⟩=some (.int .i64 s7):=S11.cell 8;have y_9:w11.cell? ⟨w3.heap.size,9,none⟩=some (.int .i64 s8):=S11.cell 9;have y_10:w11.cell? ⟨w3.heap.size,10,none⟩=some (.slice sp0 sl0 sq0):=S11.cell 10;have y_11:w11.cell? ⟨w3.heap.size,11,none⟩=some (.slice sp1 sl1 sq1):=S11.cell 11;have y_12:w11.cell? ⟨w3.heap.size,12,none⟩=some (.slice sp2 sl2 sq2):=S11.cell 12;have y_13:w11.cell? ⟨w3.heap.size,13,none⟩=some (.int .i64 s9):=S11.cell 13;have y_14:w11.cell? ⟨w3.heap.size,14,none⟩=some (.int .i64 s10):=S11.cell 14;have y_15:w11.cell? ⟨w3.heap.size,15,none⟩=some (.bool sb):=S11.cell 15
  clear OX11 c11 B10 S10 OS10 X10 OX10 G10 OG10
  go_wp2_with fail
  refine (CE _ _ _ _ _ OG11.rd OS11.rd (by omega) (by omega)).mono ?_;rintro e w12 ⟨rfl,b12⟩;have z12:w11.heap.size≤w12.heap.size:=b12.size;have B12:=B11.trans (b12.mono (by omega));have S12:=S11.call b12;have OS12:=OS11.call b12;have G12:=G11.call b12;have OG12:=OG11.call b12;clear b12 B11 S11 OS11 G11 OG11 u_0 u_1 u_2 u_3 u_4 u_5 u_6 u_7 u_8 u_9 u_10 u_11 u_12 u_13 u_14 u_15 y_0 y_1 y_2 y_3 y_4 y_5 y_6 y_7 y_8 y_9 y_10 y_11 y_12 y_13 y_14 y_15
  go_wp2_with (refine zat 36 (.tmp 12) rfl rfl (w7.heap.size) rfl G12 Tryz.underlying36 zaS rfl ?_)
  refine (CM OG12).mono ?_;rintro e w13 ⟨rfl,OG13,c13⟩;have z13:w12.heap.size≤w13.heap.size:=c13.size;have B13:=B12.trans (c13.bel (B:=w1.heap.size) (by omega) (by omega));have S13:=S12.chg c13 (.inl (by omega));have OS13:=OS12.chg c13 (.inl (by omega));have G13:=G12.chg c13 (.inr (by omega));clear c13 B12 S12 OS12 G12 OG12
  go_wp2_with (refine zat 36 (.tmp 12) rfl rfl (w7.heap.size) rfl G13 Tryz.underlying36 zaS rfl ?_)
  refine (CH _ _ _ OG13.rd (by omega)).mono ?_;rintro e w14 ⟨rfl,b14⟩;have z14:w13.heap.size≤w14.heap.size:=b14.size;have B14:=B13.trans (b14.mono (by omega));have S14:=S13.call b14;have OS14:=OS13.call b14;have G14:=G13.call b14;have OG14:=OG13.call b14;have P14:=HT1.out.call B14;clear b14 B13 S13 OS13 G13 OG13
  have hn0:¬ (N:Int)<0:=by omega
  go_wp2_with (refine zat 28 (.tmp 4) rfl rfl (w.heap.size) rfl P14.b1 Tryz.underlying28 zeN rfl ?_)
  refine (CT _ B14).mono ?_;rintro e w15 ⟨c15,rfl,o15,b15⟩
  go_wp2_with fail
  refine (CI _ _ _ o15.rd (Nat.le_refl _)).mono ?_;rintro e w16 ⟨cH,rfl,oH,b16⟩;obtain ⟨hc,h0,h1,h2,h3,h4,h5,h6,h7,h8,hp0,hl0,hq0,hp1,hl1,hq1,hp2,hl2,hq2,h9,h10,hb,rfl⟩:=zg1 oH.rd;have z15:w14.heap.size≤w15.heap.size:=b15.size;have z16:w15.heap.size≤w16.heap.size:=b16.size;have B16:=(B14.trans (b15.mono (by omega))).trans (b16.mono (by omega));have S16:=(S14.call b15).call b16;have OS16:=(OS14.call b15).call b16;have G16:=(G14.call b15).call b16;have OG16:=(OG14.call b15).call b16;clear P14 o15 b15 b16 B14 S14 OS14 G14 OG14
  go_upto_region 25 with (refine zbB 36 16 (.tmp 71) _ _ 16 rfl rfl rfl rfl rfl rfl rfl rfl zgo rfl rfl oH.one ?_)
  have bA:=bAl w16 (.cells (.int .i64 hc::rwV h0 h1 h2 h3 h4 h5 h6 h7 h8 hp0 hl0 hq0 hp1 hl1 hq1 hp2 hl2 hq2 h9 h10 hb).toArray 36);have H17:=zaD w16 (.int .i64 hc::rwV h0 h1 h2 h3 h4 h5 h6 h7 h8 hp0 hl0 hq0 hp1 hl1 hq1 hp2 hl2 hq2 h9 h10 hb).toArray 36;obtain ⟨W17,hW17⟩:∃ x,x=w16.alloc (.cells (.int .i64 hc::rwV h0 h1 h2 h3 h4 h5 h6 h7 h8 hp0 hl0 hq0 hp1 hl1 hq1 hp2 hl2 hq2 h9 h10 hb).toArray 36):=⟨_,rfl⟩;rw [← hW17] at bA H17 ⊢;have B17:=B16.trans (bA.mono (by omega));have S17:=S16.call bA;have OS17:=OS16.call bA;have G17:=G16.call bA;have OG17:=OG16.call bA;have OH17:=oH.call bA;have z17:w16.heap.size<W17.heap.size:=H17.lt;clear bA hW17 oH B16 S16 OS16 G16 OG16
  go_wp2_with (first | (refine zat 36 (.tmp 16) rfl rfl (w16.heap.size) rfl H17 Tryz.underlying36 zaS rfl ?_) | (refine zat 36 (.tmp 10) rfl rfl (w3.heap.size) rfl S17 Tryz.underlying36 zaS rfl ?_))
  refine (CE _ _ _ _ _ OH17.rd OS17.rd (by omega) (by omega)).mono ?_;rintro e w18 ⟨rfl,b18⟩;have z18:W17.heap.size≤w18.heap.size:=b18.size;have B18:=B17.trans (b18.mono (by omega));have G18:=G17.call b18;have OG18:=OG17.call b18;clear b18 B17 S17 OS17 G17 OG17 OH17 H17
  go_wp2_with (refine zat 36 (.tmp 12) rfl rfl (w7.heap.size) rfl G18 Tryz.underlying36 zaS rfl ?_)
  refine (CH _ _ _ OG18.rd (by omega)).mono ?_;rintro e w19 ⟨rfl,b19⟩;have HB:Hid (Below w.heap.size w w19):=(HT1.out.call (B18.trans (b19.mono (by omega)))).bel;clear b19 B18 G18 OG18;go_wp2;go_ret;exact ⟨rfl,HB.out⟩
set_option maxRecDepth 100000 in
theorem zcc (os:Os) (started:os.Started) (H:Type) (enc:TypeId×Value→H) :
 ReturnsInHanded {} Tryz.checked os 3 .any (Rows.fnExactStrikeRecsSpec.pre6 enc Tryz.prog Tryz.f3 Rows.fnExactStrikeRecsRow.domain false) (Rows.fnExactStrikeRecsSpec.post enc Tryz.prog Tryz.f3 false true false false):=by
 refine returnsInHanded_of_change (C:=Tryz.checked) zhL started (by kernel_rfl) Tryz.func3
  (ChangeSpec.witness6 (enc:=enc) (C:=Tryz.checked) false ⟨#[],#[.agg (rwV 0 0 0 0 0 0 0 0 0 none 0 0 none 0 0 none 0 0 0 0 false).toArray,.int .i64 0,.int .i64 0,.int .i64 0],[]⟩ 8 (by kernel_rfl) (by kernel_rfl) (by kernel_rfl) (by kernel_rfl)) ?_
 intro W base args ds gs before hval0 hW hcnd _;have hval:∀ (j:Nat) t v,Tryz.f3.params[j]?=some t→args[j]?=some v→Value.okWide Tryz.prog W .any base t v:=hval0;have hW':=hW;obtain ⟨p,q,hA0,hV,rfl,hfz,hnd⟩:=hW;have hA:DataW.TrodAll enc Tryz.prog W 0 (fun _=>true) true Tryz.f3.params.toList args.toList ds p:=hA0;rw [Tryz.params3] at hA hval;obtain ⟨v0,vs0,d0,ds0,p0,q0,hargs,rfl,rfl,h0,r0⟩:=trodAll_cons hA;obtain ⟨v1,vs1,d1,ds1,p1,q1,rfl,rfl,rfl,h1,r1⟩:=trodAll_cons r0;obtain ⟨v2,vs2,d2,ds2,p2,q2,rfl,rfl,rfl,h2,r2⟩:=trodAll_cons r1;obtain ⟨v3,vs3,d3,ds3,p3,q3,rfl,rfl,rfl,h3,r3⟩:=trodAll_cons r2;obtain ⟨rfl,rfl,rfl⟩:=trodAll_nil r3
 obtain rfl:args=#[v0,v1,v2,v3]:=by cases args;simp_all
 obtain ⟨rfl,rfl⟩:=trodVars_none hV;have k0:=h0
 have lt0:∀ x∈p0,x.block<W.heap.size:=by obtain ⟨m,hm⟩:=k0;exact DataW.trod_lt m _ _ _ hm
 obtain ⟨cs0,a0,rfl,rd0⟩:=zeb zhb Tryz.underlying28 (hval 0 28 v0 rfl rfl) h0;obtain ⟨n1,rfl,rfl,rfl,hn1⟩:=open_int Tryz.underlying2 (hval 1 2 v1 rfl rfl) h1;obtain ⟨n2,rfl,rfl,rfl,hn2⟩:=open_int Tryz.underlying2 (hval 2 2 v2 rfl rfl) h2;obtain ⟨n3,rfl,rfl,rfl,hn3⟩:=open_int Tryz.underlying2 (hval 3 2 v3 rfl rfl) h3;clear hA0 hval0;refine (zcv a0 cs0 n1 n2 n3 W rd0 (bounds_i64 hn1) (bounds_i64 hn2) (bounds_i64 hn3)).mono fun e W' ⟨he,bel⟩=>?_;subst he;exact ⟨_,rfl,_,_,_,[],_,[],hW',trodAll_mk1 (shut_bool Tryz.underlying4 _),(trodAll_cons_mk (Below.trod zg6 (by kernel_rfl) (of_decide_eq_true (by kernel_rfl)) k0 bel lt0) (trodAll_cons_mk (shut_int Tryz.underlying2 hn1) (trodAll_cons_mk (shut_int Tryz.underlying2 hn2) (trodAll_cons_mk (shut_int Tryz.underlying2 hn3) trodAll_mk0)))),rfl,bel.frame _,fun h=>by cases h⟩
end Go.Proofs.YtdhnekgfhpanfaaGreat
