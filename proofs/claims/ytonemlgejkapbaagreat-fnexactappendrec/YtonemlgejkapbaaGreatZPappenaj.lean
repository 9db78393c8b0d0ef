/- Walk of the program's copyWorld. -/
import Derived.Deep.RegionHeld3
import Derived.Test.YtonemlgejkapbaaGreatZPappenai
set_option linter.unusedVariables false
set_option linter.unusedSimpArgs false
set_option maxHeartbeats 16000000
namespace Go.Proofs.YtonemlgejkapbaaGreat
open Go.RowKit F256
set_option maxRecDepth 20000 in
theorem zfY:ToV zae zaS 77:=fun cs d hi w r hhi hn=>by
 obtain ⟨ao1,cap1,ao2,cap2,ao3,cap3,rfl,h1,h2,h3,k0,k4,k5⟩:=zaR r;clear r;unfold zaS at hn;have R1:=hid h1;have R2:=hid h2;have R3:=hid h3;clear h1 h2 h3;have Q0:=hid k0;have Q4:=hid k4;have Q5:=hid k5;clear k0 k4 k5;have T0:=zay w (rwW d ao1 cap1 ao2 cap2 ao3 cap3).toArray (rwV 0 0 0 0 0 0 0 0 0 none 0 0 none 0 0 none 0 0 0 0 false).toArray 38 38
 go_enter Tryz.func77,Tryz.ntmps77
 go_wp2_with fail
 refine (zel _ d.groups hi _ (((zab.slice 75).slice 76).rd_below R1.out T0.bel hhi) (Nat.le_trans hhi T0.bel.size) (by omega)).mono ?_;rintro e w1 ⟨v0,rfl,o0,b0⟩;obtain ⟨bo1,bcap1,hv⟩:=zbA o0;obtain rfl:=zaL hv;clear hv;have T0c:=T0.call b0;have z0:=T0.b2.lt;have y0:=b0.size;have c0_9:w1.cell? ⟨w.heap.size,9,none⟩=some (.slice ao1 d.groups.1 cap1):=T0c.b1.cell 9;have c0f_9:w1.frozen? ⟨w.heap.size,9,none⟩=false:=T0c.b1.frozen 9;have T1x:Two w (w1.setCell ⟨w.heap.size,9,none⟩ (.slice bo1 d.groups.1 bcap1)) (rwW d bo1 bcap1 ao2 cap2 ao3 cap3).toArray (rwV 0 0 0 0 0 0 0 0 0 none 0 0 none 0 0 none 0 0 0 0 false).toArray 38 38:=⟨T0c.b1.stL [.slice bo1 d.groups.1 bcap1] 9,T0c.b2.seto _ _ (by omega),T0c.bel.setCell (Nat.le_refl _) _⟩;have O1_0:=(o0.stN w.heap.size 9 [.slice bo1 d.groups.1 bcap1] (by omega))
 have e1:(w1.setCell ⟨w.heap.size,9,none⟩ (.slice bo1 d.groups.1 bcap1)).heap.size=w1.heap.size:=by simp
 clear o0 b0
 go_upto_region 2 with fail
 obtain ⟨W1,hW1⟩:∃ x,x=w1.setCell ⟨w.heap.size,9,none⟩ (.slice bo1 d.groups.1 bcap1):=⟨_,rfl⟩
 have O1:Hid (OwnT ((zab.slice 75).slice 76) W1 (w.heap.size+1+1) (w1.heap.size) d.groups [.slice bo1 d.groups.1 bcap1]):=by rw [hW1];exact OwnT.weaken O1_0 (by simp) (Nat.le_refl _)
 rw [← hW1] at T1x e1 ⊢;clear hW1 O1_0 T0c c0_9 c0f_9;have a1_10:W1.cell? ⟨w.heap.size,10,none⟩=some (.slice ao2 d.on.1 cap2):=T1x.b1.cell 10
 go_wp2_with fail
 refine (zd2 _ d.on hi _ (zai.rd_below R2.out T1x.bel hhi) (Nat.le_trans hhi T1x.bel.size) (by omega)).mono ?_;rintro e w2 ⟨v1,rfl,o1,b1⟩;obtain ⟨bo2,bcap2,hv⟩:=zbX o1;obtain rfl:=zaL hv;clear hv;have T1c:=T1x.call b1;have z1:=T1x.b2.lt;have y1:=b1.size;have c1_10:w2.cell? ⟨w.heap.size,10,none⟩=some (.slice ao2 d.on.1 cap2):=T1c.b1.cell 10;have c1f_10:w2.frozen? ⟨w.heap.size,10,none⟩=false:=T1c.b1.frozen 10;have T2x:Two w (w2.setCell ⟨w.heap.size,10,none⟩ (.slice bo2 d.on.1 bcap2)) (rwW d bo1 bcap1 bo2 bcap2 ao3 cap3).toArray (rwV 0 0 0 0 0 0 0 0 0 none 0 0 none 0 0 none 0 0 0 0 false).toArray 38 38:=⟨T1c.b1.stL [.slice bo2 d.on.1 bcap2] 10,T1c.b2.seto _ _ (by omega),T1c.bel.setCell (Nat.le_refl _) _⟩;have O1_1:=(O1.out.call b1).stN w.heap.size 10 [.slice bo2 d.on.1 bcap2] (by omega);have O2_1:=(o1.stN w.heap.size 10 [.slice bo2 d.on.1 bcap2] (by omega))
 have e2:(w2.setCell ⟨w.heap.size,10,none⟩ (.slice bo2 d.on.1 bcap2)).heap.size=w2.heap.size:=by simp
 clear o1 b1 O1 T1x a1_10
 go_upto_region 3 with fail
 obtain ⟨W2,hW2⟩:∃ x,x=w2.setCell ⟨w.heap.size,10,none⟩ (.slice bo2 d.on.1 bcap2):=⟨_,rfl⟩
 have O1:Hid (OwnT ((zab.slice 75).slice 76) W2 (w.heap.size+1+1) (w1.heap.size) d.groups [.slice bo1 d.groups.1 bcap1]):=by rw [hW2];exact O1_1
 have O2:Hid (OwnT zai W2 (W1.heap.size) (w2.heap.size) d.on [.slice bo2 d.on.1 bcap2]):=by rw [hW2];exact O2_1
 rw [← hW2] at T2x e2 ⊢;clear hW2 O1_1 O2_1 T1c c1_10 c1f_10;have a2_11:W2.cell? ⟨w.heap.size,11,none⟩=some (.slice ao3 d.tapes.1 cap3):=T2x.b1.cell 11
 go_wp2_with fail
 refine (zfS _ d.tapes hi _ ((zag.slice 100).rd_below R3.out T2x.bel hhi) (Nat.le_trans hhi T2x.bel.size) (by omega)).mono ?_;rintro e w3 ⟨v2,rfl,o2,b2⟩;obtain ⟨bo3,bcap3,hv⟩:=zbA o2;obtain rfl:=zaL hv;clear hv;have T2c:=T2x.call b2;have z2:=T2x.b2.lt;have y2:=b2.size;have c2_11:w3.cell? ⟨w.heap.size,11,none⟩=some (.slice ao3 d.tapes.1 cap3):=T2c.b1.cell 11;have c2f_11:w3.frozen? ⟨w.heap.size,11,none⟩=false:=T2c.b1.frozen 11;have T3x:Two w (w3.setCell ⟨w.heap.size,11,none⟩ (.slice bo3 d.tapes.1 bcap3)) (rwW d bo1 bcap1 bo2 bcap2 bo3 bcap3).toArray (rwV 0 0 0 0 0 0 0 0 0 none 0 0 none 0 0 none 0 0 0 0 false).toArray 38 38:=⟨T2c.b1.stL [.slice bo3 d.tapes.1 bcap3] 11,T2c.b2.seto _ _ (by omega),T2c.bel.setCell (Nat.le_refl _) _⟩;have O1_2:=(O1.out.call b2).stN w.heap.size 11 [.slice bo3 d.tapes.1 bcap3] (by omega);have O2_2:=(O2.out.call b2).stN w.heap.size 11 [.slice bo3 d.tapes.1 bcap3] (by omega);have O3_2:=(o2.stN w.heap.size 11 [.slice bo3 d.tapes.1 bcap3] (by omega))
 have e3:(w3.setCell ⟨w.heap.size,11,none⟩ (.slice bo3 d.tapes.1 bcap3)).heap.size=w3.heap.size:=by simp
 clear o2 b2 O1 O2 T2x a2_11
 go_upto_region 4 with fail
 obtain ⟨W3,hW3⟩:∃ x,x=w3.setCell ⟨w.heap.size,11,none⟩ (.slice bo3 d.tapes.1 bcap3):=⟨_,rfl⟩
 have O1:Hid (OwnT ((zab.slice 75).slice 76) W3 (w.heap.size+1+1) (w1.heap.size) d.groups [.slice bo1 d.groups.1 bcap1]):=by rw [hW3];exact O1_2
 have O2:Hid (OwnT zai W3 (W1.heap.size) (w2.heap.size) d.on [.slice bo2 d.on.1 bcap2]):=by rw [hW3];exact O2_2
 have O3:Hid (OwnT (zag.slice 100) W3 (W2.heap.size) (w3.heap.size) d.tapes [.slice bo3 d.tapes.1 bcap3]):=by rw [hW3];exact O3_2
 rw [← hW3] at T3x e3 ⊢;clear hW3 O1_2 O2_2 O3_2 T2c c2_11 c2f_11;have y_0:W3.cell? ⟨w.heap.size,0,none⟩=some (.int .i64 (d.shape 0)):=T3x.b1.cell 0;have y_1:W3.cell? ⟨w.heap.size,1,none⟩=some (.int .i64 (d.shape 1)):=T3x.b1.cell 1;have y_2:W3.cell? ⟨w.heap.size,2,none⟩=some (.int .i64 (d.shape 2)):=T3x.b1.cell 2;have y_3:W3.cell? ⟨w.heap.size,3,none⟩=some (.int .i64 (d.shape 3)):=T3x.b1.cell 3;have y_4:W3.cell? ⟨w.heap.size,4,none⟩=some (.int .i64 (d.shape 4)):=T3x.b1.cell 4;have y_5:W3.cell? ⟨w.heap.size,5,none⟩=some (.int .i64 (d.shape 5)):=T3x.b1.cell 5;have y_6:W3.cell? ⟨w.heap.size,6,none⟩=some (.int .i64 (d.shape 6)):=T3x.b1.cell 6;have y_7:W3.cell? ⟨w.heap.size,7,none⟩=some (.int .i64 (d.shape 7)):=T3x.b1.cell 7;have y_8:W3.cell? ⟨w.heap.size,8,none⟩=some (.int .i64 (d.shape 8)):=T3x.b1.cell 8;have y_9:W3.cell? ⟨w.heap.size,9,none⟩=some (.slice bo1 d.groups.1 bcap1):=T3x.b1.cell 9;have y_10:W3.cell? ⟨w.heap.size,10,none⟩=some (.slice bo2 d.on.1 bcap2):=T3x.b1.cell 10;have y_11:W3.cell? ⟨w.heap.size,11,none⟩=some (.slice bo3 d.tapes.1 bcap3):=T3x.b1.cell 11;have y_12:W3.cell? ⟨w.heap.size,12,none⟩=some (.int .i64 d.writes):=T3x.b1.cell 12;have y_13:W3.cell? ⟨w.heap.size,13,none⟩=some (.int .i64 d.stop):=T3x.b1.cell 13;have y_14:W3.cell? ⟨w.heap.size,14,none⟩=some (.bool d.down):=T3x.b1.cell 14;have r_0:W3.cell? ⟨w.heap.size+1,0,none⟩=some (.int .i64 0):=T3x.b2.cell 0;have rf_0:W3.frozen? ⟨w.heap.size+1,0,none⟩=false:=T3x.b2.frozen 0;have r_1:W3.cell? ⟨w.heap.size+1,1,none⟩=some (.int .i64 0):=T3x.b2.cell 1;have rf_1:W3.frozen? ⟨w.heap.size+1,1,none⟩=false:=T3x.b2.frozen 1;have r_2:W3.cell? ⟨w.heap.size+1,2,none⟩=some (.int .i64 0):=T3x.b2.cell 2;have rf_2:W3.frozen? ⟨w.heap.size+1,2,none⟩=false:=T3x.b2.frozen 2;have r_3:W3.cell? ⟨w.heap.size+1,3,none⟩=some (.int .i64 0):=T3x.b2.cell 3;have rf_3:W3.frozen? ⟨w.heap.size+1,3,none⟩=false:=T3x.b2.frozen 3;have r_4:W3.cell? ⟨w.heap.size+1,4,none⟩=some (.int .i64 0):=T3x.b2.cell 4;have rf_4:W3.frozen? ⟨w.heap.size+1,4,none⟩=false:=T3x.b2.frozen 4;have r_5:W3.cell? ⟨w.heap.size+1,5,none⟩=some (.int .i64 0):=T3x.b2.cell 5;have rf_5:W3.frozen? ⟨w.heap.size+1,5,none⟩=false:=T3x.b2.frozen 5;have r_6:W3.cell? ⟨w.heap.size+1,6,none⟩=some (.int .i64 0):=T3x.b2.cell 6;have rf_6:W3.frozen? ⟨w.heap.size+1,6,none⟩=false:=T3x.b2.frozen 6;have r_7:W3.cell? ⟨w.heap.size+1,7,none⟩=some (.int .i64 0):=T3x.b2.cell 7;have rf_7:W3.frozen? ⟨w.heap.size+1,7,none⟩=false:=T3x.b2.frozen 7;have r_8:W3.cell? ⟨w.heap.size+1,8,none⟩=some (.int .i64 0):=T3x.b2.cell 8;have rf_8:W3.frozen? ⟨w.heap.size+1,8,none⟩=false:=T3x.b2.frozen 8;have r_9:W3.cell? ⟨w.heap.size+1,9,none⟩=some (.slice none 0 0):=T3x.b2.cell 9;have rf_9:W3.frozen? ⟨w.heap.size+1,9,none⟩=false:=T3x.b2.frozen 9
 have r_10:W3.cell? ⟨w.heap.size+1,10,none⟩=some (.slice none 0 0):=T3x.b2.cell 10;have rf_10:W3.frozen? ⟨w.heap.size+1,10,none⟩=false:=T3x.b2.frozen 10;have r_11:W3.cell? ⟨w.heap.size+1,11,none⟩=some (.slice none 0 0):=T3x.b2.cell 11;have rf_11:W3.frozen? ⟨w.heap.size+1,11,none⟩=false:=T3x.b2.frozen 11;have r_12:W3.cell? ⟨w.heap.size+1,12,none⟩=some (.int .i64 0):=T3x.b2.cell 12;have rf_12:W3.frozen? ⟨w.heap.size+1,12,none⟩=false:=T3x.b2.frozen 12;have r_13:W3.cell? ⟨w.heap.size+1,13,none⟩=some (.int .i64 0):=T3x.b2.cell 13;have rf_13:W3.frozen? ⟨w.heap.size+1,13,none⟩=false:=T3x.b2.frozen 13;have r_14:W3.cell? ⟨w.heap.size+1,14,none⟩=some (.bool false):=T3x.b2.cell 14;have rf_14:W3.frozen? ⟨w.heap.size+1,14,none⟩=false:=T3x.b2.frozen 14;have HB:=hid T3x.bel;have zz:=T3x.b2.lt;clear T3x;go_wp2;refine bodyPost_ret (v:=.agg (rwW d bo1 bcap1 bo2 bcap2 bo3 bcap3).toArray) (by simp [results,Tryz.results77,go_sem,r_0,y_0,r_1,y_1,r_2,y_2,r_3,y_3,r_4,y_4,r_5,y_5,r_6,y_6,r_7,y_7,r_8,y_8,r_9,y_9,r_10,y_10,r_11,y_11,r_12,y_12,r_13,y_13,r_14,y_14]) rfl ?_;have F:OwnT zae W3 (w.heap.size+1+1) w3.heap.size d ((rwS d.shape)++([.slice bo1 d.groups.1 bcap1]++([.slice bo2 d.on.1 bcap2]++([.slice bo3 d.tapes.1 bcap3]++([.int .i64 d.writes]++([.int .i64 d.stop]++[.bool d.down])))))):=OwnT.conv (OwnT.pre (A:=(zde 9)) (a:=d.shape) (c:=(rwS d.shape)) ⟨rfl,Q0.out,rfl⟩ (OwnT.two O1.out (OwnT.two O2.out (OwnT.two O3.out (OwnT.pre (A:=layI) (a:=d.writes) (c:=[.int .i64 d.writes]) ⟨rfl,Q4.out,rfl⟩ (OwnT.pre (A:=layI) (a:=d.stop) (c:=[.int .i64 d.stop]) ⟨rfl,Q5.out,rfl⟩ (OwnT.nil (A:=layB) (a:=d.down) (c:=[.bool d.down]) ⟨rfl,trivial,rfl⟩ _ _))) (Nat.le_refl _) (by omega) (by omega)) (by omega) (by omega) (by omega)) (by omega) (by omega) (by omega)));refine ⟨(rwW d bo1 bcap1 bo2 bcap2 bo3 bcap3),rfl,?_,?_⟩
 ·exact OwnT.finb (F.weaken (Nat.le_refl _) (by omega)) (b:=w.heap.size+1) (by omega) (by omega) 0 (rwW d bo1 bcap1 bo2 bcap2 bo3 bcap3) _ rfl
 ·exact HB.out.trans (zaK (by omega) (rwW d bo1 bcap1 bo2 bcap2 bo3 bcap3) 0)
theorem zg8:(Tryz.prog.info? 56).map (·.size)=some 9:=by kernel_rfl
set_option maxRecDepth 20000 in
theorem zil (E:Nat) (v0 v1 v2 v3 v4 v5 v6 v7 v8 vp0 vl0 vq0 vp1 vl1 vq1 vp2 vl2 vq2 v9 v10 vb:_) (d:WorldD) (K:List Nat) (T:Nat) (r:RecD) (o6 o7 o8:Option Addr) (k6 k7 k8 hi:Nat) (w:World) (hX:Box w E #[.int .i32 0,.int .u32 0,.int .u32 0,.int .i32 0,.int .u32 0,.int .i64 v0,.int .i64 v1,.int .i64 v2,.int .i64 v3,.int .i64 v4,.int .i64 v5,.int .i64 v6,.int .i64 v7,.int .i64 v8,.slice vp0 vl0 vq0,.slice vp1 vl1 vq1,.slice vp2 vl2 vq2,.int .i64 v9,.int .i64 v10,.bool vb] 127) (hO:EncO w E d [.int .i64 v0,.int .i64 v1,.int .i64 v2,.int .i64 v3,.int .i64 v4,.int .i64 v5,.int .i64 v6,.int .i64 v7,.int .i64 v8,.slice vp0 vl0 vq0,.slice vp1 vl1 vq1,.slice vp2 vl2 vq2,.int .i64 v9,.int .i64 v10,.bool vb] K) (hT:T<d.tapes.1) (hn:(d.tapes.2 T).recs.1≤10000000) (hr:zac.rd w hi r [.int .i64 r.kind,.int .i64 r.seq,.string r.name,.int .i64 r.length,.int .i64 r.group,.int .i64 r.row,.slice o6 r.rows.1 k6,.slice o7 r.data.1 k7,.slice o8 r.delta.1 k8]) (hiE:hi≤E) (hsr:zaH r≤1048576) (hpw:¬ (v10≠-1∧v10≤v9)) (hwr:-9223372036854775808≤d.writes∧d.writes+1≤9223372036854775807) :
 Calls Tryz.prog 63 #[.pointer (some ⟨E,0,none⟩),.int .i64 (T:Int),.agg #[.int .i64 r.kind,.int .i64 r.seq,.string r.name,.int .i64 r.length,.int .i64 r.group,.int .i64 r.row,.slice o6 r.rows.1 k6,.slice o7 r.data.1 k7,.slice o8 r.delta.1 k8]] w fun e w'=>e=.returned (.tuple #[])∧∃ cs' K',Box w' E (([.int .i32 0,.int .u32 0,.int .u32 0,.int .i32 0,.int .u32 0]:List Value)++cs').toArray 127∧EncO w' E { zcb d T r with writes:=d.writes+1 } cs' K'∧(∀ b,b∈K'→b∈K∨w.heap.size≤b)∧ChgL (E::K) w w':=by
 have hmf:∀ (fn:Fn) (first cap:Array Value) (w:World),(Instr.makeFunc fn first cap).run Tryz.prog w=.ok (.func fn first cap) w:=fun _ _ _ _=>rfl;have hE:E<w.heap.size:=hX.lt;have TB:=zay w #[.int .i64 (T:Int)] (rwR r o6 k6 o7 k7 o8 k8).toArray 2 56;have X1:=hX.below TB.bel hE
 go_enter Tryz.func63,Tryz.ntmps63
 go_upto_region 1 with fail
 obtain ⟨W,hW⟩:∃ x,x=((w.alloc (.cells #[.int .i64 (T:Int)] 2)).alloc (.cells (rwR r o6 k6 o7 k7 o8 k8).toArray 56)):=⟨_,rfl⟩;rw [← hW] at TB X1 ⊢;have zW:w.heap.size≤W.heap.size:=TB.bel.size;clear hW hX;have O1:EncO W E d (rwV v0 v1 v2 v3 v4 v5 v6 v7 v8 vp0 vl0 vq0 vp1 vl1 vq1 vp2 vl2 vq2 v9 v10 vb) K:=⟨Lay.own_kept _ hO.own (fun b hb=>TB.bel.block b (zae.own_lt hO.own b hb)),hO.nd,hO.ne⟩;have CR:=zea E v0 v1 v2 v3 v4 v5 v6 v7 v8 vp0 vl0 vq0 vp1 vl1 vq1 vp2 vl2 vq2 v9 v10 vb d (zcb d T r) K w.heap.size (w.heap.size+1) W X1 O1 hpw hwr (fun W' hX' hO' hC'=>zfU E d _ K _ _ T r o6 o7 o8 k6 k7 k8 hi hT hn W' hX' hO' ((World.cell?_of_block (hC'.block w.heap.size TB.b1.lt (by simp;omega))).trans (TB.b1.cell 0)) (TB.b2.chgl hC' (by simp;omega)) (zac.rd_below (zac.rd_below hr TB.bel (by omega)) (hC'.bel (B:=hi) (fun b hb=>by simp at hb;omega) (by omega)) (Nat.le_refl _)) (by have:=hC'.size;omega) hsr ⟨by have:=hC'.size;have:=TB.b2.lt;omega,fun hb=>by have:=zae.own_lt hO.own _ hb;omega⟩ (fun hb=>by have:=zae.own_lt hO.own _ hb;omega));have HCR:=CR;clear CR hO hpw hwr O1 X1
 go_wp2_with (go_at_call 79;refine HCR.mono ?_;rintro e w5 ⟨rfl,cs',K',X5,O5,s5,C5⟩)
 go_end0
 exact ⟨rfl,cs',K',X5,O5,fun b hb=>(s5 b hb).imp id (fun h=>by omega),(ChgL.of_below TB.bel).trans C5⟩
set_option maxRecDepth 20000 in
theorem zgK (E:Nat) (v0 v1 v2 v3 v4 v5 v6 v7 v8 vp0 vl0 vq0 vp1 vl1 vq1 vp2 vl2 vq2 v9 v10 vb:_) (d:WorldD) (K:List Nat) (T:Nat) (r:RecD) (o6 o7 o8:Option Addr) (k6 k7 k8 hi:Nat) (w:World) (hX:Box w E #[.int .i32 0,.int .u32 0,.int .u32 0,.int .i32 0,.int .u32 0,.int .i64 v0,.int .i64 v1,.int .i64 v2,.int .i64 v3,.int .i64 v4,.int .i64 v5,.int .i64 v6,.int .i64 v7,.int .i64 v8,.slice vp0 vl0 vq0,.slice vp1 vl1 vq1,.slice vp2 vl2 vq2,.int .i64 v9,.int .i64 v10,.bool vb] 127) (h1:∀ x,x∈([.int .i64 v0,.int .i64 v1,.int .i64 v2,.int .i64 v3,.int .i64 v4,.int .i64 v5,.int .i64 v6,.int .i64 v7,.int .i64 v8,.slice vp0 vl0 vq0,.slice none 0 0,.slice vp2 vl2 vq2,.int .i64 v9,.int .i64 v10,.bool true]:List Value)→x.oneCell'=true) (hs:v10≠-1) (hw:v10≤v9) :
 Calls Tryz.prog 63 #[.pointer (some ⟨E,0,none⟩),.int .i64 (T:Int),.agg #[.int .i64 r.kind,.int .i64 r.seq,.string r.name,.int .i64 r.length,.int .i64 r.group,.int .i64 r.row,.slice o6 r.rows.1 k6,.slice o7 r.data.1 k7,.slice o8 r.delta.1 k8]] w fun e w'=>e=.panicked [{ v:=.iface 154 (.agg #[]),recovered:=false }]∧Box w' E #[.int .i32 0,.int .u32 0,.int .u32 1,.int .i32 0,.int .u32 0,.int .i64 v0,.int .i64 v1,.int .i64 v2,.int .i64 v3,.int .i64 v4,.int .i64 v5,.int .i64 v6,.int .i64 v7,.int .i64 v8,.slice vp0 vl0 vq0,.slice none 0 0,.slice vp2 vl2 vq2,.int .i64 v9,.int .i64 v10,.bool true] 127∧ChgL [E] w w':=by
 have hmf:∀ (fn:Fn) (first cap:Array Value) (w:World),(Instr.makeFunc fn first cap).run Tryz.prog w=.ok (.func fn first cap) w:=fun _ _ _ _=>rfl;have hE:E<w.heap.size:=hX.lt;have TB:=zay w #[.int .i64 (T:Int)] (rwR r o6 k6 o7 k7 o8 k8).toArray 2 56;have X1:=hX.below TB.bel hE
 go_enter Tryz.func63,Tryz.ntmps63
 go_upto_region 1 with fail
 obtain ⟨W,hW⟩:∃ x,x=((w.alloc (.cells #[.int .i64 (T:Int)] 2)).alloc (.cells (rwR r o6 k6 o7 k7 o8 k8).toArray 56)):=⟨_,rfl⟩;rw [← hW] at TB X1 ⊢;have zW:w.heap.size≤W.heap.size:=TB.bel.size;clear hW hX;have CR:=fun fv=>ze5 E v0 v1 v2 v3 v4 v5 v6 v7 v8 vp0 vl0 vq0 vp1 vl1 vq1 vp2 vl2 vq2 v9 v10 vb fv W X1 h1 hs hw;clear h1 hs hw X1
 go_wp2_with (go_at_call 79;refine (CR _).mono ?_;rintro e w5 ⟨rfl,X5,C5⟩)
 exact ⟨rfl,rfl,X5,(ChgL.of_below TB.bel).trans C5⟩
theorem ze9 (E:Nat) (v0 v1 v2 v3 v4 v5 v6 v7 v8 vp0 vl0 vq0 vp1 vl1 vq1 vp2 vl2 vq2 v9 v10 vb:_) (d:WorldD) (K:List Nat) (T:Nat) (r:RecD) (o6 o7 o8:Option Addr) (k6 k7 k8 hi:Nat) (w:World) (hX:Box w E #[.int .i32 0,.int .u32 0,.int .u32 0,.int .i32 0,.int .u32 0,.int .i64 v0,.int .i64 v1,.int .i64 v2,.int .i64 v3,.int .i64 v4,.int .i64 v5,.int .i64 v6,.int .i64 v7,.int .i64 v8,.slice vp0 vl0 vq0,.slice vp1 vl1 vq1,.slice vp2 vl2 vq2,.int .i64 v9,.int .i64 v10,.bool vb] 127) (a0 a1:Nat) (h0:w.cell? ⟨a0,0,none⟩=some (.int .i64 (T:Int))) (h01:Box w a1 #[.int .i64 r.kind,.int .i64 r.seq,.string r.name,.int .i64 r.length,.int .i64 r.group,.int .i64 r.row,.slice o6 r.rows.1 k6,.slice o7 r.data.1 k7,.slice o8 r.delta.1 k8] 56) (hO:EncO w E d [.int .i64 v0,.int .i64 v1,.int .i64 v2,.int .i64 v3,.int .i64 v4,.int .i64 v5,.int .i64 v6,.int .i64 v7,.int .i64 v8,.slice vp0 vl0 vq0,.slice vp1 vl1 vq1,.slice vp2 vl2 vq2,.int .i64 v9,.int .i64 v10,.bool vb] K) (hT:T<d.tapes.1) (hn:(d.tapes.2 T).recs.1≤10000000) (hr:zac.rd w hi r [.int .i64 r.kind,.int .i64 r.seq,.string r.name,.int .i64 r.length,.int .i64 r.group,.int .i64 r.row,.slice o6 r.rows.1 k6,.slice o7 r.data.1 k7,.slice o8 r.delta.1 k8]) (hiE:hi≤E) (hsr:zaH r≤1048576) (hpw:¬ (v10≠-1∧v10≤v9)) (hwr:-9223372036854775808≤d.writes∧d.writes+1≤9223372036854775807) :
 Calls Tryz.prog 62 #[.pointer (some ⟨E,0,none⟩),.pointer (some ⟨a0,0,none⟩),.pointer (some ⟨a1,0,none⟩)] w fun e w'=>e=.returned (.tuple #[])∧∃ cs' K',Box w' E (([.int .i32 0,.int .u32 0,.int .u32 0,.int .i32 0,.int .u32 0]:List Value)++cs').toArray 127∧EncO w' E { zcb d T r with writes:=d.writes+1 } cs' K'∧(∀ b,b∈K'→b∈K∨w.heap.size≤b)∧ChgL (E::K) w w':=by
 have CR:=zil E v0 v1 v2 v3 v4 v5 v6 v7 v8 vp0 vl0 vq0 vp1 vl1 vq1 vp2 vl2 vq2 v9 v10 vb d K T r o6 o7 o8 k6 k7 k8 hi w hX hO hT hn hr hiE hsr hpw hwr;clear hX hO hT hn hr hiE hsr hpw hwr
 go_enter Tryz.func62,Tryz.ntmps62
 go_wp2_with (first | (refine zao 56 (.tmp 2) rfl rfl (a1) rfl (h01) Tryz.underlying56 zg8 rfl ?_) | (go_at_call 63;refine CR.mono ?_;rintro e w5 ⟨rfl,cs',K',X5,O5,s5,C5⟩))
 go_end0
 exact ⟨rfl,cs',K',X5,O5,s5,C5⟩
theorem zeb (E:Nat) (v0 v1 v2 v3 v4 v5 v6 v7 v8 vp0 vl0 vq0 vp1 vl1 vq1 vp2 vl2 vq2 v9 v10 vb:_) (d:WorldD) (K:List Nat) (T:Nat) (r:RecD) (o6 o7 o8:Option Addr) (k6 k7 k8 hi:Nat) (w:World) (hX:Box w E #[.int .i32 0,.int .u32 0,.int .u32 0,.int .i32 0,.int .u32 0,.int .i64 v0,.int .i64 v1,.int .i64 v2,.int .i64 v3,.int .i64 v4,.int .i64 v5,.int .i64 v6,.int .i64 v7,.int .i64 v8,.slice vp0 vl0 vq0,.slice vp1 vl1 vq1,.slice vp2 vl2 vq2,.int .i64 v9,.int .i64 v10,.bool vb] 127) (a0 a1:Nat) (h0:w.cell? ⟨a0,0,none⟩=some (.int .i64 (T:Int))) (h01:Box w a1 #[.int .i64 r.kind,.int .i64 r.seq,.string r.name,.int .i64 r.length,.int .i64 r.group,.int .i64 r.row,.slice o6 r.rows.1 k6,.slice o7 r.data.1 k7,.slice o8 r.delta.1 k8] 56) (h1:∀ x,x∈([.int .i64 v0,.int .i64 v1,.int .i64 v2,.int .i64 v3,.int .i64 v4,.int .i64 v5,.int .i64 v6,.int .i64 v7,.int .i64 v8,.slice vp0 vl0 vq0,.slice none 0 0,.slice vp2 vl2 vq2,.int .i64 v9,.int .i64 v10,.bool true]:List Value)→x.oneCell'=true) (hs:v10≠-1) (hw:v10≤v9) :
 Calls Tryz.prog 62 #[.pointer (some ⟨E,0,none⟩),.pointer (some ⟨a0,0,none⟩),.pointer (some ⟨a1,0,none⟩)] w fun e w'=>e=.panicked [{ v:=.iface 154 (.agg #[]),recovered:=false }]∧Box w' E #[.int .i32 0,.int .u32 0,.int .u32 1,.int .i32 0,.int .u32 0,.int .i64 v0,.int .i64 v1,.int .i64 v2,.int .i64 v3,.int .i64 v4,.int .i64 v5,.int .i64 v6,.int .i64 v7,.int .i64 v8,.slice vp0 vl0 vq0,.slice none 0 0,.slice vp2 vl2 vq2,.int .i64 v9,.int .i64 v10,.bool true] 127∧ChgL [E] w w':=by
 have CR:=zgK E v0 v1 v2 v3 v4 v5 v6 v7 v8 vp0 vl0 vq0 vp1 vl1 vq1 vp2 vl2 vq2 v9 v10 vb d K T r o6 o7 o8 k6 k7 k8 hi w hX h1 hs hw;clear hX h1 hs hw
 go_enter Tryz.func62,Tryz.ntmps62
 go_wp2_with (first | (refine zao 56 (.tmp 2) rfl rfl (a1) rfl (h01) Tryz.underlying56 zg8 rfl ?_) | (go_at_call 63;refine CR.mono ?_;rintro e w5 ⟨rfl,X5,C5⟩))
 exact ⟨rfl,rfl,X5,C5⟩
set_option maxRecDepth 100000 in
theorem zfZ (d:WorldD) (cs:List Value) (hi:Nat) (T:Nat) (r:RecD) (o6 o7 o8:Option Addr) (k6 k7 k8 hir:Nat) (a0 a1:Nat) (w:World) (h:zae.rd w hi d cs) (hhi:hi≤w.heap.size) (hsz:zaS d≤1048576) (hc0:w.cell? ⟨a0,0,none⟩=some (.int .i64 (T:Int))) (hl0:a0<w.heap.size) (hc1:Box w a1 #[.int .i64 r.kind,.int .i64 r.seq,.string r.name,.int .i64 r.length,.int .i64 r.group,.int .i64 r.row,.slice o6 r.rows.1 k6,.slice o7 r.data.1 k7,.slice o8 r.delta.1 k8] 56) (hT:T<d.tapes.1) (hn:(d.tapes.2 T).recs.1≤10000000) (hr:zac.rd w hir r [.int .i64 r.kind,.int .i64 r.seq,.string r.name,.int .i64 r.length,.int .i64 r.group,.int .i64 r.row,.slice o6 r.rows.1 k6,.slice o7 r.data.1 k7,.slice o8 r.delta.1 k8]) (hhr:hir≤w.heap.size) (hsr:zaH r≤1048576) (hwr:-9223372036854775808≤d.writes∧d.writes+1≤9223372036854775807) (P:WorldResultD→Prop) (hPf:d.stop≠-1∧d.stop≤d.writes→P ⟨9,cutW d⟩) (hPo:¬ (d.stop≠-1∧d.stop≤d.writes)→P ⟨0,{ zcb d T r with writes:=d.writes+1 }⟩) :
 Calls Tryz.prog 45 #[.agg cs.toArray,.func (.func 62) #[] #[.pointer (some ⟨a0,0,none⟩),.pointer (some ⟨a1,0,none⟩)]] w (zcF P w):=by
 obtain ⟨v0,v1,v2,v3,v4,v5,v6,v7,v8,vp0,vl0,vq0,vp1,vl1,vq1,vp2,vl2,vq2,v9,v10,vb,rfl⟩:=zgE h;have hmf:∀ (fn:Fn) (first cap:Array Value) (w:World),(Instr.makeFunc fn first cap).run Tryz.prog w=.ok (.func fn first cap) w:=fun _ _ _ _=>rfl;have T0:=zay w #[.int .i64 v0,.int .i64 v1,.int .i64 v2,.int .i64 v3,.int .i64 v4,.int .i64 v5,.int .i64 v6,.int .i64 v7,.int .i64 v8,.slice vp0 vl0 vq0,.slice vp1 vl1 vq1,.slice vp2 vl2 vq2,.int .i64 v9,.int .i64 v10,.bool vb] #[.int .i64 0,.int .i64 0,.int .i64 0,.int .i64 0,.int .i64 0,.int .i64 0,.int .i64 0,.int .i64 0,.int .i64 0,.int .i64 0,.slice none 0 0,.slice none 0 0,.slice none 0 0,.int .i64 0,.int .i64 0,.bool false] 38 40;have CC:=fun w' (hb:Below w.heap.size w w')=>zfY [.int .i64 v0,.int .i64 v1,.int .i64 v2,.int .i64 v3,.int .i64 v4,.int .i64 v5,.int .i64 v6,.int .i64 v7,.int .i64 v8,.slice vp0 vl0 vq0,.slice vp1 vl1 vq1,.slice vp2 vl2 vq2,.int .i64 v9,.int .i64 v10,.bool vb] d hi w' (zae.rd_below h hb hhi) (Nat.le_trans hhi hb.size) hsz;clear h
 go_enter_defers Tryz.func45,Tryz.ntmps45
 go_wp2_with (refine zao 38 (.tmp 2) rfl rfl (w.heap.size) rfl (T0.b1) Tryz.underlying38 zbH rfl ?_)
 refine (CC _ T0.bel).mono ?_;rintro e w2 ⟨c2,rfl,o2,b2⟩;obtain ⟨u0,u1,u2,u3,u4,u5,u6,u7,u8,up0,ul0,uq0,up1,ul1,uq1,up2,ul2,uq2,u9,u10,ub,rfl⟩:=zg6 o2;have T2:=T0.call b2;have z2:w.heap.size+1<w2.heap.size:=T2.b2.lt;have TB:=zay w2 #[.int .i32 0,.int .u32 0,.int .u32 0,.int .i32 0,.int .u32 0,.int .i64 u0,.int .i64 u1,.int .i64 u2,.int .i64 u3,.int .i64 u4,.int .i64 u5,.int .i64 u6,.int .i64 u7,.int .i64 u8,.slice up0 ul0 uq0,.slice up1 ul1 uq1,.slice up2 ul2 uq2,.int .i64 u9,.int .i64 u10,.bool ub] #[.pointer (some ⟨w2.heap.size,0,none⟩)] 127 87;obtain ⟨K,hk1,hk2,hk3⟩:=o2;have hkz:∀ b,b∈K→w.heap.size≤b∧b<w2.heap.size:=fun b hb=>⟨by have:=hk3 b hb;simp at this;omega,(hk3 b hb).2⟩
 go_upto_region 2 with fail
 obtain ⟨W3,hW3⟩:∃ x,x=(w2.alloc (.cells #[.int .i32 0,.int .u32 0,.int .u32 0,.int .i32 0,.int .u32 0,.int .i64 u0,.int .i64 u1,.int .i64 u2,.int .i64 u3,.int .i64 u4,.int .i64 u5,.int .i64 u6,.int .i64 u7,.int .i64 u8,.slice up0 ul0 uq0,.slice up1 ul1 uq1,.slice up2 ul2 uq2,.int .i64 u9,.int .i64 u10,.bool ub] 127)).alloc (.cells #[.pointer (some ⟨w2.heap.size,0,none⟩)] 87):=⟨_,rfl⟩;rw [← hW3] at TB ⊢;clear hW3;have T3:=T2.call TB.bel;have O3:EncO W3 w2.heap.size d [.int .i64 u0,.int .i64 u1,.int .i64 u2,.int .i64 u3,.int .i64 u4,.int .i64 u5,.int .i64 u6,.int .i64 u7,.int .i64 u8,.slice up0 ul0 uq0,.slice up1 ul1 uq1,.slice up2 ul2 uq2,.int .i64 u9,.int .i64 u10,.bool ub] K:=⟨Lay.own_kept _ hk1 (fun b hb=>TB.bel.block b (hkz b hb).2),hk2,fun hb=>by have:=hkz _ hb;omega⟩;have z3:w2.heap.size+1<W3.heap.size:=TB.b2.lt;have hst:=ziX hk1;have hwt:=zd8 hk1;have q0:W3.cell? ⟨a0,0,none⟩=some (.int .i64 (T:Int)):=(T3.bel.cell (p:=⟨a0,0,none⟩) hl0).trans hc0;have q1:Box W3 a1 #[.int .i64 r.kind,.int .i64 r.seq,.string r.name,.int .i64 r.length,.int .i64 r.group,.int .i64 r.row,.slice o6 r.rows.1 k6,.slice o7 r.data.1 k7,.slice o8 r.delta.1 k8] 56:=hc1.below T3.bel hc1.lt;have x5:W3.cell? ⟨w2.heap.size+1,0,none⟩=some (.pointer (some ⟨w2.heap.size,0,none⟩)):=TB.b2.cell 0
 by_cases hf:u10≠-1∧u10≤u9
 ·have hP:P ⟨9,cutW d⟩:=hPf (by rw [← hst,← hwt];exact hf)
  obtain ⟨KC,kc1,kc2,kc3⟩:=ziA hk1 hk2;have CF:=zeb w2.heap.size u0 u1 u2 u3 u4 u5 u6 u7 u8 up0 ul0 uq0 up1 ul1 uq1 up2 ul2 uq2 u9 u10 ub d K T r o6 o7 o8 k6 k7 k8 hir W3 TB.b1 a0 a1 q0 q1 (fun x hx=>zae.own_one kc1 x hx) hf.1 hf.2;have HS:Hid (u10=d.stop∧u9=d.writes):=⟨hst,hwt⟩;clear hst hwt hf hPf hPo
  go_wp2_with (go_at_call 62;refine CF.mono ?_;rintro e w5 ⟨rfl,X5,C5⟩)
  have hR5:=T3.b2.chgl C5 (by simp;omega);have P5:=TB.b2.chgl C5 (by simp);refine leaves_cons (f:=78) (args:=#[.pointer (some ⟨w.heap.size+1,0,none⟩),.pointer (some ⟨w2.heap.size+1,0,none⟩)]) (by simp) (by simp [go_sem]) ?_;refine (zhF _ _ (w.heap.size+1) (w2.heap.size+1) w2.heap.size 0 1 0 _ _ _ _ _ _ _ _ _ _ _ _ _ _ _ _ _ _ _ _ _ _ hR5 (P5.cell 0) X5 (by omega) (by omega)).mono ?_;rintro e u' w7 ⟨rfl,rfl,R7,C7⟩
  simp only [settle,Leaves,List.dropWhile]
  have z5:=C5.size;have z7:=C7.size;have B5:Below w.heap.size w w5:=T3.bel.trans (C5.bel (fun b hb=>by simp at hb;omega) T3.bel.size);have B7:Below w.heap.size w w7:=B5.trans (C7.bel (fun b hb=>by simp at hb;omega) B5.size)
  have O7:OwnT zae w7 w.heap.size w7.heap.size (cutW d) [.int .i64 u0,.int .i64 u1,.int .i64 u2,.int .i64 u3,.int .i64 u4,.int .i64 u5,.int .i64 u6,.int .i64 u7,.int .i64 u8,.slice up0 ul0 uq0,.slice none 0 0,.slice up2 ul2 uq2,.int .i64 u9,.int .i64 u10,.bool true]:=by
   refine ⟨KC,?_,kc2,fun b hb=>⟨(hkz b (kc3 b hb)).1,by have:=hkz b (kc3 b hb);omega⟩⟩;refine Lay.own_chgL _ (Lay.own_chgL _ (Lay.own_kept _ kc1 (fun b hb=>TB.bel.block b (hkz b (kc3 b hb)).2)) C5 (fun b hb hm=>?_)) C7 (fun b hb hm=>?_)
   ·simp at hm;have:=hkz b (kc3 b hb);omega
   ·simp at hm;have:=hk3 b (kc3 b hb);have:=T0.b2.lt;omega
  have hT:zcF P w (.returned (.agg #[.int .i64 9,.int .i64 u0,.int .i64 u1,.int .i64 u2,.int .i64 u3,.int .i64 u4,.int .i64 u5,.int .i64 u6,.int .i64 u7,.int .i64 u8,.slice up0 ul0 uq0,.slice none 0 0,.slice up2 ul2 uq2,.int .i64 u9,.int .i64 u10,.bool true])) w7:=by
   refine ⟨⟨9,_⟩,[.int .i64 9,.int .i64 u0,.int .i64 u1,.int .i64 u2,.int .i64 u3,.int .i64 u4,.int .i64 u5,.int .i64 u6,.int .i64 u7,.int .i64 u8,.slice up0 ul0 uq0,.slice none 0 0,.slice up2 ul2 uq2,.int .i64 u9,.int .i64 u10,.bool true],rfl,hP,?_,B7⟩;exact zcd 9 (by decide) O7
  exact ⟨_,results_cell_row Tryz.results45 _ w7 (w.heap.size+1) 40 #[.int .i64 9,.int .i64 u0,.int .i64 u1,.int .i64 u2,.int .i64 u3,.int .i64 u4,.int .i64 u5,.int .i64 u6,.int .i64 u7,.int .i64 u8,.slice up0 ul0 uq0,.slice none 0 0,.slice up2 ul2 uq2,.int .i64 u9,.int .i64 u10,.bool true] (0,0) (.struct _) rfl R7 Tryz.underlying40 rfl (by rw [zax];rfl),hT⟩
 ·have hP:P ⟨0,{ zcb d T r with writes:=d.writes+1 }⟩:=hPo (by rw [← hst,← hwt];exact hf)
  have CF:=(ze9 w2.heap.size u0 u1 u2 u3 u4 u5 u6 u7 u8 up0 ul0 uq0 up1 ul1 uq1 up2 ul2 uq2 u9 u10 ub d K T r o6 o7 o8 k6 k7 k8 hir W3 TB.b1 a0 a1 q0 q1 O3 hT hn (zac.rd_below hr T3.bel hhr) (by omega) hsr hf hwr).mono (R':=fun e w'=>e=.returned (.tuple #[])∧∃ y0 y1 y2 y3 y4 y5 y6 y7 y8 yp0 yl0 yq0 yp1 yl1 yq1 yp2 yl2 yq2 y9 y10 yb K',Box w' w2.heap.size #[.int .i32 0,.int .u32 0,.int .u32 0,.int .i32 0,.int .u32 0,.int .i64 y0,.int .i64 y1,.int .i64 y2,.int .i64 y3,.int .i64 y4,.int .i64 y5,.int .i64 y6,.int .i64 y7,.int .i64 y8,.slice yp0 yl0 yq0,.slice yp1 yl1 yq1,.slice yp2 yl2 yq2,.int .i64 y9,.int .i64 y10,.bool yb] 127∧EncO w' w2.heap.size { zcb d T r with writes:=d.writes+1 } [.int .i64 y0,.int .i64 y1,.int .i64 y2,.int .i64 y3,.int .i64 y4,.int .i64 y5,.int .i64 y6,.int .i64 y7,.int .i64 y8,.slice yp0 yl0 yq0,.slice yp1 yl1 yq1,.slice yp2 yl2 yq2,.int .i64 y9,.int .i64 y10,.bool yb] K'∧(∀ b,b∈K'→b∈K∨W3.heap.size≤b)∧ChgL (w2.heap.size::K) W3 w') (fun e w' ⟨he,cs',K',hX',hO',hs',hC'⟩=>by
   obtain ⟨y0,y1,y2,y3,y4,y5,y6,y7,y8,yp0,yl0,yq0,yp1,yl1,yq1,yp2,yl2,yq2,y9,y10,yb,rfl⟩:=ze4 hO'.own
   exact ⟨he,y0,y1,y2,y3,y4,y5,y6,y7,y8,yp0,yl0,yq0,yp1,yl1,yq1,yp2,yl2,yq2,y9,y10,yb,K',hX',hO',hs',hC'⟩)
  have hRK:w.heap.size+1∉w2.heap.size::K:=fun hm=>by
   rcases List.mem_cons.1 hm with h | h
   ·omega
   ·have:=hk3 _ h;have:=T0.b2.lt;omega
  clear hst hwt hf hPf hPo
  go_wp2_with (first | (go_at_call 62;refine CF.mono ?_;rintro e w5 ⟨rfl,y0,y1,y2,y3,y4,y5,y6,y7,y8,yp0,yl0,yq0,yp1,yl1,yq1,yp2,yl2,yq2,y9,y10,yb,K5,X5,O5,s5,C5⟩;have hR5:=T3.b2.chgl C5 hRK) | (refine zao 40 (.tmp 4) rfl rfl (w.heap.size+1) rfl (hR5) Tryz.underlying40 zax rfl ?_) | (refine zaP 40 _ _ rfl rfl (w.heap.size+1) rfl (cs:=[.int .i64 0,.int .i64 0,.int .i64 0,.int .i64 0,.int .i64 0,.int .i64 0,.int .i64 0,.int .i64 0,.int .i64 0,.int .i64 0,.slice none 0 0,.slice none 0 0,.slice none 0 0,.int .i64 0,.int .i64 0,.bool false]) rfl hR5 zax rfl rfl (zbV 0 (by decide) w) ?_;intro w6 R6 C6 z6))
  have z5:=C5.size
  have P5:=TB.b2.chgl C5 (fun hm=>by
   rcases List.mem_cons.1 hm with h | h
   ·omega
   ·have:=hkz _ h;omega)
  have P6:=P5.chgl C6 (by simp;omega);have X6:=X5.chgl C6 (by simp;omega);refine leaves_cons (f:=78) (args:=#[.pointer (some ⟨w.heap.size+1,0,none⟩),.pointer (some ⟨w2.heap.size+1,0,none⟩)]) (by simp) (by simp [go_sem]) ?_;refine (zik (w.heap.size+1) (w2.heap.size+1) w2.heap.size 0 0 0 _ _ _ _ _ _ _ _ _ _ _ _ _ _ _ _ _ _ _ _ _ _ R6 (P6.cell 0) X6 (by omega) (by omega)).mono ?_;rintro e u' w7 ⟨rfl,rfl,R7,C7⟩
  simp only [settle,Leaves]
  have z7:=C7.size
  have hK5:∀ b,b∈K5→w.heap.size≤b∧b≠w.heap.size+1:=fun b hb=>by
   rcases s5 b hb with h | h
   ·exact ⟨(hkz b h).1,fun e=>hRK (by rw [← e];exact List.mem_cons_of_mem _ h)⟩
   ·omega
  have B5:Below w.heap.size w w5:=T3.bel.trans (C5.bel (fun b hb=>by
   rcases List.mem_cons.1 hb with h | h
   ·omega
   ·exact (hkz b h).1) T3.bel.size)
  have B6:Below w.heap.size w w6:=B5.trans (C6.bel (fun b hb=>by simp at hb;omega) B5.size);have B7:Below w.heap.size w w7:=B6.trans (C7.bel (fun b hb=>by simp at hb;omega) B6.size)
  have O7:OwnT zae w7 w.heap.size w7.heap.size { zcb d T r with writes:=d.writes+1 } [.int .i64 y0,.int .i64 y1,.int .i64 y2,.int .i64 y3,.int .i64 y4,.int .i64 y5,.int .i64 y6,.int .i64 y7,.int .i64 y8,.slice yp0 yl0 yq0,.slice yp1 yl1 yq1,.slice yp2 yl2 yq2,.int .i64 y9,.int .i64 y10,.bool yb]:=by
   have h5:=fun b hb=>zae.own_lt O5.own b hb;refine ⟨K5,?_,O5.nd,fun b hb=>⟨(hK5 b hb).1,by have:=h5 b hb;omega⟩⟩;exact Lay.own_chgL _ (Lay.own_chgL _ O5.own C6 (fun b hb hm=>by simp at hm;exact (hK5 b hb).2 hm)) C7 (fun b hb hm=>by simp at hm;exact (hK5 b hb).2 hm)
  have hT:zcF P w (.returned (.agg #[.int .i64 0,.int .i64 y0,.int .i64 y1,.int .i64 y2,.int .i64 y3,.int .i64 y4,.int .i64 y5,.int .i64 y6,.int .i64 y7,.int .i64 y8,.slice yp0 yl0 yq0,.slice yp1 yl1 yq1,.slice yp2 yl2 yq2,.int .i64 y9,.int .i64 y10,.bool yb])) w7:=by
   refine ⟨⟨0,_⟩,[.int .i64 0,.int .i64 y0,.int .i64 y1,.int .i64 y2,.int .i64 y3,.int .i64 y4,.int .i64 y5,.int .i64 y6,.int .i64 y7,.int .i64 y8,.slice yp0 yl0 yq0,.slice yp1 yl1 yq1,.slice yp2 yl2 yq2,.int .i64 y9,.int .i64 y10,.bool yb],rfl,hP,?_,B7⟩;exact zcd 0 (by decide) O7
  exact ⟨_,results_cell_row Tryz.results45 _ w7 (w.heap.size+1) 40 #[.int .i64 0,.int .i64 y0,.int .i64 y1,.int .i64 y2,.int .i64 y3,.int .i64 y4,.int .i64 y5,.int .i64 y6,.int .i64 y7,.int .i64 y8,.slice yp0 yl0 yq0,.slice yp1 yl1 yq1,.slice yp2 yl2 yq2,.int .i64 y9,.int .i64 y10,.bool yb] (0,0) (.struct _) rfl R7 Tryz.underlying40 rfl (by rw [zax];rfl),hT⟩
def ziY (d:WorldD) (T:Nat) (r:RecD):WorldD:={ zcb d T r with writes:=d.writes+1 }
def zim (d:WorldD) (t:Int):Prop:=200≤((d.tapes.2 t.toNat).recs.1:Int)
def AppAns (d:WorldD) (t:Int) (r:RecD) (q:WorldResultD):Prop:=(∃ x,x≠0∧AskAns d x∧q=⟨x,zeS⟩)∨(AskAns d 0∧((¬ InP t 0 1∧q=⟨3,zeS⟩)∨(InP t 0 1∧((∃ x,x≠0∧RecAns d.shape r x∧q=⟨x,zeS⟩)∨(RecAns d.shape r 0∧((zim d t∧q=⟨2,zeS⟩)∨(¬ zim d t∧((zeB d∧q=⟨9,cutW d⟩)∨(¬ zeB d∧q=⟨0,ziY d t.toNat r⟩)))))))))
theorem AppAns.one {d:WorldD} {t:Int} {r:RecD} {p q:WorldResultD} (h:AppAns d t r p) (l:AppAns d t r q):p=q:=by
 rcases h with ⟨x,h1,h2,rfl⟩ | ⟨h1,h⟩<;>rcases l with ⟨y,k1,k2,rfl⟩ | ⟨k1,l⟩
 ·rw [h2.one k2]
 ·exact absurd (h2.one k1) h1
 ·exact absurd (k2.one h1) k1
 ·rcases h with ⟨h2,rfl⟩ | ⟨h2,h⟩<;>rcases l with ⟨k2,rfl⟩ | ⟨k2,l⟩
  ·rfl
  ·exact absurd k2 h2
  ·exact absurd h2 k2
  ·rcases h with ⟨x,h3,h4,rfl⟩ | ⟨h3,h⟩<;>rcases l with ⟨y,k3,k4,rfl⟩ | ⟨k3,l⟩
   ·rw [h4.one k4]
   ·exact absurd (h4.one k3) h3
   ·exact absurd (k4.one h3) k3
   ·rcases h with ⟨h4,rfl⟩ | ⟨h4,h⟩<;>rcases l with ⟨k4,rfl⟩ | ⟨k4,l⟩
    ·rfl
    ·exact absurd h4 k4
    ·exact absurd k4 h4
    ·rcases h with ⟨h5,rfl⟩ | ⟨h5,rfl⟩<;>rcases l with ⟨k5,rfl⟩ | ⟨k5,rfl⟩
     ·rfl
     ·exact absurd h5 k5
     ·exact absurd k5 h5
     ·rfl
theorem zfa {d:WorldD} (h:OkWorld d) {t:Int} (hp:InP t 0 1):∃ T:Nat,t=T∧T<d.tapes.1∧(d.tapes.2 T).recs.1≤1048576:=by
 have h2:=h.form.2.2;unfold InP at hp
 have hT:t.toNat<d.tapes.1:=by omega
 exact ⟨t.toNat,by omega,hT,by have:=h.few _ hT;omega⟩
theorem zdD {s:Nat→Int} {r:RecD} {x:Int} (h:RecAns s r x):-9223372036854775808≤x∧x≤9223372036854775807:=by have:=zfM h;omega
theorem zg9 {r:RecD} (h:zaH r≤1048576):r.name.size≤1048576:=by unfold zaH at h;omega
theorem zec {P:WorldResultD→Prop} {w wc w9:World} {c:Int} {d:WorldD} {cs:List Value} {lo hi r:Nat} (hr:w.heap.size≤r) (hx:-9223372036854775808≤c∧c≤9223372036854775807) (hb:Below w.heap.size w wc) (hc:ChgL [r] wc w9) (ho:OwnT zae wc lo hi d cs) (hlo:r<lo) (hhi:hi≤wc.heap.size) (hP:P ⟨c,d⟩):zcF P w (.returned (.agg (.int .i64 c::cs).toArray)) w9:=
 ⟨⟨c,d⟩,.int .i64 c::cs,rfl,hP,(zcd c hx (ho.chgk hc (fun b hb=>by simp at hb;omega))).weaken (by omega) (Nat.le_trans hhi hc.size),hb.trans (hc.bel (fun b hb=>by simp at hb;omega) hb.size)⟩
theorem Three.chgK {w wc w':World} {c1 c2 c3:Array Value} {t1 t2 t3:TypeId} {K:List Nat} (h:Three w wc c1 c2 c3 t1 t2 t3) (hc:ChgL K wc w') (hK:∀ b,b∈K→w.heap.size+1+1<b):Three w w' c1 c2 c3 t1 t2 t3:=
 ⟨h.b1.chgl hc (fun hb=>by have:=hK _ hb;omega),h.b2.chgl hc (fun hb=>by have:=hK _ hb;omega),h.b3.chgl hc (fun hb=>by have:=hK _ hb;omega),h.bel.trans (hc.bel (fun b hb=>by have:=hK b hb;omega) h.bel.size)⟩
theorem ziC (w:World) (b i j:Nat) (u:Value) (h:i≠j):(w.setCell ⟨b,i,none⟩ u).cell? ⟨b,j,none⟩=w.cell? ⟨b,j,none⟩:=by
 unfold World.setCell World.cell?
 simp only [Array.getElem?_modify]
 cases w.heap[b]? with
 | none=>rfl
 | some o=>cases o<;>simp [Array.getElem?_setIfInBounds,h]
theorem zhG (w:World) (a:Addr) (b:Addr) (u:Value):(w.setCell a u).frozen? b=w.frozen? b:=by
 unfold World.setCell World.frozen?
 simp only [Array.getElem?_modify]
 by_cases h:a.block=b.block
 ·rw [if_pos h]
  cases w.heap[b.block]? with
  | none=>rfl
  | some o=>cases o<;>rfl
 ·rw [if_neg h]
theorem zf0 (w:World) (b i j:Nat) (u v:Value) (h:i≠j):(w.setCell ⟨b,i,none⟩ u).setCell ⟨b,j,none⟩ v=(w.setCell ⟨b,j,none⟩ v).setCell ⟨b,i,none⟩ u:=by
 have hh:((w.setCell ⟨b,i,none⟩ u).setCell ⟨b,j,none⟩ v).heap=((w.setCell ⟨b,j,none⟩ v).setCell ⟨b,i,none⟩ u).heap:=by
  unfold World.setCell
  apply Array.ext_getElem?
  intro k
  simp only [Array.getElem?_modify]
  split
  ·cases w.heap[k]? with
   | none=>rfl
   | some o=>cases o<;>simp [Array.setIfInBounds_comm _ _ h]
  ·rfl
 show ({ w with heap:=((w.setCell ⟨b,i,none⟩ u).setCell ⟨b,j,none⟩ v).heap }:World)={ w with heap:=((w.setCell ⟨b,j,none⟩ v).setCell ⟨b,i,none⟩ u).heap }
 rw [hh]
set_option maxRecDepth 20000 in
theorem zhH (b:Nat) (v0 v1 v2 v3 v4 v5 v6 v7 v8 vp0 vl0 vq0 vp1 vl1 vq1 vp2 vl2 vq2 v9 v10 vb:_) (w:World) (hB:Box w b #[.int .i64 v0,.int .i64 v1,.int .i64 v2,.int .i64 v3,.int .i64 v4,.int .i64 v5,.int .i64 v6,.int .i64 v7,.int .i64 v8,.slice vp0 vl0 vq0,.slice vp1 vl1 vq1,.slice vp2 vl2 vq2,.int .i64 v9,.int .i64 v10,.bool vb] 38) (hd:vb=false) (hs:v10≠-1) (hw:v10≤v9) :
 Calls Tryz.prog 33 #[.pointer (some ⟨b,0,none⟩)] w fun e w'=>e=.returned (.bool false)∧Box w' b #[.int .i64 v0,.int .i64 v1,.int .i64 v2,.int .i64 v3,.int .i64 v4,.int .i64 v5,.int .i64 v6,.int .i64 v7,.int .i64 v8,.slice vp0 vl0 vq0,.slice none 0 0,.slice vp2 vl2 vq2,.int .i64 v9,.int .i64 v10,.bool true] 38∧ChgL [b] w w':=by
 subst hd
 have d1:(v10 != -1)=true:=by simpa using hs
 have d2:decide (v10≤v9)=true:=by simpa using hw
 have x12:w.cell? ⟨b,12,none⟩=some (.int .i64 v9):=hB.cell 12;have x13:w.cell? ⟨b,13,none⟩=some (.int .i64 v10):=hB.cell 13;have x14:w.cell? ⟨b,14,none⟩=some (.bool false):=hB.cell 14;clear hs hw
 go_enter Tryz.func33,Tryz.ntmps33
 go_upto_region 3 with fail
 go_quiet (fail)
 go_upto_region 4 with fail
 obtain ⟨W,hW⟩:∃ x,x=w.drewN nq:=⟨_,rfl⟩;rw [← hW]
 have X1:Box W b (rwV v0 v1 v2 v3 v4 v5 v6 v7 v8 vp0 vl0 vq0 vp1 vl1 vq1 vp2 vl2 vq2 v9 v10 false).toArray 38:=by rw [hW];exact hB
 have C1:ChgL [b] w W:=by rw [hW];exact ⟨rfl,rfl,rfl,Nat.le_refl _,fun _ _ _=>rfl⟩
 clear hW x12 x13 x14 hB;have y0:W.cell? ⟨b,14,none⟩=some (.bool false):=X1.cell 14;have yf0:W.frozen? ⟨b,14,none⟩=false:=X1.frozen 14;have X2:Box (W.setCell ⟨b,14,none⟩ (.bool true)) b (rwV v0 v1 v2 v3 v4 v5 v6 v7 v8 vp0 vl0 vq0 vp1 vl1 vq1 vp2 vl2 vq2 v9 v10 true).toArray 38:=X1.setc 14 _;have y1:(W.setCell ⟨b,14,none⟩ (.bool true)).cell? ⟨b,10,none⟩=some (.slice vp1 vl1 vq1):=X2.cell 10;have yf1:(W.setCell ⟨b,14,none⟩ (.bool true)).frozen? ⟨b,10,none⟩=false:=X2.frozen 10;have X3:Box ((W.setCell ⟨b,14,none⟩ (.bool true)).setCell ⟨b,10,none⟩ (.slice none 0 0)) b (rwV v0 v1 v2 v3 v4 v5 v6 v7 v8 vp0 vl0 vq0 none 0 0 vp2 vl2 vq2 v9 v10 true).toArray 38:=X2.setc 10 _;have C3:ChgL [b] w ((W.setCell ⟨b,14,none⟩ (.bool true)).setCell ⟨b,10,none⟩ (.slice none 0 0)):=(C1.st _ 14 _ (by simp)).st _ 10 _ (by simp);clear X1 X2 C1;go_wp2;go_ret;exact ⟨rfl,X3,C3⟩
set_option maxRecDepth 20000 in
theorem zin (b:Nat) (v0 v1 v2 v3 v4 v5 v6 v7 v8 vp0 vl0 vq0 vp1 vl1 vq1 vp2 vl2 vq2 v9 v10 vb:_) (w:World) (hB:Box w b #[.int .i64 v0,.int .i64 v1,.int .i64 v2,.int .i64 v3,.int .i64 v4,.int .i64 v5,.int .i64 v6,.int .i64 v7,.int .i64 v8,.slice vp0 vl0 vq0,.slice vp1 vl1 vq1,.slice vp2 vl2 vq2,.int .i64 v9,.int .i64 v10,.bool vb] 38) (hd:vb=false) (d1:(v10 != -1)=false) (hwr:-9223372036854775808≤v9∧v9+1≤9223372036854775807) :
 Calls Tryz.prog 33 #[.pointer (some ⟨b,0,none⟩)] w fun e w'=>e=.returned (.bool true)∧Box w' b #[.int .i64 v0,.int .i64 v1,.int .i64 v2,.int .i64 v3,.int .i64 v4,.int .i64 v5,.int .i64 v6,.int .i64 v7,.int .i64 v8,.slice vp0 vl0 vq0,.slice vp1 vl1 vq1,.slice vp2 vl2 vq2,.int .i64 (v9+1),.int .i64 v10,.bool vb] 38∧ChgL [b] w w':=by
 have HD:=hid hd;obtain ⟨vc,hvc⟩:∃ x:Bool,x=vb:=⟨_,rfl⟩
 have zz:IntKind.i64.wrap (v9+1)=v9+1:=by rw [IntKind.wrap_i64];omega
 have x12:w.cell? ⟨b,12,none⟩=some (.int .i64 v9):=hB.cell 12;have x13:w.cell? ⟨b,13,none⟩=some (.int .i64 v10):=hB.cell 13
 have x14:w.cell? ⟨b,14,none⟩=some (.bool false):=by rw [← HD.out];exact hB.cell 14
 clear hwr hd
 go_enter Tryz.func33,Tryz.ntmps33
 go_upto_region 3 with fail
 go_quiet (fail)
 go_upto_region 7 with fail
 obtain ⟨W,hW⟩:∃ x,x=w.drewN nq:=⟨_,rfl⟩;rw [← hW]
 have X1:Box W b (rwV v0 v1 v2 v3 v4 v5 v6 v7 v8 vp0 vl0 vq0 vp1 vl1 vq1 vp2 vl2 vq2 v9 v10 vb).toArray 38:=by rw [hW];exact hB
 have C1:ChgL [b] w W:=by rw [hW];exact ⟨rfl,rfl,rfl,Nat.le_refl _,fun _ _ _=>rfl⟩
 clear hW x12 x13 x14 hB;have y0:W.cell? ⟨b,12,none⟩=some (.int .i64 v9):=X1.cell 12;have yf0:W.frozen? ⟨b,12,none⟩=false:=X1.frozen 12;have X2:Box (W.setCell ⟨b,12,none⟩ (.int .i64 (v9+1))) b #[.int .i64 v0,.int .i64 v1,.int .i64 v2,.int .i64 v3,.int .i64 v4,.int .i64 v5,.int .i64 v6,.int .i64 v7,.int .i64 v8,.slice vp0 vl0 vq0,.slice vp1 vl1 vq1,.slice vp2 vl2 vq2,.int .i64 (v9+1),.int .i64 v10,.bool vb] 38:=X1.setc 12 _;have C2':ChgL [b] w (W.setCell ⟨b,12,none⟩ (.int .i64 (v9+1))):=C1.st _ 12 _ (by simp);clear X1 C1;go_wp2;go_ret;exact ⟨rfl,X2,C2'⟩
set_option maxRecDepth 20000 in
theorem zio (b:Nat) (v0 v1 v2 v3 v4 v5 v6 v7 v8 vp0 vl0 vq0 vp1 vl1 vq1 vp2 vl2 vq2 v9 v10 vb:_) (w:World) (hB:Box w b #[.int .i64 v0,.int .i64 v1,.int .i64 v2,.int .i64 v3,.int .i64 v4,.int .i64 v5,.int .i64 v6,.int .i64 v7,.int .i64 v8,.slice vp0 vl0 vq0,.slice vp1 vl1 vq1,.slice vp2 vl2 vq2,.int .i64 v9,.int .i64 v10,.bool vb] 38) (hd:vb=false) (d1:(v10 != -1)=true) (d2:decide (v10≤v9)=false) (hwr:-9223372036854775808≤v9∧v9+1≤9223372036854775807) :
 Calls Tryz.prog 33 #[.pointer (some ⟨b,0,none⟩)] w fun e w'=>e=.returned (.bool true)∧Box w' b #[.int .i64 v0,.int .i64 v1,.int .i64 v2,.int .i64 v3,.int .i64 v4,.int .i64 v5,.int .i64 v6,.int .i64 v7,.int .i64 v8,.slice vp0 vl0 vq0,.slice vp1 vl1 vq1,.slice vp2 vl2 vq2,.int .i64 (v9+1),.int .i64 v10,.bool vb] 38∧ChgL [b] w w':=by
 have HD:=hid hd;obtain ⟨vc,hvc⟩:∃ x:Bool,x=vb:=⟨_,rfl⟩
 have zz:IntKind.i64.wrap (v9+1)=v9+1:=by rw [IntKind.wrap_i64];omega
 have x12:w.cell? ⟨b,12,none⟩=some (.int .i64 v9):=hB.cell 12;have x13:w.cell? ⟨b,13,none⟩=some (.int .i64 v10):=hB.cell 13
 have x14:w.cell? ⟨b,14,none⟩=some (.bool false):=by rw [← HD.out];exact hB.cell 14
 clear hwr hd
 go_enter Tryz.func33,Tryz.ntmps33
 go_upto_region 3 with fail
 go_quiet (fail)
 go_upto_region 7 with fail
 obtain ⟨W,hW⟩:∃ x,x=w.drewN nq:=⟨_,rfl⟩;rw [← hW]
 have X1:Box W b (rwV v0 v1 v2 v3 v4 v5 v6 v7 v8 vp0 vl0 vq0 vp1 vl1 vq1 vp2 vl2 vq2 v9 v10 vb).toArray 38:=by rw [hW];exact hB
 have C1:ChgL [b] w W:=by rw [hW];exact ⟨rfl,rfl,rfl,Nat.le_refl _,fun _ _ _=>rfl⟩
 clear hW x12 x13 x14 hB;have y0:W.cell? ⟨b,12,none⟩=some (.int .i64 v9):=X1.cell 12;have yf0:W.frozen? ⟨b,12,none⟩=false:=X1.frozen 12;have X2:Box (W.setCell ⟨b,12,none⟩ (.int .i64 (v9+1))) b #[.int .i64 v0,.int .i64 v1,.int .i64 v2,.int .i64 v3,.int .i64 v4,.int .i64 v5,.int .i64 v6,.int .i64 v7,.int .i64 v8,.slice vp0 vl0 vq0,.slice vp1 vl1 vq1,.slice vp2 vl2 vq2,.int .i64 (v9+1),.int .i64 v10,.bool vb] 38:=X1.setc 12 _;have C2':ChgL [b] w (W.setCell ⟨b,12,none⟩ (.int .i64 (v9+1))):=C1.st _ 12 _ (by simp);clear X1 C1;go_wp2;go_ret;exact ⟨rfl,X2,C2'⟩
theorem ziD (b:Nat) (v0 v1 v2 v3 v4 v5 v6 v7 v8 vp0 vl0 vq0 vp1 vl1 vq1 vp2 vl2 vq2 v9 v10 vb:_) (w:World) (hB:Box w b #[.int .i64 v0,.int .i64 v1,.int .i64 v2,.int .i64 v3,.int .i64 v4,.int .i64 v5,.int .i64 v6,.int .i64 v7,.int .i64 v8,.slice vp0 vl0 vq0,.slice vp1 vl1 vq1,.slice vp2 vl2 vq2,.int .i64 v9,.int .i64 v10,.bool vb] 38) (hd:vb=false) (hpw:¬ (v10≠-1∧v10≤v9)) (hwr:-9223372036854775808≤v9∧v9+1≤9223372036854775807) :
 Calls Tryz.prog 33 #[.pointer (some ⟨b,0,none⟩)] w fun e w'=>e=.returned (.bool true)∧Box w' b #[.int .i64 v0,.int .i64 v1,.int .i64 v2,.int .i64 v3,.int .i64 v4,.int .i64 v5,.int .i64 v6,.int .i64 v7,.int .i64 v8,.slice vp0 vl0 vq0,.slice vp1 vl1 vq1,.slice vp2 vl2 vq2,.int .i64 (v9+1),.int .i64 v10,.bool vb] 38∧ChgL [b] w w':=by
 by_cases hs:v10=-1
 ·exact zin b v0 v1 v2 v3 v4 v5 v6 v7 v8 vp0 vl0 vq0 vp1 vl1 vq1 vp2 vl2 vq2 v9 v10 vb w hB hd (by simpa using hs) hwr
 ·exact zio b v0 v1 v2 v3 v4 v5 v6 v7 v8 vp0 vl0 vq0 vp1 vl1 vq1 vp2 vl2 vq2 v9 v10 vb w hB hd (by simpa using hs) (by simp only [decide_eq_false_iff_not];exact fun h=>hpw ⟨hs,h⟩) hwr
set_option maxRecDepth 20000 in
theorem zem:ToV zah zaB 34:=fun cs d hi w r hhi hn=>by
 obtain ⟨ao1,cap1,rfl,h1,k0⟩:=zba r;clear r;unfold zaB lenD at hn;have Q0:=hid k0;clear k0;have T0:=zay w #[.int .i64 d.stamp,.slice ao1 d.bytes.1 cap1] #[.int .i64 0,.slice none 0 0] 43 43;obtain ⟨W0,hW0⟩:∃ x,x=(w.alloc (.cells #[.int .i64 d.stamp,.slice ao1 d.bytes.1 cap1] 43)).alloc (.cells #[.int .i64 0,.slice none 0 0] 43):=⟨_,rfl⟩;rw [← hW0] at T0;have bA:=bAl W0 (.cells #[] 5);have TA:=T0.call bA
 have z0:W0.heap.size=w.heap.size+1+1:=by rw [hW0];simp
 obtain ⟨v',w1,hrun,o1,b1'⟩:=zcH 29 (W0.alloc (.cells #[] 5)).drew W0.heap.size (zd3 W0 5) (zad.rd_below (B:=hi) (zad.rd_below h1 TA.bel hhi) ⟨rfl,rfl,rfl,Nat.le_refl _,fun _ _=>rfl⟩ (Nat.le_refl _)) (show d.bytes.1≤10000000 by omega);have b1:Below W0.heap.size (W0.alloc (.cells #[] 5)) w1:=⟨b1'.os,b1'.tape,b1'.output,b1'.size,b1'.block⟩;obtain ⟨bo,bc,hv⟩:=za9 o1;obtain rfl:=zaL hv;have T1:Two w w1 #[.int .i64 d.stamp,.slice ao1 d.bytes.1 cap1] #[.int .i64 0,.slice none 0 0] 43 43:=⟨TA.b1.below b1 (by omega),TA.b2.below b1 (by omega),TA.bel.trans (b1.mono (by omega))⟩;have x0_0:W0.cell? ⟨w.heap.size,0,none⟩=some (.int .i64 d.stamp):=T0.b1.cell 0;have x0_1:W0.cell? ⟨w.heap.size,1,none⟩=some (.slice ao1 d.bytes.1 cap1):=T0.b1.cell 1;have xa_0:(W0.alloc (.cells #[] 5)).cell? ⟨w.heap.size,0,none⟩=some (.int .i64 d.stamp):=TA.b1.cell 0;have xa_1:(W0.alloc (.cells #[] 5)).cell? ⟨w.heap.size,1,none⟩=some (.slice ao1 d.bytes.1 cap1):=TA.b1.cell 1;have x1_0:w1.cell? ⟨w.heap.size,0,none⟩=some (.int .i64 d.stamp):=T1.b1.cell 0;have x1_1:w1.cell? ⟨w.heap.size,1,none⟩=some (.slice ao1 d.bytes.1 cap1):=T1.b1.cell 1;have r1_0:w1.cell? ⟨w.heap.size+1,0,none⟩=some (.int .i64 0):=T1.b2.cell 0;have r1f_0:w1.frozen? ⟨w.heap.size+1,0,none⟩=false:=T1.b2.frozen 0;have r1_1:w1.cell? ⟨w.heap.size+1,1,none⟩=some (.slice none 0 0):=T1.b2.cell 1;have r1f_1:w1.frozen? ⟨w.heap.size+1,1,none⟩=false:=T1.b2.frozen 1;have HO:=hid o1;have HT:=hid T1;have zw:W0.heap.size≤w1.heap.size:=Nat.le_trans bA.size b1.size;clear T0 TA T1 o1 b1 b1' bA h1 hv
 go_enter Tryz.func34,Tryz.ntmps34
 go_upto_region 1 with fail
 rw [← hW0];clear hW0
 go_region_law (refine zd5 rfl (.tmp 5) (.tmp 7) rfl ?_ ?_ hrun ?_;(simp [Act.eval,Act.put]);(simp [Act.eval,Act.put]))
 all_goals
  go_wp2;refine bodyPost_ret (v:=.agg #[.int .i64 d.stamp,.slice bo d.bytes.1 bc]) (by simp [results,Tryz.results34,go_sem,r1_0,r1_1]) rfl ?_;have F:OwnT zah w1 (w.heap.size+1+1) w1.heap.size d ([.int .i64 d.stamp]++[.slice bo d.bytes.1 bc]):=OwnT.conv (OwnT.pre (A:=layI) (a:=d.stamp) (c:=[.int .i64 d.stamp]) ⟨rfl,Q0.out,rfl⟩ (HO.out.weaken (by omega) (Nat.le_refl _)));refine ⟨[.int .i64 d.stamp,.slice bo d.bytes.1 bc],rfl,?_,?_⟩
  ·exact OwnT.finb F (b:=w.heap.size+1) (by omega) (by omega) 0 [.int .i64 d.stamp,.slice bo d.bytes.1 bc] _ rfl
  ·exact HT.out.bel.trans (zaK (by omega) [.int .i64 d.stamp,.slice bo d.bytes.1 bc] 0)
set_option maxRecDepth 20000 in
theorem zdv:ToV zac zaH 59:=fun cs d hi w r hhi hn=>by
 obtain ⟨ao6,cap6,ao7,cap7,ao8,cap8,rfl,h6,h7,h8,k0,k1,k2,k3,k4,k5⟩:=zbd r;clear r;unfold zaH lenD at hn;have Q0:=hid k0;have Q1:=hid k1;have Q3:=hid k3;have Q4:=hid k4;have Q5:=hid k5;have Q2:=hid k2;clear k0 k1 k2 k3 k4 k5;have T0:=zay w (rwR d ao6 cap6 ao7 cap7 ao8 cap8).toArray #[.int .i64 0,.int .i64 0,.string ⟨#[]⟩,.int .i64 0,.int .i64 0,.int .i64 0,.slice none 0 0,.slice none 0 0,.slice none 0 0] 56 56
 go_enter Tryz.func59,Tryz.ntmps59
 go_upto_region 1 with fail
 obtain ⟨W0,hW0⟩:∃ x,x=(w.alloc (.cells (rwR d ao6 cap6 ao7 cap7 ao8 cap8).toArray 56)).alloc (.cells #[.int .i64 0,.int .i64 0,.string ⟨#[]⟩,.int .i64 0,.int .i64 0,.int .i64 0,.slice none 0 0,.slice none 0 0,.slice none 0 0] 56):=⟨_,rfl⟩
 have z0:W0.heap.size=w.heap.size+1+1:=by rw [hW0];simp
 rw [← hW0] at T0 ⊢;clear hW0;have bA0:=bAl W0 (.cells #[] 2);have TA0:=T0.call bA0;obtain ⟨v',w1,hrun,o0,b0⟩:=zdt 25 (W0.alloc (.cells #[] 2)) W0.heap.size (zd3 W0 2) (zai.rd_below h6 TA0.bel hhi) (show d.rows.1≤10000000 by omega);obtain ⟨bo6,bcap6,hv⟩:=zbX o0;obtain rfl:=zaL hv;clear hv;have zw0:W0.heap.size+1≤w1.heap.size:=Nat.le_trans (by simp) b0.size;have TB0:Two w w1 (rwR d ao6 cap6 ao7 cap7 ao8 cap8).toArray #[.int .i64 0,.int .i64 0,.string ⟨#[]⟩,.int .i64 0,.int .i64 0,.int .i64 0,.slice none 0 0,.slice none 0 0,.slice none 0 0] 56 56:=⟨TA0.b1.below b0 (by omega),TA0.b2.below b0 (by omega),TA0.bel.trans (b0.mono (by omega))⟩;have xa:(W0.alloc (.cells #[] 2)).cell? ⟨w.heap.size,6,none⟩=some (.slice ao6 d.rows.1 cap6):=TA0.b1.cell 6;have xb:w1.cell? ⟨w.heap.size,6,none⟩=some (.slice ao6 d.rows.1 cap6):=TB0.b1.cell 6;have xf:w1.frozen? ⟨w.heap.size,6,none⟩=false:=TB0.b1.frozen 6;have T1:Two w (w1.setCell ⟨w.heap.size,6,none⟩ (.slice bo6 d.rows.1 bcap6)) (rwR d bo6 bcap6 ao7 cap7 ao8 cap8).toArray #[.int .i64 0,.int .i64 0,.string ⟨#[]⟩,.int .i64 0,.int .i64 0,.int .i64 0,.slice none 0 0,.slice none 0 0,.slice none 0 0] 56 56:=⟨TB0.b1.stL [.slice bo6 d.rows.1 bcap6] 6,TB0.b2.seto _ _ (by omega),TB0.bel.setCell (Nat.le_refl _) _⟩;have O6x:=o0.stN w.heap.size 6 [.slice bo6 d.rows.1 bcap6] (by omega)
 have e0:(w1.setCell ⟨w.heap.size,6,none⟩ (.slice bo6 d.rows.1 bcap6)).heap.size=w1.heap.size:=by simp
 clear TA0 TB0 o0 b0 bA0 T0
 go_upto_region 2 with (at_builtin;refine ze3 rfl (.tmp 3) (.tmp 5) rfl ?_ ?_ hrun ?_;(simp [Act.eval]);(simp [Act.eval]))
 obtain ⟨W1,hW1⟩:∃ x,x=w1.setCell ⟨w.heap.size,6,none⟩ (.slice bo6 d.rows.1 bcap6):=⟨_,rfl⟩
 have O6:Hid (OwnT zai W1 W0.heap.size w1.heap.size d.rows [.slice bo6 d.rows.1 bcap6]):=by rw [hW1];exact O6x
 rw [← hW1] at T1 e0 ⊢;clear hW1 hrun xa xb xf O6x;have bA1:=bAl W1 (.cells #[] 5);have TA1:=T1.call bA1;obtain ⟨v',w2,hrun,o1,b1⟩:=zcH 29 (W1.alloc (.cells #[] 5)) W1.heap.size (zd3 W1 5) (zad.rd_below h7 TA1.bel hhi) (show d.data.1≤10000000 by omega);obtain ⟨bo7,bcap7,hv⟩:=za9 o1;obtain rfl:=zaL hv;clear hv;have zw1:W1.heap.size+1≤w2.heap.size:=Nat.le_trans (by simp) b1.size;have TB1:Two w w2 (rwR d bo6 bcap6 ao7 cap7 ao8 cap8).toArray #[.int .i64 0,.int .i64 0,.string ⟨#[]⟩,.int .i64 0,.int .i64 0,.int .i64 0,.slice none 0 0,.slice none 0 0,.slice none 0 0] 56 56:=⟨TA1.b1.below b1 (by omega),TA1.b2.below b1 (by omega),TA1.bel.trans (b1.mono (by omega))⟩;have xa:(W1.alloc (.cells #[] 5)).cell? ⟨w.heap.size,7,none⟩=some (.slice ao7 d.data.1 cap7):=TA1.b1.cell 7;have xb:w2.cell? ⟨w.heap.size,7,none⟩=some (.slice ao7 d.data.1 cap7):=TB1.b1.cell 7;have xf:w2.frozen? ⟨w.heap.size,7,none⟩=false:=TB1.b1.frozen 7;have T2:Two w (w2.setCell ⟨w.heap.size,7,none⟩ (.slice bo7 d.data.1 bcap7)) (rwR d bo6 bcap6 bo7 bcap7 ao8 cap8).toArray #[.int .i64 0,.int .i64 0,.string ⟨#[]⟩,.int .i64 0,.int .i64 0,.int .i64 0,.slice none 0 0,.slice none 0 0,.slice none 0 0] 56 56:=⟨TB1.b1.stL [.slice bo7 d.data.1 bcap7] 7,TB1.b2.seto _ _ (by omega),TB1.bel.setCell (Nat.le_refl _) _⟩;have O6x:=((O6.out.call bA1).below b1 (by omega)).stN w.heap.size 7 [.slice bo7 d.data.1 bcap7] (by omega);have O7x:=o1.stN w.heap.size 7 [.slice bo7 d.data.1 bcap7] (by omega)
 have e1:(w2.setCell ⟨w.heap.size,7,none⟩ (.slice bo7 d.data.1 bcap7)).heap.size=w2.heap.size:=by simp
 clear TA1 TB1 o1 b1 bA1 T1 O6
 go_upto_region 3 with (at_builtin;refine ze3 rfl (.tmp 8) (.tmp 10) rfl ?_ ?_ hrun ?_;(simp [Act.eval]);(simp [Act.eval]))
 obtain ⟨W2,hW2⟩:∃ x,x=w2.setCell ⟨w.heap.size,7,none⟩ (.slice bo7 d.data.1 bcap7):=⟨_,rfl⟩
 have O6:Hid (OwnT zai W2 W0.heap.size w1.heap.size d.rows [.slice bo6 d.rows.1 bcap6]):=by rw [hW2];exact O6x
 have O7:Hid (OwnT zad W2 W1.heap.size w2.heap.size d.data [.slice bo7 d.data.1 bcap7]):=by rw [hW2];exact O7x
 rw [← hW2] at T2 e1 ⊢;clear hW2 hrun xa xb xf O6x O7x;have bA2:=bAl W2 (.cells #[] 5);have TA2:=T2.call bA2;obtain ⟨v',w3,hrun,o2,b2⟩:=zcH 29 (W2.alloc (.cells #[] 5)) W2.heap.size (zd3 W2 5) (zad.rd_below h8 TA2.bel hhi) (show d.delta.1≤10000000 by omega);obtain ⟨bo8,bcap8,hv⟩:=za9 o2;obtain rfl:=zaL hv;clear hv;have zw2:W2.heap.size+1≤w3.heap.size:=Nat.le_trans (by simp) b2.size;have TB2:Two w w3 (rwR d bo6 bcap6 bo7 bcap7 ao8 cap8).toArray #[.int .i64 0,.int .i64 0,.string ⟨#[]⟩,.int .i64 0,.int .i64 0,.int .i64 0,.slice none 0 0,.slice none 0 0,.slice none 0 0] 56 56:=⟨TA2.b1.below b2 (by omega),TA2.b2.below b2 (by omega),TA2.bel.trans (b2.mono (by omega))⟩;have xa:(W2.alloc (.cells #[] 5)).cell? ⟨w.heap.size,8,none⟩=some (.slice ao8 d.delta.1 cap8):=TA2.b1.cell 8;have xb:w3.cell? ⟨w.heap.size,8,none⟩=some (.slice ao8 d.delta.1 cap8):=TB2.b1.cell 8;have xf:w3.frozen? ⟨w.heap.size,8,none⟩=false:=TB2.b1.frozen 8;have T3:Two w (w3.setCell ⟨w.heap.size,8,none⟩ (.slice bo8 d.delta.1 bcap8)) (rwR d bo6 bcap6 bo7 bcap7 bo8 bcap8).toArray #[.int .i64 0,.int .i64 0,.string ⟨#[]⟩,.int .i64 0,.int .i64 0,.int .i64 0,.slice none 0 0,.slice none 0 0,.slice none 0 0] 56 56:=⟨TB2.b1.stL [.slice bo8 d.delta.1 bcap8] 8,TB2.b2.seto _ _ (by omega),TB2.bel.setCell (Nat.le_refl _) _⟩;have O6x:=((O6.out.call bA2).below b2 (by omega)).stN w.heap.size 8 [.slice bo8 d.delta.1 bcap8] (by omega);have O7x:=((O7.out.call bA2).below b2 (by omega)).stN w.heap.size 8 [.slice bo8 d.delta.1 bcap8] (by omega);have O8x:=o2.stN w.heap.size 8 [.slice bo8 d.delta.1 bcap8] (by omega)
 have e2:(w3.setCell ⟨w.heap.size,8,none⟩ (.slice bo8 d.delta.1 bcap8)).heap.size=w3.heap.size:=by simp
 clear TA2 TB2 o2 b2 bA2 T2 O6 O7
 go_upto_region 4 with (at_builtin;refine ze3 rfl (.tmp 13) (.tmp 15) rfl ?_ ?_ hrun ?_;(simp [Act.eval]);(simp [Act.eval]))
 obtain ⟨W3,hW3⟩:∃ x,x=w3.setCell ⟨w.heap.size,8,none⟩ (.slice bo8 d.delta.1 bcap8):=⟨_,rfl⟩
 have O6:Hid (OwnT zai W3 W0.heap.size w1.heap.size d.rows [.slice bo6 d.rows.1 bcap6]):=by rw [hW3];exact O6x
 have O7:Hid (OwnT zad W3 W1.heap.size w2.heap.size d.data [.slice bo7 d.data.1 bcap7]):=by rw [hW3];exact O7x
 have O8:Hid (OwnT zad W3 W2.heap.size w3.heap.size d.delta [.slice bo8 d.delta.1 bcap8]):=by rw [hW3];exact O8x
 rw [← hW3] at T3 e2 ⊢;clear hW3 hrun xa xb xf O6x O7x O8x;have y_0:W3.cell? ⟨w.heap.size,0,none⟩=some (.int .i64 d.kind):=T3.b1.cell 0;have y_1:W3.cell? ⟨w.heap.size,1,none⟩=some (.int .i64 d.seq):=T3.b1.cell 1;have y_2:W3.cell? ⟨w.heap.size,2,none⟩=some (.string d.name):=T3.b1.cell 2;have y_3:W3.cell? ⟨w.heap.size,3,none⟩=some (.int .i64 d.length):=T3.b1.cell 3;have y_4:W3.cell? ⟨w.heap.size,4,none⟩=some (.int .i64 d.group):=T3.b1.cell 4;have y_5:W3.cell? ⟨w.heap.size,5,none⟩=some (.int .i64 d.row):=T3.b1.cell 5;have y_6:W3.cell? ⟨w.heap.size,6,none⟩=some (.slice bo6 d.rows.1 bcap6):=T3.b1.cell 6;have y_7:W3.cell? ⟨w.heap.size,7,none⟩=some (.slice bo7 d.data.1 bcap7):=T3.b1.cell 7;have y_8:W3.cell? ⟨w.heap.size,8,none⟩=some (.slice bo8 d.delta.1 bcap8):=T3.b1.cell 8;have r_0:W3.cell? ⟨w.heap.size+1,0,none⟩=some (.int .i64 0):=T3.b2.cell 0;have rf_0:W3.frozen? ⟨w.heap.size+1,0,none⟩=false:=T3.b2.frozen 0;have r_1:W3.cell? ⟨w.heap.size+1,1,none⟩=some (.int .i64 0):=T3.b2.cell 1;have rf_1:W3.frozen? ⟨w.heap.size+1,1,none⟩=false:=T3.b2.frozen 1;have r_2:W3.cell? ⟨w.heap.size+1,2,none⟩=some (.string ⟨#[]⟩):=T3.b2.cell 2;have rf_2:W3.frozen? ⟨w.heap.size+1,2,none⟩=false:=T3.b2.frozen 2;have r_3:W3.cell? ⟨w.heap.size+1,3,none⟩=some (.int .i64 0):=T3.b2.cell 3;have rf_3:W3.frozen? ⟨w.heap.size+1,3,none⟩=false:=T3.b2.frozen 3;have r_4:W3.cell? ⟨w.heap.size+1,4,none⟩=some (.int .i64 0):=T3.b2.cell 4;have rf_4:W3.frozen? ⟨w.heap.size+1,4,none⟩=false:=T3.b2.frozen 4;have r_5:W3.cell? ⟨w.heap.size+1,5,none⟩=some (.int .i64 0):=T3.b2.cell 5;have rf_5:W3.frozen? ⟨w.heap.size+1,5,none⟩=false:=T3.b2.frozen 5;have r_6:W3.cell? ⟨w.heap.size+1,6,none⟩=some (.slice none 0 0):=T3.b2.cell 6;have rf_6:W3.frozen? ⟨w.heap.size+1,6,none⟩=false:=T3.b2.frozen 6;have r_7:W3.cell? ⟨w.heap.size+1,7,none⟩=some (.slice none 0 0):=T3.b2.cell 7;have rf_7:W3.frozen? ⟨w.heap.size+1,7,none⟩=false:=T3.b2.frozen 7;have r_8:W3.cell? ⟨w.heap.size+1,8,none⟩=some (.slice none 0 0):=T3.b2.cell 8;have rf_8:W3.frozen? ⟨w.heap.size+1,8,none⟩=false:=T3.b2.frozen 8;have HB:=hid T3.bel;clear T3;go_wp2;refine bodyPost_ret (v:=.agg (rwR d bo6 bcap6 bo7 bcap7 bo8 bcap8).toArray) (by simp [results,Tryz.results59,go_sem,r_0,y_0,r_1,y_1,r_2,y_2,r_3,y_3,r_4,y_4,r_5,y_5,r_6,y_6,r_7,y_7,r_8,y_8]) rfl ?_;have F:OwnT zac W3 (w.heap.size+1+1) W3.heap.size d ([.int .i64 d.kind]++([.int .i64 d.seq]++([.string d.name]++([.int .i64 d.length]++([.int .i64 d.group]++([.int .i64 d.row]++([.slice bo6 d.rows.1 bcap6]++([.slice bo7 d.data.1 bcap7]++[.slice bo8 d.delta.1 bcap8])))))))):=OwnT.conv (OwnT.pre (A:=layI) (a:=d.kind) (c:=[.int .i64 d.kind]) ⟨rfl,Q0.out,rfl⟩ (OwnT.pre (A:=layI) (a:=d.seq) (c:=[.int .i64 d.seq]) ⟨rfl,Q1.out,rfl⟩ (OwnT.pre (A:=layS) (a:=d.name) (c:=[.string d.name]) ⟨rfl,Q2.out,rfl⟩ (OwnT.pre (A:=layI) (a:=d.length) (c:=[.int .i64 d.length]) ⟨rfl,Q3.out,rfl⟩ (OwnT.pre (A:=layI) (a:=d.group) (c:=[.int .i64 d.group]) ⟨rfl,Q4.out,rfl⟩ (OwnT.pre (A:=layI) (a:=d.row) (c:=[.int .i64 d.row]) ⟨rfl,Q5.out,rfl⟩ (OwnT.two (O6.out.weaken (by omega) (Nat.le_refl _)) (OwnT.two O7.out (O8.out.weaken (Nat.le_refl _) (by omega)) (by omega) (by omega) (by omega)) (by omega) (by omega) (by omega))))))))
 refine ⟨(rwR d bo6 bcap6 bo7 bcap7 bo8 bcap8),rfl,?_,?_⟩
 ·exact OwnT.finb F (b:=w.heap.size+1) (by omega) (by omega) 0 (rwR d bo6 bcap6 bo7 bcap7 bo8 bcap8) _ rfl
 ·exact HB.out.trans (zaK (by omega) (rwR d bo6 bcap6 bo7 bcap7 bo8 bcap8) 0)
set_option maxRecDepth 20000 in
theorem zfb:ToS (zac.slice 56) (szSl zaH) 69:=fun v d hi w h hhi hn=>by
 obtain ⟨n,x⟩:=d;obtain ⟨ao,cap,hv,hm,hc⟩:=h
 cases hv
 have hn1:=zb1 hn;have hn2:∀ i,i<n→zaH (x i)≤1048576:=fun i hi=>zbf hn hi
 simp only at hn1 hm hc
 have HC:=hid hc;clear hn hc
 go_enter Tryz.func69,Tryz.ntmps69
 go_wp2
 go_loopw [3,4] (fun v i wr=>∃ (k:Nat) (ao':Option Addr) (cap':Nat),k≤n∧i=.int .i64 k∧v=.slice ao' k cap'∧Gat zac 56 wr w.heap.size (.slice ao' k cap') k x∧Below w.heap.size w wr) (fun _ i _=>n-(intOf i).toNat)
 case atStart=>exact ⟨0,_,_,Nat.zero_le _,rfl,rfl,zg2 _ _,(Below.refl _ _).alloc (Nat.le_refl _) _⟩
 case round=>
  obtain ⟨k,ao',cap',hk,rfl,rfl,G,hb⟩:=hrel;obtain ⟨wo,rfl⟩:∃ y,y=wr:=⟨_,rfl⟩;have HG:=hid G;have HB:=hid hb;have zo:w.heap.size≤wo.heap.size:=hb.size;clear G
  by_cases hlt:k<n
  ·obtain ⟨b,off,he,hblt,hel⟩:=HC.out (by omega)
   subst he;obtain ⟨ck,hrk,hcell⟩:=zas (t:=0) hel hb hhi hblt hlt;obtain ⟨ao6,cap6,ao7,cap7,ao8,cap8,rfl,-⟩:=zbd hrk;have c0:wo.cell? ⟨b,off+k*9,none⟩=some (.int .i64 (x k).kind):=hcell 0 (by decide);have c1:wo.cell? ⟨b,off+k*9+1,none⟩=some (.int .i64 (x k).seq):=hcell 1 (by decide);have c2:wo.cell? ⟨b,off+k*9+2,none⟩=some (.string (x k).name):=hcell 2 (by decide);have c3:wo.cell? ⟨b,off+k*9+3,none⟩=some (.int .i64 (x k).length):=hcell 3 (by decide);have c4:wo.cell? ⟨b,off+k*9+4,none⟩=some (.int .i64 (x k).group):=hcell 4 (by decide);have c5:wo.cell? ⟨b,off+k*9+5,none⟩=some (.int .i64 (x k).row):=hcell 5 (by decide);have c6:wo.cell? ⟨b,off+k*9+6,none⟩=some (.slice ao6 (x k).rows.1 cap6):=hcell 6 (by decide);have c7:wo.cell? ⟨b,off+k*9+7,none⟩=some (.slice ao7 (x k).data.1 cap7):=hcell 7 (by decide);have c8:wo.cell? ⟨b,off+k*9+8,none⟩=some (.slice ao8 (x k).delta.1 cap8):=hcell 8 (by decide);have C:=zdv _ (x k) hi wo hrk (Nat.le_trans hhi zo) (hn2 k hlt);clear hel hcell hrk hb
   go_wp2_with fail
   refine C.mono ?_;rintro e w2 ⟨cs',rfl,o2,b2⟩;obtain ⟨bo6,bc6,bo7,bc7,bo8,bc8,rfl⟩:=zdM o2;clear C c0 c1 c2 c3 c4 c5 c6 c7 c8
   go_wp2_with (at_builtin;refine zdi zg7 rfl (.tmp 12) (.tmp 18) rfl (lo:=w.heap.size) (n:=k) (v:=.slice ao' k cap') (x:=x) ?_ HG.out b2 o2 ?_ w2.heap.size 1 ?_ (fun j _=>zb4 w2 _ _ j) (by omega) (by omega) ?_;(simp [Act.eval]);(exact (Below.refl _ _).alloc (Nat.le_refl _) _);(simp [Act.eval]);intro v4 w4 g4 b4;obtain ⟨ao4,cap4,rfl⟩:=g4.form)
   go_roundw
   case rel=>exact ⟨k+1,ao4,cap4,by omega,by go_num,rfl,g4.congr (fun i _=>by rw [zb5]),HB.out.trans b4⟩
   case measure=>simp [intOf];omega
  ·obtain rfl:k=n:=by omega
   clear hb;go_wp2;go_ret;exact ⟨_,rfl,HG.out.own,HB.out⟩
theorem drive_of' {w:World} {lo hi:Nat} {d:DriveD} {ao:Option Addr} {cap:Nat} (h:OwnT (zah.slice 43) w lo hi d.blocks [.slice ao d.blocks.1 cap]):OwnT zab w lo hi d [.bool d.wiped,.slice ao d.blocks.1 cap]:=
 OwnT.conv (OwnT.pre (A:=layB) (a:=d.wiped) (c:=[.bool d.wiped]) ⟨rfl,trivial,rfl⟩ h)
theorem tape_of' {w:World} {lo hi:Nat} {d:TapeD} {ao:Option Addr} {cap:Nat} (h:OwnT (zac.slice 56) w lo hi d.recs [.slice ao d.recs.1 cap]):OwnT zag w lo hi d [.bool d.wiped,.slice ao d.recs.1 cap]:=
 OwnT.conv (OwnT.pre (A:=layB) (a:=d.wiped) (c:=[.bool d.wiped]) ⟨rfl,trivial,rfl⟩ h)
theorem Three.chgl3 {w wc w':World} {c1 c2 c3:Array Value} {t1 t2 t3:TypeId} (h:Three w wc c1 c2 c3 t1 t2 t3) (c3':Array Value) (hb:Box w' (w.heap.size+1+1) c3' t3) (hc:ChgL [w.heap.size+1+1] wc w'):Three w w' c1 c2 c3' t1 t2 t3:=
 ⟨h.b1.chgl hc (by simp only [List.mem_singleton];omega),h.b2.chgl hc (by simp only [List.mem_singleton];omega),hb,h.bel.trans (hc.bel (fun b hb=>by simp only [List.mem_singleton] at hb;omega) h.bel.size)⟩
theorem OwnT.chgl {α:Type} {A:Lay α} {w w':World} {lo hi:Nat} {a:α} {cs:List Value} {K:List Nat} (h:OwnT A w lo hi a cs) (hc:ChgL K w w') (hK:∀ b,b∈K→b<lo):OwnT A w' lo hi a cs:=by
 obtain ⟨M,h1,h2,h3⟩:=h;exact ⟨M,A.own_kept h1 (fun b hb=>hc.block b (A.own_lt h1 b hb) (fun hh=>by have:=hK b hh;have:=(h3 b hb).1;omega)),h2,h3⟩
set_option maxRecDepth 20000 in
theorem zip:ToV zae zaS 32:=fun cs d hi w r hhi hn=>by
 obtain ⟨ao1,cap1,ao2,cap2,ao3,cap3,rfl,g1,g2,g3,k0,k4,k5⟩:=zaR r;clear r;unfold zaS lenD at hn
 have hnG:szSl (szSl zap) d.groups≤1048576:=by omega
 have hnO:d.on.1≤1048576:=by omega
 have hnT:szSl zaN d.tapes≤1048576:=by omega
 clear hn;have Q0:=hid k0;have Q4:=hid k4;have Q5:=hid k5;have HG2:=hid g2;obtain ⟨_,_,e1,hm1,hc1⟩:=g1
 cases e1
 obtain ⟨_,_,e3,hm3,hc3⟩:=g3
 cases e3
 have HC1:=hid hc1;have HC3:=hid hc3;have hgn:=zb1 hnG;have htn:=zb1 hnT;have HNG:Hid (∀ i,i<d.groups.1→szSl zap (d.groups.2 i)≤1048576):=fun i hi=>zbf hnG hi;have HNT:Hid (∀ i,i<d.tapes.1→zaN (d.tapes.2 i)≤1048576):=fun i hi=>zbf hnT hi;clear k0 k4 k5 g2 hc1 hc3 hnG hnT hm1 hm3;have T0:=zbJ w (rwW d ao1 cap1 ao2 cap2 ao3 cap3).toArray (rwV 0 0 0 0 0 0 0 0 0 none 0 0 none 0 0 none 0 0 0 0 false).toArray #[.int .i64 (d.shape 0),.int .i64 (d.shape 1),.int .i64 (d.shape 2),.int .i64 (d.shape 3),.int .i64 (d.shape 4),.int .i64 (d.shape 5),.int .i64 (d.shape 6),.int .i64 (d.shape 7),.int .i64 (d.shape 8),.slice none 0 0,.slice ao2 d.on.1 cap2,.slice ao3 d.tapes.1 cap3,.int .i64 d.writes,.int .i64 d.stop,.bool d.down] 38 38 38
 go_enter Tryz.func32,Tryz.ntmps32
 go_wp2
 go_loopw [4] (fun i wr=>∃ (g:Nat) (ga:Option Addr) (gc:Nat),g≤d.groups.1∧i=.int .i64 g∧Three w wr (rwW d ao1 cap1 ao2 cap2 ao3 cap3).toArray (rwV 0 0 0 0 0 0 0 0 0 none 0 0 none 0 0 none 0 0 0 0 false).toArray #[.int .i64 (d.shape 0),.int .i64 (d.shape 1),.int .i64 (d.shape 2),.int .i64 (d.shape 3),.int .i64 (d.shape 4),.int .i64 (d.shape 5),.int .i64 (d.shape 6),.int .i64 (d.shape 7),.int .i64 (d.shape 8),.slice ga g gc,.slice ao2 d.on.1 cap2,.slice ao3 d.tapes.1 cap3,.int .i64 d.writes,.int .i64 d.stop,.bool d.down] 38 38 38∧Gat (zab.slice 75) 76 wr (w.heap.size+1+1+1) (.slice ga g gc) g d.groups.2) (fun i _=>d.groups.1-(intOf i).toNat)
 case atStart=>exact ⟨0,none,0,Nat.zero_le _,rfl,T0,Gat.nil _ _ _⟩
 case round=>
  clear T0;obtain ⟨g,ga,gc,hg,rfl,T1,G1⟩:=hrel;obtain ⟨wo,rfl⟩:∃ x,x=wr:=⟨_,rfl⟩;have HT1:=hid T1;have HG1:=hid G1;have zo:w.heap.size+1+1+1≤wo.heap.size:=T1.lt;have x9:wo.cell? ⟨w.heap.size,9,none⟩=some (.slice ao1 d.groups.1 cap1):=T1.b1.cell 9
  by_cases hlg:g<d.groups.1
  ·obtain ⟨b1,off1,he1,hb1,hel1⟩:=HC1.out (by omega)
   subst he1;obtain ⟨cg,hrg,hcg⟩:=zas (t:=0) hel1 T1.bel hhi hb1 hlg;obtain ⟨ao9,cap9,rfl⟩:=zbq hrg
   have c0:wo.cell? ⟨b1,off1+g,none⟩=some (.slice ao9 (d.groups.2 g).1 cap9):=by
    have:=hcg 0 (by decide)
    have e:off1+(g*(zab.slice 75).sz+0)=off1+g:=by show off1+(g*1+0)=off1+g;omega
    rw [e] at this;exact this
   have HC0:=hid c0;have hnD:=HNG.out g hlg;have hdn:=zb1 hnD;have HND:Hid (∀ i,i<(d.groups.2 g).1→zap ((d.groups.2 g).2 i)≤1048576):=fun i hi=>zbf hnD hi;obtain ⟨_,_,e9,hm9,hc9⟩:=hrg
   cases e9
   have HC9:=hid hc9;clear hel1 hcg T1 G1 hc9 hnD hm9;go_wp2
   go_loopw [5,6] (fun v i wx=>∃ (k:Nat) (da:Option Addr) (dc:Nat),k≤(d.groups.2 g).1∧i=.int .i64 k∧v=.slice da k dc∧Gat zab 75 wx wo.heap.size (.slice da k dc) k (d.groups.2 g).2∧Below wo.heap.size wo wx) (fun _ i _=>(d.groups.2 g).1-(intOf i).toNat)
   case atStart=>exact ⟨0,_,_,Nat.zero_le _,rfl,rfl,zg2 _ _,(Below.refl _ _).alloc (Nat.le_refl _) _⟩
   case round=>
    clear x9 c0;obtain ⟨k,da,dc,hk,rfl,rfl,G2,B2⟩:=hrel;obtain ⟨wx,rfl⟩:∃ x,x=wr:=⟨_,rfl⟩;have HG2':=hid G2;have HB2:=hid B2;have zx:wo.heap.size≤wx.heap.size:=B2.size;have x9:wx.cell? ⟨w.heap.size,9,none⟩=some (.slice (some ⟨b1,off1,none⟩) d.groups.1 cap1):=(HT1.out.call B2).b1.cell 9;have c0:wx.cell? ⟨b1,off1+g,none⟩=some (.slice ao9 (d.groups.2 g).1 cap9):=(B2.cell (p:=⟨b1,off1+g,none⟩) (by show b1<wo.heap.size;omega)).trans HC0.out
    by_cases hlk:k<(d.groups.2 g).1
    ·obtain ⟨b9,off9,he9,hb9,hel9⟩:=HC9.out (by omega)
     subst he9;obtain ⟨cd,hrd,hcd⟩:=zas (t:=0) hel9 B2 (by omega) hb9 hlk;obtain ⟨ao5,cap5,rfl,g5⟩:=zbh hrd;obtain ⟨D,hD⟩:∃ x,x=(d.groups.2 g).2 k:=⟨_,rfl⟩;rw [← hD] at hcd g5;have HD:=hid hD
     have hnB:szSl zaB D.blocks≤1048576:=by rw [hD];exact HND.out k hlk
     have hbn:=zb1 hnB;have HNB:Hid (∀ i,i<D.blocks.1→zaB (D.blocks.2 i)≤1048576):=fun i hi=>zbf hnB hi;have c2:wx.cell? ⟨b9,off9+k*2,none⟩=some (.bool D.wiped):=hcd 0 (by decide);have c3:wx.cell? ⟨b9,off9+k*2+1,none⟩=some (.slice ao5 D.blocks.1 cap5):=hcd 1 (by decide);have HC3':=hid c3;have HC0':=hid c0;obtain ⟨_,_,e5,hm5,hc5⟩:=g5
     cases e5
     have HC5:=hid hc5;clear hel9 hcd hrd G2 B2 hD hnB hc5 hm5;go_wp2;have bA:=bAl wx (.cells #[.bool D.wiped,.slice none 0 0] 75);have XA:=zaz wx #[.bool D.wiped,.slice none 0 0] 75
     go_loopw [8] (fun i wz=>∃ (q:Nat) (ba:Option Addr) (bc:Nat),q≤D.blocks.1∧i=.int .i64 q∧Box wz wx.heap.size #[.bool D.wiped,.slice ba q bc] 75∧Gat zah 43 wz (wx.heap.size+1) (.slice ba q bc) q D.blocks.2∧Below wx.heap.size wx wz) (fun i _=>D.blocks.1-(intOf i).toNat)
     case atStart=>exact ⟨0,none,0,Nat.zero_le _,rfl,XA,Gat.nil _ _ _,bA⟩
     case round=>
      clear x9 c0 c2 c3 bA XA;obtain ⟨q,ba,bc,hq,rfl,X3,G3,B3⟩:=hrel;obtain ⟨wz,rfl⟩:∃ x,x=wr:=⟨_,rfl⟩;have HX3:=hid X3;have HG3:=hid G3;have HB3:=hid B3;have zz:wx.heap.size<wz.heap.size:=X3.lt;have x9:wz.cell? ⟨w.heap.size,9,none⟩=some (.slice (some ⟨b1,off1,none⟩) d.groups.1 cap1):=((HT1.out.call HB2.out).call B3).b1.cell 9;have c0:wz.cell? ⟨b1,off1+g,none⟩=some (.slice (some ⟨b9,off9,none⟩) (d.groups.2 g).1 cap9):=(B3.cell (p:=⟨b1,off1+g,none⟩) (by show b1<wx.heap.size;omega)).trans HC0'.out;have c3:wz.cell? ⟨b9,off9+k*2+1,none⟩=some (.slice ao5 D.blocks.1 cap5):=(B3.cell (p:=⟨b9,off9+k*2+1,none⟩) (by show b9<wx.heap.size;omega)).trans HC3'.out;have y0:wz.cell? ⟨wx.heap.size,0,none⟩=some (.bool D.wiped):=X3.cell 0;have y1:wz.cell? ⟨wx.heap.size,1,none⟩=some (.slice ba q bc):=X3.cell 1
      by_cases hlq:q<D.blocks.1
      ·obtain ⟨b5,off5,he5,hb5,hel5⟩:=HC5.out (by omega)
       subst he5;obtain ⟨cb,hrb,hcb⟩:=zas (t:=0) hel5 B3 (by omega) hb5 hlq;obtain ⟨ao0,cap0,rfl,-⟩:=zba hrb;have s0:wz.cell? ⟨b5,off5+q*2,none⟩=some (.int .i64 (D.blocks.2 q).stamp):=hcb 0 (by decide);have s1:wz.cell? ⟨b5,off5+q*2+1,none⟩=some (.slice ao0 (D.blocks.2 q).bytes.1 cap0):=hcb 1 (by decide);have CC:=zem _ (D.blocks.2 q) hi wz.drew (zah.rd_below (B:=hi) hrb ⟨rfl,rfl,rfl,Nat.le_refl _,fun _ _=>rfl⟩ (Nat.le_refl _)) (show hi≤wz.heap.size by omega) (HNB.out q hlq)
       have CC:=CC.mono (R':=fun e w'=>∃ bo bcc,e=.returned (.agg #[.int .i64 (D.blocks.2 q).stamp,.slice bo (D.blocks.2 q).bytes.1 bcc])∧OwnT zah w' wz.drew.heap.size w'.heap.size (D.blocks.2 q) [.int .i64 (D.blocks.2 q).stamp,.slice bo (D.blocks.2 q).bytes.1 bcc]∧Below wz.drew.heap.size wz.drew w') (fun e w' ⟨c5,he,o5,b5'⟩=>by
        obtain ⟨bo,bcc,rfl⟩:=zcW o5
        exact ⟨bo,bcc,he,o5,b5'⟩)
       clear hel5 hcb hrb X3 G3 B3;have KS:∀ w',Below (wx.heap.size+1) wz w'→(w'.cell? ⟨w.heap.size,9,none⟩=some (.slice (some ⟨b1,off1,none⟩) d.groups.1 cap1)∧w'.cell? ⟨b1,off1+g,none⟩=some (.slice (some ⟨b9,off9,none⟩) (d.groups.2 g).1 cap9)∧w'.cell? ⟨b9,off9+k*2+1,none⟩=some (.slice (some ⟨b5,off5,none⟩) D.blocks.1 cap5)∧w'.cell? ⟨b5,off5+q*2,none⟩=some (.int .i64 (D.blocks.2 q).stamp)∧w'.cell? ⟨b5,off5+q*2+1,none⟩=some (.slice ao0 (D.blocks.2 q).bytes.1 cap0)∧w'.cell? ⟨wx.heap.size,1,none⟩=some (.slice ba q bc)):=fun w' hb=>⟨(hb.cell (p:=⟨w.heap.size,9,none⟩) (by show w.heap.size<wx.heap.size+1;omega)).trans x9,(hb.cell (p:=⟨b1,off1+g,none⟩) (by show b1<wx.heap.size+1;omega)).trans c0,(hb.cell (p:=⟨b9,off9+k*2+1,none⟩) (by show b9<wx.heap.size+1;omega)).trans c3,(hb.cell (p:=⟨b5,off5+q*2,none⟩) (by show b5<wx.heap.size+1;omega)).trans s0,(hb.cell (p:=⟨b5,off5+q*2+1,none⟩) (by show b5<wx.heap.size+1;omega)).trans s1,(hb.cell (p:=⟨wx.heap.size,1,none⟩) (Nat.lt_succ_self _)).trans y1⟩
       have i1:(0:Int)≤(g:Int):=by omega
       have i2:(g:Int)<(d.groups.1:Int):=by omega
       have i3:(0:Int)≤(k:Int):=by omega
       have i4:(k:Int)<((d.groups.2 g).1:Int):=by omega
       have i5:(0:Int)≤(q:Int):=by omega
       have i6:(q:Int)<(D.blocks.1:Int):=by omega
       go_upto_region 14 with fail
       refine zbb 18 (fun w'=>w'.cell? ⟨w.heap.size,9,none⟩=some (.slice (some ⟨b1,off1,none⟩) d.groups.1 cap1)∧w'.cell? ⟨b1,off1+g,none⟩=some (.slice (some ⟨b9,off9,none⟩) (d.groups.2 g).1 cap9)∧w'.cell? ⟨b9,off9+k*2+1,none⟩=some (.slice (some ⟨b5,off5,none⟩) D.blocks.1 cap5)∧w'.cell? ⟨b5,off5+q*2,none⟩=some (.int .i64 (D.blocks.2 q).stamp)∧w'.cell? ⟨b5,off5+q*2+1,none⟩=some (.slice ao0 (D.blocks.2 q).bytes.1 cap0)∧w'.cell? ⟨wx.heap.size,1,none⟩=some (.slice ba q bc)) (by kernel_rfl) (KS _ ⟨rfl,rfl,rfl,Nat.le_refl _,fun _ _=>rfl⟩) (fun hHeld=>?_);refine zjd 0 rfl ?_
       try simp only [Act.put,SL]
       refine zjd 1 rfl ?_
       try simp only [Act.put,SL]
       refine zjd 2 rfl ?_
       try simp only [Act.put,SL]
       refine zjd 3 rfl ?_
       try simp only [Act.put,SL]
       refine zjd 4 rfl ?_
       try simp only [Act.put,SL]
       refine zjd 5 rfl ?_
       try simp only [Act.put,SL]
       refine zjd 6 rfl ?_
       try simp only [Act.put,SL]
       refine zjd 7 rfl ?_
       try simp only [Act.put,SL]
       refine zjd 8 rfl ?_
       try simp only [Act.put,SL]
       refine zjd 9 rfl ?_
       try simp only [Act.put,SL]
       refine zjd 10 rfl ?_
       try simp only [Act.put,SL]
       refine zjd 11 rfl ?_
       try simp only [Act.put,SL]
       refine zjd 12 rfl ?_
       try simp only [Act.put,SL]
       refine zjd 13 rfl ?_
       try simp only [Act.put,SL]
       refine zam (i:=14) (o:=_) rfl (by kernel_rfl) (fun K hK=>?_)
       refine zaw rfl 34 _ _ rfl #[.agg #[.int .i64 (D.blocks.2 q).stamp,.slice ao0 (D.blocks.2 q).bytes.1 cap0]] ?_ Tryz.func34 (by kernel_rfl) (by kernel_rfl) CC ?_;(simp [Act.eval,Act.put]);rintro ee w5 ⟨bo,bcc,rfl,o5,b5'⟩;have b5w:Below wz.heap.size wz w5:=⟨b5'.os,b5'.tape,b5'.output,b5'.size,b5'.block⟩;have q1:w5.cell? ⟨wx.heap.size,1,none⟩=some (.slice ba q bc):=(HX3.out.call b5w).cell 1;have q3:=(zb9 w5 (.cells #[.int .i64 (D.blocks.2 q).stamp,.slice bo (D.blocks.2 q).bytes.1 bcc] 43) wx.heap.size 1 (by have:=b5w.size;omega)).trans q1;refine ⟨_,rfl,?_⟩
       refine hK.out _ _ (KS _ (b5w.mono (Nat.succ_le_of_lt zz))) (fun hHeld=>?_);clear hK K
       try simp only [Act.put,SL]
       refine zam (i:=15) (o:=_) rfl (by kernel_rfl) (fun K hK=>?_);go_simp;refine hK.out _ _ (KS _ ((b5w.mono (Nat.succ_le_of_lt zz)).alloc (by have:=b5w.size;omega) _)) (fun hHeld=>?_);clear hK K
       try simp only [Act.put,SL]
       refine zam (i:=16) (o:=_) rfl (by kernel_rfl) (fun K hK=>?_)
       refine zdo zeQ rfl (.tmp 55) (.tmp 69) rfl (lo:=wx.heap.size+1) (n:=q) (v:=.slice ba q bc) (x:=D.blocks.2) ?_ HG3.out b5w o5 ?_ w5.heap.size 1 ?_ (fun j _=>zb4 w5 _ _ j) (by omega) (by omega) ?_;(simp [Act.eval,Act.put]);(exact (Below.refl _ _).alloc (Nat.le_refl _) _);(simp [Act.eval,Act.put]);intro v4 w4 g4 b4;obtain ⟨ba4,bc4,rfl⟩:=g4.form;have X4:=HX3.out.below b4 (Nat.lt_succ_self _);have p1:w4.cell? ⟨wx.heap.size,1,none⟩=some (.slice ba q bc):=X4.cell 1;have p2:w4.frozen? ⟨wx.heap.size,1,none⟩=false:=X4.frozen 1
       refine hK.out _ _ (KS _ b4) (fun hHeld=>?_);clear hK K
       try simp only [Act.put,SL]
       refine zam (i:=17) (o:=_) rfl (by kernel_rfl) (fun K hK=>?_);go_simp;refine hK.out _ _ (KS _ b4) (fun hHeld=>?_);clear hK K
       try simp only [Act.put,SL]
       refine zbk (o:=_) rfl (by kernel_rfl) (fun K hK=>?_);go_simp;refine hK.out _ _ ?_;clear hK K
       try simp only [Act.put,SL]
       refine zbl (by kernel_rfl) ?_ _;go_wp2
       go_roundw
       case rel=>exact ⟨q+1,ba4,bc4,by omega,by go_num,X4.setc 1 (.slice ba4 (q+1) bc4),(g4.set _ _ _ (Nat.lt_succ_self _)).congr (fun i _=>by rw [zb5]),(HB3.out.trans (b4.mono (Nat.le_succ _))).setCell (Nat.le_refl _) _⟩
       case measure=>simp [intOf];omega
      ·obtain rfl:q=D.blocks.1:=by omega
       have OD:OwnT zab wz wx.heap.size wz.heap.size D [.bool D.wiped,.slice ba D.blocks.1 bc]:=drive_of' (HG3.out.own.weaken (Nat.le_succ _) (Nat.le_refl _));clear X3 G3 B3
       go_wp2_with (at_builtin;refine zdi zeR rfl (.tmp 72) (.tmp 74) rfl (lo:=wo.heap.size) (n:=k) (v:=.slice da k dc) (x:=(d.groups.2 g).2) ?_ HG2'.out HB3.out OD ?_ wz.heap.size 1 ?_ (fun j _=>zb4 wz _ _ j) (by omega) (by omega) ?_;(simp [Act.eval]);(exact (Below.refl _ _).alloc (Nat.le_refl _) _);(simp [Act.eval]);intro v4 w4 g4 b4;obtain ⟨da4,dc4,rfl⟩:=g4.form)
       go_roundw
       case rel=>exact ⟨k+1,da4,dc4,by omega,by go_num,rfl,g4.congr (fun i _=>by rw [HD.out,zb5]),HB2.out.trans b4⟩
       case measure=>simp [intOf];omega
    ·obtain rfl:k=(d.groups.2 g).1:=by omega
     have OG:OwnT (zab.slice 75) wx wo.heap.size wx.heap.size (d.groups.2 g) [.slice da (d.groups.2 g).1 dc]:=HG2'.out.own;have T2:=HT1.out.call B2;have e9:wx.cell? ⟨w.heap.size+1+1,9,none⟩=some (.slice ga g gc):=T2.b3.cell 9;have e9':=(zb9 wx (.cells #[.slice da (d.groups.2 g).1 dc] 76) (w.heap.size+1+1) 9 (by omega)).trans e9;clear T2 G2 B2
     go_wp2_with (at_builtin;refine zdi zdS rfl (.tmp 77) (.tmp 79) rfl (lo:=w.heap.size+1+1+1) (n:=g) (v:=.slice ga g gc) (x:=d.groups.2) ?_ HG1.out HB2.out OG ?_ wx.heap.size 1 ?_ (fun j _=>zb4 wx _ _ j) (by omega) (by omega) ?_;(simp [Act.eval]);(exact (Below.refl _ _).alloc (Nat.le_refl _) _);(simp [Act.eval]);intro v4 w4 g4 b4;obtain ⟨ga4,gc4,rfl⟩:=g4.form;have T4:=HT1.out.low b4;have p1:w4.cell? ⟨w.heap.size+1+1,9,none⟩=some (.slice ga g gc):=T4.b3.cell 9;have p2:w4.frozen? ⟨w.heap.size+1+1,9,none⟩=false:=T4.b3.frozen 9)
     go_roundw
     case rel=>exact ⟨g+1,ga4,gc4,by omega,by go_num,T4.st3 9 [.slice ga4 (g+1) gc4] rfl,(g4.set _ _ _ (by omega)).congr (fun i _=>by rw [zb5])⟩
     case measure=>simp [intOf];omega
  ·obtain rfl:g=d.groups.1:=by omega
   have bA:=bAl wo (.cells #[] 2);have TA:=T1.call bA;obtain ⟨v',w2,hrun,o2,b2⟩:=zdt 25 (wo.alloc (.cells #[] 2)) wo.heap.size (zd3 wo 2) (zai.rd_below HG2.out TA.bel hhi) (show d.on.1≤10000000 by omega);obtain ⟨oa,oc,hv⟩:=zbX o2;obtain rfl:=zaL hv;clear hv;have T2:Three w w2 (rwW d ao1 cap1 ao2 cap2 ao3 cap3).toArray (rwV 0 0 0 0 0 0 0 0 0 none 0 0 none 0 0 none 0 0 0 0 false).toArray (rwW d ga gc ao2 cap2 ao3 cap3).toArray 38 38 38:=TA.low (b2.mono zo)
   have G2:Gat (zab.slice 75) 76 w2 (w.heap.size+1+1+1) (.slice ga d.groups.1 gc) d.groups.1 d.groups.2:=by
    have h1:Below wo.heap.size wo w2:=bA.trans b2;exact G1.below h1
   have xa:(wo.alloc (.cells #[] 2)).cell? ⟨w.heap.size,10,none⟩=some (.slice ao2 d.on.1 cap2):=TA.b1.cell 10;have xb:w2.cell? ⟨w.heap.size+1+1,10,none⟩=some (.slice ao2 d.on.1 cap2):=T2.b3.cell 10;have xf:w2.frozen? ⟨w.heap.size+1+1,10,none⟩=false:=T2.b3.frozen 10;have T3:=T2.st3 10 [.slice oa d.on.1 oc] (c3':=(rwW d ga gc oa oc ao3 cap3)) rfl;have T4:Three w (stN (stN w2 (w.heap.size+1+1) 10 [.slice oa d.on.1 oc]) (w.heap.size+1+1) 11 [.slice none 0 0]) (rwW d ao1 cap1 ao2 cap2 ao3 cap3).toArray (rwV 0 0 0 0 0 0 0 0 0 none 0 0 none 0 0 none 0 0 0 0 false).toArray #[.int .i64 (d.shape 0),.int .i64 (d.shape 1),.int .i64 (d.shape 2),.int .i64 (d.shape 3),.int .i64 (d.shape 4),.int .i64 (d.shape 5),.int .i64 (d.shape 6),.int .i64 (d.shape 7),.int .i64 (d.shape 8),.slice ga d.groups.1 gc,.slice oa d.on.1 oc,.slice none 0 0,.int .i64 d.writes,.int .i64 d.stop,.bool d.down] 38 38 38:=T3.st3 11 [.slice none 0 0] (c3':=[.int .i64 (d.shape 0),.int .i64 (d.shape 1),.int .i64 (d.shape 2),.int .i64 (d.shape 3),.int .i64 (d.shape 4),.int .i64 (d.shape 5),.int .i64 (d.shape 6),.int .i64 (d.shape 7),.int .i64 (d.shape 8),.slice ga d.groups.1 gc,.slice oa d.on.1 oc,.slice none 0 0,.int .i64 d.writes,.int .i64 d.stop,.bool d.down]) rfl;have O4:=(o2.stN (w.heap.size+1+1) 10 [.slice oa d.on.1 oc] (by omega)).stN (w.heap.size+1+1) 11 [.slice none 0 0] (by omega);have G4:Gat (zab.slice 75) 76 (stN (stN w2 (w.heap.size+1+1) 10 [.slice oa d.on.1 oc]) (w.heap.size+1+1) 11 [.slice none 0 0]) (w.heap.size+1+1+1) (.slice ga d.groups.1 gc) d.groups.1 d.groups.2:=(G2.set _ 10 _ (by omega)).set _ 11 _ (by omega);have xc:(w2.setCell ⟨w.heap.size+1+1,10,none⟩ (.slice oa d.on.1 oc)).cell? ⟨w.heap.size+1+1,11,none⟩=some (.slice ao3 d.tapes.1 cap3):=T3.b3.cell 11;have xg:(w2.setCell ⟨w.heap.size+1+1,10,none⟩ (.slice oa d.on.1 oc)).frozen? ⟨w.heap.size+1+1,11,none⟩=false:=T3.b3.frozen 11;have z2:wo.heap.size≤w2.heap.size:=Nat.le_trans bA.size b2.size
   have ez:(stN (stN w2 (w.heap.size+1+1) 10 [.slice oa d.on.1 oc]) (w.heap.size+1+1) 11 [.slice none 0 0]).heap.size=w2.heap.size:=by rw [zbp,zbp]
   have GO:OwnT ((zab.slice 75).slice 76) wo (w.heap.size+1+1+1) wo.heap.size d.groups [.slice ga d.groups.1 gc]:=G1.own;have GO4:=((GO.call (bA.trans b2)).stN (w.heap.size+1+1) 10 [.slice oa d.on.1 oc] (by omega)).stN (w.heap.size+1+1) 11 [.slice none 0 0] (by omega);clear T1 TA T2 T3 G1 G2 G4 o2 b2 bA GO
   go_upto_region 19 with (at_builtin;refine ze3 rfl (.tmp 82) (.tmp 84) rfl ?_ ?_ hrun ?_;(simp [Act.eval]);(simp [Act.eval]))
   obtain ⟨W4,hW4⟩:∃ x,x=stN (stN w2 (w.heap.size+1+1) 10 [.slice oa d.on.1 oc]) (w.heap.size+1+1) 11 [.slice none 0 0]:=⟨_,rfl⟩
   change Code.wp Tryz.prog _ _ _ (stN (stN w2 (w.heap.size+1+1) 10 [.slice oa d.on.1 oc]) (w.heap.size+1+1) 11 [.slice none 0 0])
   rw [← hW4] at T4 O4 GO4 ez ⊢;have HT4:=hid T4;have HO4:=hid O4;have HGO:=hid GO4;clear T4 O4 GO4 hW4 xa xb xf xc xg hrun x9;go_wp2
   go_loopw [9] (fun i wr=>∃ (t:Nat) (ta:Option Addr) (tc:Nat),t≤d.tapes.1∧i=.int .i64 t∧Box wr (w.heap.size+1+1) #[.int .i64 (d.shape 0),.int .i64 (d.shape 1),.int .i64 (d.shape 2),.int .i64 (d.shape 3),.int .i64 (d.shape 4),.int .i64 (d.shape 5),.int .i64 (d.shape 6),.int .i64 (d.shape 7),.int .i64 (d.shape 8),.slice ga d.groups.1 gc,.slice oa d.on.1 oc,.slice ta t tc,.int .i64 d.writes,.int .i64 d.stop,.bool d.down] 38∧Gat zag 100 wr W4.heap.size (.slice ta t tc) t d.tapes.2∧ChgL [w.heap.size+1+1] W4 wr) (fun i _=>d.tapes.1-(intOf i).toNat)
   case atStart=>exact ⟨0,none,0,Nat.zero_le _,rfl,HT4.out.b3,Gat.nil _ _ _,ChgL.refl _ _⟩
   case round=>
    obtain ⟨t,ta,tc,ht,rfl,X5,G5,C5⟩:=hrel;obtain ⟨wx,rfl⟩:∃ x,x=wr:=⟨_,rfl⟩;have T5:Three w wx (rwW d ao1 cap1 ao2 cap2 ao3 cap3).toArray (rwV 0 0 0 0 0 0 0 0 0 none 0 0 none 0 0 none 0 0 0 0 false).toArray #[.int .i64 (d.shape 0),.int .i64 (d.shape 1),.int .i64 (d.shape 2),.int .i64 (d.shape 3),.int .i64 (d.shape 4),.int .i64 (d.shape 5),.int .i64 (d.shape 6),.int .i64 (d.shape 7),.int .i64 (d.shape 8),.slice ga d.groups.1 gc,.slice oa d.on.1 oc,.slice ta t tc,.int .i64 d.writes,.int .i64 d.stop,.bool d.down] 38 38 38:=HT4.out.chgl3 _ X5 C5;have HT5:=hid T5;have HG5:=hid G5;have HC5:=hid C5;have zx:W4.heap.size≤wx.heap.size:=C5.size;have x11:wx.cell? ⟨w.heap.size,11,none⟩=some (.slice ao3 d.tapes.1 cap3):=T5.b1.cell 11;have e11:wx.cell? ⟨w.heap.size+1+1,11,none⟩=some (.slice ta t tc):=T5.b3.cell 11
    by_cases hlt:t<d.tapes.1
    ·obtain ⟨b3,off3,he3,hb3,hel3⟩:=HC3.out (by omega)
     subst he3;obtain ⟨ct,hrt,hct⟩:=zas (t:=0) hel3 T5.bel hhi hb3 hlt;obtain ⟨ao7,cap7,rfl,g7⟩:=za1 hrt;have c0:wx.cell? ⟨b3,off3+t*2,none⟩=some (.bool (d.tapes.2 t).wiped):=hct 0 (by decide);have c1:wx.cell? ⟨b3,off3+t*2+1,none⟩=some (.slice ao7 (d.tapes.2 t).recs.1 cap7):=hct 1 (by decide);have HCA:=hid c0;have CC:=zfb _ (d.tapes.2 t).recs hi wx.drew ((zac.slice 56).rd_below (B:=hi) g7 ⟨rfl,rfl,rfl,Nat.le_refl _,fun _ _=>rfl⟩ (Nat.le_refl _)) (show hi≤wx.heap.size by omega) (HNT.out t hlt)
     have CC:=CC.mono (R':=fun e w'=>∃ ra rc,e=.returned (.slice ra (d.tapes.2 t).recs.1 rc)∧OwnT (zac.slice 56) w' wx.drew.heap.size w'.heap.size (d.tapes.2 t).recs [.slice ra (d.tapes.2 t).recs.1 rc]∧Below wx.drew.heap.size wx.drew w') (fun e w' ⟨v5,he,o5,b5'⟩=>by
      obtain ⟨ra,rc,hv5⟩:=zbA o5;obtain rfl:=zaL hv5
      exact ⟨ra,rc,he,o5,b5'⟩)
     clear hel3 hct hrt g7 X5 G5 C5 T5;have KS:∀ w',Below (w.heap.size+1+1+1) wx w'→(w'.cell? ⟨w.heap.size,11,none⟩=some (.slice (some ⟨b3,off3,none⟩) d.tapes.1 cap3)∧w'.cell? ⟨b3,off3+t*2,none⟩=some (.bool (d.tapes.2 t).wiped)∧w'.cell? ⟨b3,off3+t*2+1,none⟩=some (.slice ao7 (d.tapes.2 t).recs.1 cap7)∧w'.cell? ⟨w.heap.size+1+1,11,none⟩=some (.slice ta t tc)):=fun w' hb=>⟨(hb.cell (p:=⟨w.heap.size,11,none⟩) (by show w.heap.size<w.heap.size+1+1+1;omega)).trans x11,(hb.cell (p:=⟨b3,off3+t*2,none⟩) (by show b3<w.heap.size+1+1+1;omega)).trans c0,(hb.cell (p:=⟨b3,off3+t*2+1,none⟩) (by show b3<w.heap.size+1+1+1;omega)).trans c1,(hb.cell (p:=⟨w.heap.size+1+1,11,none⟩) (Nat.lt_succ_self _)).trans e11⟩
     have i1:(0:Int)≤(t:Int):=by omega
     have i2:(t:Int)<(d.tapes.1:Int):=by omega
     go_upto_region 22 with fail
     refine zbb 19 (fun w'=>w'.cell? ⟨w.heap.size,11,none⟩=some (.slice (some ⟨b3,off3,none⟩) d.tapes.1 cap3)∧w'.cell? ⟨b3,off3+t*2,none⟩=some (.bool (d.tapes.2 t).wiped)∧w'.cell? ⟨b3,off3+t*2+1,none⟩=some (.slice ao7 (d.tapes.2 t).recs.1 cap7)∧w'.cell? ⟨w.heap.size+1+1,11,none⟩=some (.slice ta t tc)) (by kernel_rfl) (KS _ ⟨rfl,rfl,rfl,Nat.le_refl _,fun _ _=>rfl⟩) (fun hHeld=>?_);refine zjd 0 rfl ?_
     try simp only [Act.put,SL]
     refine zjd 1 rfl ?_
     try simp only [Act.put,SL]
     refine zjd 2 rfl ?_
     try simp only [Act.put,SL]
     refine zjd 3 rfl ?_
     try simp only [Act.put,SL]
     refine zjd 4 rfl ?_
     try simp only [Act.put,SL]
     refine zjd 5 rfl ?_
     try simp only [Act.put,SL]
     refine zjd 6 rfl ?_
     try simp only [Act.put,SL]
     refine zjd 7 rfl ?_
     try simp only [Act.put,SL]
     refine zjd 8 rfl ?_
     try simp only [Act.put,SL]
     refine zjd 9 rfl ?_
     try simp only [Act.put,SL]
     refine zjd 10 rfl ?_
     try simp only [Act.put,SL]
     refine zjd 11 rfl ?_
     try simp only [Act.put,SL]
     refine zjd 12 rfl ?_
     try simp only [Act.put,SL]
     refine zjd 13 rfl ?_
     try simp only [Act.put,SL]
     refine zam (i:=14) (o:=_) rfl (by kernel_rfl) (fun K hK=>?_)
     refine zaw rfl 69 _ _ rfl #[.slice ao7 (d.tapes.2 t).recs.1 cap7] ?_ Tryz.func69 (by kernel_rfl) (by kernel_rfl) CC ?_;(simp [Act.eval,Act.put]);rintro ee w5 ⟨ra,rc,rfl,o5,b5'⟩;have b5w:Below wx.heap.size wx w5:=⟨b5'.os,b5'.tape,b5'.output,b5'.size,b5'.block⟩;have T6:=HT5.out.call b5w;have q1:w5.cell? ⟨w.heap.size+1+1,11,none⟩=some (.slice ta t tc):=T6.b3.cell 11;have q3:=(zb9 w5 (.cells #[.bool (d.tapes.2 t).wiped,.slice ra (d.tapes.2 t).recs.1 rc] 100) (w.heap.size+1+1) 11 (by have:=b5w.size;omega)).trans q1;clear T6;refine ⟨_,rfl,?_⟩
     refine hK.out _ _ (KS _ (b5w.mono (by omega))) (fun hHeld=>?_);clear hK K
     try simp only [Act.put,SL]
     refine zjd 15 rfl ?_
     try simp only [Act.put,SL]
     refine zam (i:=16) (o:=_) rfl (by kernel_rfl) (fun K hK=>?_);go_simp;refine hK.out _ _ (KS _ ((b5w.mono (by omega)).alloc (by have:=b5w.size;omega) _)) (fun hHeld=>?_);clear hK K
     try simp only [Act.put,SL]
     refine zam (i:=17) (o:=_) rfl (by kernel_rfl) (fun K hK=>?_)
     refine zdo zgs rfl (.tmp 96) (.tmp 111) rfl (lo:=W4.heap.size) (n:=t) (v:=.slice ta t tc) (x:=d.tapes.2) ?_ HG5.out b5w (tape_of' o5) ?_ w5.heap.size 1 ?_ (fun j _=>zb4 w5 _ _ j) (by omega) (by omega) ?_;(simp [Act.eval,Act.put]);(exact (Below.refl _ _).alloc (Nat.le_refl _) _);(simp [Act.eval,Act.put]);intro v4 w4 g4 b4;obtain ⟨ta4,tc4,rfl⟩:=g4.form;have X4:=HT5.out.b3.below b4 (by omega);have p1:w4.cell? ⟨w.heap.size+1+1,11,none⟩=some (.slice ta t tc):=X4.cell 11;have p2:w4.frozen? ⟨w.heap.size+1+1,11,none⟩=false:=X4.frozen 11
     refine hK.out _ _ (KS _ (b4.mono (by omega))) (fun hHeld=>?_);clear hK K
     try simp only [Act.put,SL]
     refine zam (i:=18) (o:=_) rfl (by kernel_rfl) (fun K hK=>?_);go_simp;refine hK.out _ _ (KS _ (b4.mono (by omega))) (fun hHeld=>?_);clear hK K
     try simp only [Act.put,SL]
     refine zbk (o:=_) rfl (by kernel_rfl) (fun K hK=>?_);go_simp;refine hK.out _ _ ?_;clear hK K
     try simp only [Act.put,SL]
     refine zbl (by kernel_rfl) ?_ _;go_wp2
     go_roundw
     case rel=>exact ⟨t+1,ta4,tc4,by omega,by go_num,X4.stL [.slice ta4 (t+1) tc4] 11,(g4.set _ _ _ (by omega)).congr (fun i _=>by rw [zb5]),(HC5.out.after b4).st (w.heap.size+1+1) 11 _ (by simp)⟩
     case measure=>simp [intOf];omega
    ·obtain rfl:t=d.tapes.1:=by omega
     clear X5 e11
     have F0:OwnT zae wx (w.heap.size+1+1+1) wx.heap.size d (rwW d ga gc oa oc ta tc):=by
      have C5':=C5;clear T5 G5 C5;have F:OwnT zae wx (w.heap.size+1+1+1) wx.heap.size d ((rwS d.shape)++([.slice ga d.groups.1 gc]++([.slice oa d.on.1 oc]++([.slice ta d.tapes.1 tc]++([.int .i64 d.writes]++([.int .i64 d.stop]++[.bool d.down])))))):=OwnT.conv (OwnT.pre (A:=(zde 9)) (a:=d.shape) (c:=(rwS d.shape)) ⟨rfl,Q0.out,rfl⟩ (OwnT.two (HGO.out.chgl HC5.out (fun b hb=>by simp at hb;omega)) (OwnT.two (HO4.out.chgl HC5.out (fun b hb=>by simp at hb;omega)) (OwnT.two (HG5.out.own.weaken (show w2.heap.size≤W4.heap.size by omega) (Nat.le_refl _)) (OwnT.pre (A:=layI) (a:=d.writes) (c:=[.int .i64 d.writes]) ⟨rfl,Q4.out,rfl⟩ (OwnT.pre (A:=layI) (a:=d.stop) (c:=[.int .i64 d.stop]) ⟨rfl,Q5.out,rfl⟩ (OwnT.nil (A:=layB) (a:=d.down) (c:=[.bool d.down]) ⟨rfl,trivial,rfl⟩ wx.heap.size wx.heap.size))) (Nat.le_refl _) (by omega) (Nat.le_refl _)) (by omega) (by omega) (by omega)) (by omega) (by omega) (by omega)));exact F
     have HF:=hid F0;clear G5 C5
     go_wp2_with (first | (refine zao 38 (.tmp 3) rfl rfl (w.heap.size+1+1) rfl T5.b3 Tryz.underlying38 zbH rfl ?_) | (refine zaP 38 _ _ rfl rfl (w.heap.size+1) rfl (cs:=(rwW d ga gc oa oc ta tc)) rfl T5.b2 zbH rfl rfl F0.one ?_;intro w9 X9 C9 z9))
     refine zbL Tryz.results32 rfl X9 Tryz.underlying38 zbH rfl rfl ?_;refine ⟨(rwW d ga gc oa oc ta tc),rfl,?_,?_⟩
     ·exact (HF.out.chgk C9 (fun b hb=>by simp at hb;omega)).weaken (by omega) C9.size
     ·exact T5.bel.trans (C9.bel (fun b hb=>by simp at hb;omega) T5.bel.size)
structure Cap2 (w wc:World) (c1:Array Value) (x y:Int) (c4:Array Value) (t1 t4:TypeId):Prop where
 b1:Box wc w.heap.size c1 t1
 b2:Box wc (w.heap.size+1) #[.int .i64 x] 2
 b3:Box wc (w.heap.size+1+1) #[.int .i64 y] 2
 b4:Box wc (w.heap.size+1+1+1) c4 t4
 bel:Below w.heap.size w wc
theorem zbx {P:WorldResultD→Prop} {w wc w9:World} {x:Int} {r:Nat} (hr:w.heap.size≤r) (hx:-9223372036854775808≤x∧x≤9223372036854775807) (hb:Below w.heap.size w wc) (hc:ChgL [r] wc w9) (hP:P ⟨x,zeS⟩):zcF P w (.returned (.agg #[.int .i64 x,.int .i64 0,.int .i64 0,.int .i64 0,.int .i64 0,.int .i64 0,.int .i64 0,.int .i64 0,.int .i64 0,.int .i64 0,.slice none 0 0,.slice none 0 0,.slice none 0 0,.int .i64 0,.int .i64 0,.bool false])) w9:=
 ⟨⟨x,zeS⟩,[.int .i64 x,.int .i64 0,.int .i64 0,.int .i64 0,.int .i64 0,.int .i64 0,.int .i64 0,.int .i64 0,.int .i64 0,.int .i64 0,.slice none 0 0,.slice none 0 0,.slice none 0 0,.int .i64 0,.int .i64 0,.bool false],rfl,hP,zdT _ x hx _ _,hb.trans (hc.bel (fun b hb=>by simp at hb;omega) hb.size)⟩
end Go.Proofs.YtonemlgejkapbaaGreat
