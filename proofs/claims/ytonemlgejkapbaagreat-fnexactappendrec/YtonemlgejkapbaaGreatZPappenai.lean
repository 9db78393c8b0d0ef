/- Walks of the lock's and the once's own text, one goroutine: Lock where it is free; Unlock and the atomic store, deferred. -/
import Derived.Defers
import Derived.Recover
import Derived.Laws.LoneSync
import Derived.Laws.Pointers
import Derived.RegionCalls
import Derived.Test.YtonemlgejkapbaaGreatZPappenah
set_option linter.unusedVariables false
set_option linter.unusedSimpArgs false
set_option maxHeartbeats 16000000
namespace Go.Proofs.YtonemlgejkapbaaGreat
open Go.RowKit
theorem zdu (w:World):(callFunc 165 #[]).run Tryz.prog w=.ok (.value (.tuple #[])) w:=run_call_mark0 Tryz.func165 (by kernel_rfl) (by kernel_rfl) (by kernel_rfl) .disable (by kernel_rfl) w
theorem zd6 (w:World):(callFunc 167 #[]).run Tryz.prog w=.ok (.value (.tuple #[])) w:=run_call_mark0 Tryz.func167 (by kernel_rfl) (by kernel_rfl) (by kernel_rfl) .enable (by kernel_rfl) w
theorem zfQ (a:Addr) (w:World):(callFunc 168 #[.pointer (some a)]).run Tryz.prog w=.ok (.value (.tuple #[])) w:=run_call_marked Tryz.func168 (by kernel_rfl) (by kernel_rfl) (by kernel_rfl) .acquire (by kernel_rfl) a w
theorem zfR (a:Addr) (w:World):(callFunc 170 #[.pointer (some a)]).run Tryz.prog w=.ok (.value (.tuple #[])) w:=run_call_marked Tryz.func170 (by kernel_rfl) (by kernel_rfl) (by kernel_rfl) .releaseMerge (by kernel_rfl) a w
set_option maxRecDepth 100000 in
theorem zdC (a:Addr) (w:World) (hc:w.cell? a=some (.int .i32 0)) (hz:w.frozen? a=false) :
 Calls Tryz.prog 122 #[.pointer (some a)] w fun e w'=>e=.returned (.tuple #[])∧w'=w.setCell a (.int .i32 1):=by
 have hd:=zdu;have he:=zd6;have ha:=zfQ;have hcas:=run_call_cas_hit (P:=Tryz.prog) Tryz.func166 (by kernel_rfl) (by kernel_rfl) (by kernel_rfl) .i32 (by kernel_rfl) (y:=1) hc hz;have hc':(w.setCell a (.int .i32 1)).cell? a=some (.int .i32 1):=World.cell?_setCell_same w a _ hc;have hcv:=run_convert_to_unsafe (P:=Tryz.prog) (src:=180) (dst:=184) Tryz.underlying180 Tryz.underlying184 (by kernel_rfl) hc'
 go_enter Tryz.func122,Tryz.ntmps122
 go_wp2
 first | go_end0 | (simp only [Exit.inBlock,Exit.then];refine bodyPost_ret (results_none rfl _ _ _) rfl ?_) | refine bodyPost_ret (results_none rfl _ _ _) rfl ?_
 go_wp2
 go_end0
 exact ⟨rfl,rfl⟩
set_option maxRecDepth 100000 in
theorem zcm (a:Addr) (u:FrameMode) (w:World) (hc:w.cell? a=some (.int .i32 1)) (hz:w.frozen? a=false) :
 CallsD Tryz.prog 123 #[.pointer (some a)] u w fun e u' w'=>u'=u∧(e=.returned (.tuple #[])∧w'=w.setCell a (.int .i32 0)):=by
 have hd:=zdu;have he:=zd6;have hr:=zfR;have hadd:=run_call_add (P:=Tryz.prog) Tryz.func171 (by kernel_rfl) (by kernel_rfl) (by kernel_rfl) .i32 (by kernel_rfl) (y:=-1) (s:=0) hc hz (by simp [go_sem];rfl);have hcv:=run_convert_to_unsafe (P:=Tryz.prog) (src:=180) (dst:=184) Tryz.underlying180 Tryz.underlying184 (by kernel_rfl) hc
 go_enter_d Tryz.func123,Tryz.ntmps123
 go_wp2
 go_end0
 go_wp2
 go_end0
 exact ⟨rfl,rfl⟩
set_option maxRecDepth 100000 in
theorem zhE (a:Addr) (x:Value) (u:FrameMode) (w:World) (hc:w.cell? a=some x) (hz:w.frozen? a=false) :
 CallsD Tryz.prog 174 #[.pointer (some a),.bool true] u w fun e u' w'=>u'=u∧(e=.returned (.tuple #[])∧w'=w.drew.setCell a (.int .u32 1)):=by
 have hc':w.drew.cell? a=some x:=by go_simp
 have hz':w.drew.frozen? a=false:=by go_simp
 have hst:=run_call_store (P:=Tryz.prog) Tryz.func182 (by kernel_rfl) (by kernel_rfl) (by kernel_rfl) (by kernel_rfl) (k:=.u32) (y:=1) hc' hz'
 go_enter_d Tryz.func174,Tryz.ntmps174
 go_wp2
 go_region_calls
 all_goals (go_end0;exact ⟨rfl,rfl⟩)
end Go.Proofs.YtonemlgejkapbaaGreat
namespace Go.Proofs.YtonemlgejkapbaaGreat
open Go.RowKit F256
structure EncO (w:World) (E:Nat) (d:WorldD) (cs:List Value) (K:List Nat):Prop where
 own:zae.own w d cs K
 nd:K.Nodup
 ne:E∉K
theorem ze4 {w:World} {d:WorldD} {cs:List Value} {K:List Nat} (h:zae.own w d cs K):∃ v0 v1 v2 v3 v4 v5 v6 v7 v8 vp0 vl0 vq0 vp1 vl1 vq1 vp2 vl2 vq2 v9 v10 vb,cs=[.int .i64 v0,.int .i64 v1,.int .i64 v2,.int .i64 v3,.int .i64 v4,.int .i64 v5,.int .i64 v6,.int .i64 v7,.int .i64 v8,.slice vp0 vl0 vq0,.slice vp1 vl1 vq1,.slice vp2 vl2 vq2,.int .i64 v9,.int .i64 v10,.bool vb]:=by
 obtain ⟨p1,pc1,p2,pc2,p3,pc3,K1,K2,K3,rfl,-⟩:=zbn h;exact ⟨_,_,_,_,_,_,_,_,_,_,_,_,_,_,_,_,_,_,_,_,_,rfl⟩
theorem ziA {w:World} {d:WorldD} {c0 c1 c2 c3 c4 c5 c6 c7 c8 c9 c10 c11 c12 c13 c14:Value} {K:List Nat} (h:zae.own w d [c0,c1,c2,c3,c4,c5,c6,c7,c8,c9,c10,c11,c12,c13,c14] K) (nd:K.Nodup):∃ K',zae.own w (cutW d) [c0,c1,c2,c3,c4,c5,c6,c7,c8,c9,.slice none 0 0,c11,c12,c13,.bool true] K'∧K'.Nodup∧∀ b,b∈K'→b∈K:=by
 obtain ⟨a1,b1,a2,b2,a3,b3,K1,K2,K3,e,hM,o1,o2,o3,k0,k4,k5⟩:=zbn h
 simp only [List.cons.injEq,and_true] at e
 obtain ⟨rfl,rfl,rfl,rfl,rfl,rfl,rfl,rfl,rfl,rfl,rfl,rfl,rfl,rfl,rfl⟩:=e;subst hM;refine ⟨K1++([]++(K3++[])),zcf (cutW d) o1 (zdj w _ (fun _=>show (-9223372036854775808≤(0:Int)∧(0:Int)≤9223372036854775807) by decide)) o3 k0 k4 k5,?_,fun b hb=>?_⟩
 ·obtain ⟨n1,n2,n3⟩:=List.nodup_append.1 nd
  obtain ⟨_,n4,_⟩:=List.nodup_append.1 n2;exact List.nodup_append.2 ⟨n1,n4,fun b hb c hc=>n3 b hb c (List.mem_append_right _ hc)⟩
 ·rcases List.mem_append.1 hb with h | h
  ·exact List.mem_append_left _ h
  ·exact List.mem_append_right _ (List.mem_append_right _ h)
set_option maxRecDepth 20000 in
theorem zdc (v0 v1 v2 v3 v4 v5 v6 v7 v8 vp0 vl0 vq0 vp1 vl1 vq1 vp2 vl2 vq2 v9 v10 vb:_) (w:World) (h1:∀ x,x∈([.int .i64 v0,.int .i64 v1,.int .i64 v2,.int .i64 v3,.int .i64 v4,.int .i64 v5,.int .i64 v6,.int .i64 v7,.int .i64 v8,.slice vp0 vl0 vq0,.slice none 0 0,.slice vp2 vl2 vq2,.int .i64 v9,.int .i64 v10,.bool true]:List Value)→x.oneCell'=true) :
 Calls Tryz.prog 126 #[.agg #[.int .i64 v0,.int .i64 v1,.int .i64 v2,.int .i64 v3,.int .i64 v4,.int .i64 v5,.int .i64 v6,.int .i64 v7,.int .i64 v8,.slice vp0 vl0 vq0,.slice vp1 vl1 vq1,.slice vp2 vl2 vq2,.int .i64 v9,.int .i64 v10,.bool vb]] w fun e w'=>e=.returned (.agg #[.int .i64 v0,.int .i64 v1,.int .i64 v2,.int .i64 v3,.int .i64 v4,.int .i64 v5,.int .i64 v6,.int .i64 v7,.int .i64 v8,.slice vp0 vl0 vq0,.slice none 0 0,.slice vp2 vl2 vq2,.int .i64 v9,.int .i64 v10,.bool true])∧Below w.heap.size w w':=by
 have T0:=zay w (rwV v0 v1 v2 v3 v4 v5 v6 v7 v8 vp0 vl0 vq0 vp1 vl1 vq1 vp2 vl2 vq2 v9 v10 vb).toArray (rwV 0 0 0 0 0 0 0 0 0 none 0 0 none 0 0 none 0 0 0 0 false).toArray 38 38
 go_enter Tryz.func126,Tryz.ntmps126
 go_upto_region 1 with fail
 obtain ⟨W,hW⟩:∃ x,x=(w.alloc (.cells (rwV v0 v1 v2 v3 v4 v5 v6 v7 v8 vp0 vl0 vq0 vp1 vl1 vq1 vp2 vl2 vq2 v9 v10 vb).toArray 38)).alloc (.cells (rwV 0 0 0 0 0 0 0 0 0 none 0 0 none 0 0 none 0 0 0 0 false).toArray 38):=⟨_,rfl⟩;rw [← hW] at T0 ⊢;clear hW;have y0:W.cell? ⟨w.heap.size,14,none⟩=some (.bool vb):=T0.b1.cell 14;have yf0:W.frozen? ⟨w.heap.size,14,none⟩=false:=T0.b1.frozen 14;have X0:Box (W.setCell ⟨w.heap.size,14,none⟩ (.bool true)) w.heap.size (rwV v0 v1 v2 v3 v4 v5 v6 v7 v8 vp0 vl0 vq0 vp1 vl1 vq1 vp2 vl2 vq2 v9 v10 true).toArray 38:=T0.b1.setc 14 _;have y1:(W.setCell ⟨w.heap.size,14,none⟩ (.bool true)).cell? ⟨w.heap.size,10,none⟩=some (.slice vp1 vl1 vq1):=X0.cell 10;have yf1:(W.setCell ⟨w.heap.size,14,none⟩ (.bool true)).frozen? ⟨w.heap.size,10,none⟩=false:=X0.frozen 10;have X1:Box ((W.setCell ⟨w.heap.size,14,none⟩ (.bool true)).setCell ⟨w.heap.size,10,none⟩ (.slice none 0 0)) w.heap.size (rwV v0 v1 v2 v3 v4 v5 v6 v7 v8 vp0 vl0 vq0 none 0 0 vp2 vl2 vq2 v9 v10 true).toArray 38:=X0.setc 10 _;have CC:ChgL [w.heap.size] W ((W.setCell ⟨w.heap.size,14,none⟩ (.bool true)).setCell ⟨w.heap.size,10,none⟩ (.slice none 0 0)):=((ChgL.refl _ _).st _ 14 (.bool true) (by simp)).st _ 10 (.slice none 0 0) (by simp);have R1:=T0.b2.chgl CC (by simp);have B1:=T0.bel.trans (CC.bel (fun b hb=>by simp at hb;omega) T0.bel.size);have HH1:=hid h1;clear h1
 go_wp2_with (first | (refine zao 38 (.tmp 1) rfl rfl (w.heap.size) rfl (X1) Tryz.underlying38 zbH rfl ?_) | (refine zaP 38 _ _ rfl rfl (w.heap.size+1) rfl (cs:=(rwV v0 v1 v2 v3 v4 v5 v6 v7 v8 vp0 vl0 vq0 none 0 0 vp2 vl2 vq2 v9 v10 true)) rfl R1 zbH rfl rfl HH1.out ?_;intro w9 X9 C9 z9))
 refine zbL Tryz.results126 rfl X9 Tryz.underlying38 zbH rfl rfl ?_;exact ⟨rfl,B1.trans (C9.bel (fun b hb=>by simp at hb;omega) B1.size)⟩
set_option maxRecDepth 20000 in
theorem ziB (E pe:Nat) (l o m:Int) (v0 v1 v2 v3 v4 v5 v6 v7 v8 vp0 vl0 vq0 vp1 vl1 vq1 vp2 vl2 vq2 v9 v10 vb:_) (w:World) (hp:w.cell? ⟨pe,0,none⟩=some (.pointer (some ⟨E,0,none⟩))) (hpe:pe<w.heap.size) (hX:Box w E #[.int .i32 l,.int .u32 0,.int .u32 o,.int .i32 m,.int .u32 0,.int .i64 v0,.int .i64 v1,.int .i64 v2,.int .i64 v3,.int .i64 v4,.int .i64 v5,.int .i64 v6,.int .i64 v7,.int .i64 v8,.slice vp0 vl0 vq0,.slice vp1 vl1 vq1,.slice vp2 vl2 vq2,.int .i64 v9,.int .i64 v10,.bool vb] 127) (h1:∀ x,x∈([.int .i64 v0,.int .i64 v1,.int .i64 v2,.int .i64 v3,.int .i64 v4,.int .i64 v5,.int .i64 v6,.int .i64 v7,.int .i64 v8,.slice vp0 vl0 vq0,.slice none 0 0,.slice vp2 vl2 vq2,.int .i64 v9,.int .i64 v10,.bool true]:List Value)→x.oneCell'=true) :
 Calls Tryz.prog 125 #[.pointer (some ⟨pe,0,none⟩)] w fun e w'=>e=.returned (.tuple #[])∧Box w' E #[.int .i32 l,.int .u32 0,.int .u32 o,.int .i32 m,.int .u32 0,.int .i64 v0,.int .i64 v1,.int .i64 v2,.int .i64 v3,.int .i64 v4,.int .i64 v5,.int .i64 v6,.int .i64 v7,.int .i64 v8,.slice vp0 vl0 vq0,.slice none 0 0,.slice vp2 vl2 vq2,.int .i64 v9,.int .i64 v10,.bool true] 127∧ChgL [E] w w':=by
 have hE:E<w.heap.size:=hX.lt;have HX:=hid hX;have x_5:w.cell? ⟨E,5,none⟩=some (.int .i64 v0):=hX.cell 5;have x_6:w.cell? ⟨E,6,none⟩=some (.int .i64 v1):=hX.cell 6;have x_7:w.cell? ⟨E,7,none⟩=some (.int .i64 v2):=hX.cell 7;have x_8:w.cell? ⟨E,8,none⟩=some (.int .i64 v3):=hX.cell 8;have x_9:w.cell? ⟨E,9,none⟩=some (.int .i64 v4):=hX.cell 9;have x_10:w.cell? ⟨E,10,none⟩=some (.int .i64 v5):=hX.cell 10;have x_11:w.cell? ⟨E,11,none⟩=some (.int .i64 v6):=hX.cell 11;have x_12:w.cell? ⟨E,12,none⟩=some (.int .i64 v7):=hX.cell 12;have x_13:w.cell? ⟨E,13,none⟩=some (.int .i64 v8):=hX.cell 13;have x_14:w.cell? ⟨E,14,none⟩=some (.slice vp0 vl0 vq0):=hX.cell 14;have x_15:w.cell? ⟨E,15,none⟩=some (.slice vp1 vl1 vq1):=hX.cell 15;have x_16:w.cell? ⟨E,16,none⟩=some (.slice vp2 vl2 vq2):=hX.cell 16;have x_17:w.cell? ⟨E,17,none⟩=some (.int .i64 v9):=hX.cell 17;have x_18:w.cell? ⟨E,18,none⟩=some (.int .i64 v10):=hX.cell 18;have x_19:w.cell? ⟨E,19,none⟩=some (.bool vb):=hX.cell 19;have KS:∀ w',Below w.heap.size w w'→(w'.cell? ⟨pe,0,none⟩=some (.pointer (some ⟨E,0,none⟩))∧w'.cell? ⟨E,5,none⟩=some (.int .i64 v0)∧w'.cell? ⟨E,6,none⟩=some (.int .i64 v1)∧w'.cell? ⟨E,7,none⟩=some (.int .i64 v2)∧w'.cell? ⟨E,8,none⟩=some (.int .i64 v3)∧w'.cell? ⟨E,9,none⟩=some (.int .i64 v4)∧w'.cell? ⟨E,10,none⟩=some (.int .i64 v5)∧w'.cell? ⟨E,11,none⟩=some (.int .i64 v6)∧w'.cell? ⟨E,12,none⟩=some (.int .i64 v7)∧w'.cell? ⟨E,13,none⟩=some (.int .i64 v8)∧w'.cell? ⟨E,14,none⟩=some (.slice vp0 vl0 vq0)∧w'.cell? ⟨E,15,none⟩=some (.slice vp1 vl1 vq1)∧w'.cell? ⟨E,16,none⟩=some (.slice vp2 vl2 vq2)∧w'.cell? ⟨E,17,none⟩=some (.int .i64 v9)∧w'.cell? ⟨E,18,none⟩=some (.int .i64 v10)∧w'.cell? ⟨E,19,none⟩=some (.bool vb)):=fun w' hb=>⟨(hb.cell (p:=⟨pe,0,none⟩) hpe).trans hp,(hb.cell (p:=⟨E,5,none⟩) hE).trans x_5,(hb.cell (p:=⟨E,6,none⟩) hE).trans x_6,(hb.cell (p:=⟨E,7,none⟩) hE).trans x_7,(hb.cell (p:=⟨E,8,none⟩) hE).trans x_8,(hb.cell (p:=⟨E,9,none⟩) hE).trans x_9,(hb.cell (p:=⟨E,10,none⟩) hE).trans x_10,(hb.cell (p:=⟨E,11,none⟩) hE).trans x_11,(hb.cell (p:=⟨E,12,none⟩) hE).trans x_12,(hb.cell (p:=⟨E,13,none⟩) hE).trans x_13,(hb.cell (p:=⟨E,14,none⟩) hE).trans x_14,(hb.cell (p:=⟨E,15,none⟩) hE).trans x_15,(hb.cell (p:=⟨E,16,none⟩) hE).trans x_16,(hb.cell (p:=⟨E,17,none⟩) hE).trans x_17,(hb.cell (p:=⟨E,18,none⟩) hE).trans x_18,(hb.cell (p:=⟨E,19,none⟩) hE).trans x_19⟩;have CC:=zdc v0 v1 v2 v3 v4 v5 v6 v7 v8 vp0 vl0 vq0 vp1 vl1 vq1 vp2 vl2 vq2 v9 v10 vb w.drew h1
 clear hX h1
 go_enter Tryz.func125,Tryz.ntmps125
 go_upto_region 0 with fail
 refine zbb 8 (fun w'=>w'.cell? ⟨pe,0,none⟩=some (.pointer (some ⟨E,0,none⟩))∧w'.cell? ⟨E,5,none⟩=some (.int .i64 v0)∧w'.cell? ⟨E,6,none⟩=some (.int .i64 v1)∧w'.cell? ⟨E,7,none⟩=some (.int .i64 v2)∧w'.cell? ⟨E,8,none⟩=some (.int .i64 v3)∧w'.cell? ⟨E,9,none⟩=some (.int .i64 v4)∧w'.cell? ⟨E,10,none⟩=some (.int .i64 v5)∧w'.cell? ⟨E,11,none⟩=some (.int .i64 v6)∧w'.cell? ⟨E,12,none⟩=some (.int .i64 v7)∧w'.cell? ⟨E,13,none⟩=some (.int .i64 v8)∧w'.cell? ⟨E,14,none⟩=some (.slice vp0 vl0 vq0)∧w'.cell? ⟨E,15,none⟩=some (.slice vp1 vl1 vq1)∧w'.cell? ⟨E,16,none⟩=some (.slice vp2 vl2 vq2)∧w'.cell? ⟨E,17,none⟩=some (.int .i64 v9)∧w'.cell? ⟨E,18,none⟩=some (.int .i64 v10)∧w'.cell? ⟨E,19,none⟩=some (.bool vb)) (by kernel_rfl) (KS _ ⟨rfl,rfl,rfl,Nat.le_refl _,fun _ _=>rfl⟩) (fun hHeld=>?_);refine zjd 0 rfl ?_
 try simp only [Act.put,SL]
 refine zjd 1 rfl ?_
 try simp only [Act.put,SL]
 refine zjd 2 rfl ?_
 try simp only [Act.put,SL]
 refine zjd 3 rfl ?_
 try simp only [Act.put,SL]
 refine zjd 4 rfl ?_
 try simp only [Act.put,SL]
 refine zam (i:=5) (o:=_) rfl (by kernel_rfl) (fun KC hKC=>?_)
 refine zaw rfl 126 _ _ rfl #[.agg (rwV v0 v1 v2 v3 v4 v5 v6 v7 v8 vp0 vl0 vq0 vp1 vl1 vq1 vp2 vl2 vq2 v9 v10 vb).toArray] ?_ Tryz.func126 (by kernel_rfl) (by kernel_rfl) CC ?_;(simp [Act.eval,Act.put]);rintro ee w5 ⟨rfl,b5'⟩;have b5w:Below w.heap.size w w5:=⟨b5'.os,b5'.tape,b5'.output,b5'.size,b5'.block⟩;have X5:=HX.out.below b5w hE;have z_5:w5.cell? ⟨E,5,none⟩=some (.int .i64 v0):=X5.cell 5;have zf_5:w5.frozen? ⟨E,5,none⟩=false:=X5.frozen 5;have z_6:w5.cell? ⟨E,6,none⟩=some (.int .i64 v1):=X5.cell 6;have zf_6:w5.frozen? ⟨E,6,none⟩=false:=X5.frozen 6;have z_7:w5.cell? ⟨E,7,none⟩=some (.int .i64 v2):=X5.cell 7;have zf_7:w5.frozen? ⟨E,7,none⟩=false:=X5.frozen 7;have z_8:w5.cell? ⟨E,8,none⟩=some (.int .i64 v3):=X5.cell 8;have zf_8:w5.frozen? ⟨E,8,none⟩=false:=X5.frozen 8;have z_9:w5.cell? ⟨E,9,none⟩=some (.int .i64 v4):=X5.cell 9;have zf_9:w5.frozen? ⟨E,9,none⟩=false:=X5.frozen 9;have z_10:w5.cell? ⟨E,10,none⟩=some (.int .i64 v5):=X5.cell 10;have zf_10:w5.frozen? ⟨E,10,none⟩=false:=X5.frozen 10;have z_11:w5.cell? ⟨E,11,none⟩=some (.int .i64 v6):=X5.cell 11;have zf_11:w5.frozen? ⟨E,11,none⟩=false:=X5.frozen 11;have z_12:w5.cell? ⟨E,12,none⟩=some (.int .i64 v7):=X5.cell 12;have zf_12:w5.frozen? ⟨E,12,none⟩=false:=X5.frozen 12;have z_13:w5.cell? ⟨E,13,none⟩=some (.int .i64 v8):=X5.cell 13;have zf_13:w5.frozen? ⟨E,13,none⟩=false:=X5.frozen 13;have z_14:w5.cell? ⟨E,14,none⟩=some (.slice vp0 vl0 vq0):=X5.cell 14;have zf_14:w5.frozen? ⟨E,14,none⟩=false:=X5.frozen 14;have z_15:w5.cell? ⟨E,15,none⟩=some (.slice vp1 vl1 vq1):=X5.cell 15;have zf_15:w5.frozen? ⟨E,15,none⟩=false:=X5.frozen 15;have z_16:w5.cell? ⟨E,16,none⟩=some (.slice vp2 vl2 vq2):=X5.cell 16;have zf_16:w5.frozen? ⟨E,16,none⟩=false:=X5.frozen 16;have z_17:w5.cell? ⟨E,17,none⟩=some (.int .i64 v9):=X5.cell 17;have zf_17:w5.frozen? ⟨E,17,none⟩=false:=X5.frozen 17;have z_18:w5.cell? ⟨E,18,none⟩=some (.int .i64 v10):=X5.cell 18;have zf_18:w5.frozen? ⟨E,18,none⟩=false:=X5.frozen 18;have z_19:w5.cell? ⟨E,19,none⟩=some (.bool vb):=X5.cell 19;have zf_19:w5.frozen? ⟨E,19,none⟩=false:=X5.frozen 19;refine ⟨_,rfl,?_⟩
 refine hKC.out _ _ (KS _ b5w) (fun hHeld=>?_);clear hKC KC
 try simp only [Act.put,SL]
 refine zjd 6 rfl ?_
 try simp only [Act.put,SL]
 refine zjd 7 rfl ?_
 try simp only [Act.put,SL]
 refine zbk (o:=_) rfl (by kernel_rfl) (fun KC hKC=>?_);go_simp;refine hKC.out _ _ ?_;clear hKC KC
 try simp only [Act.put,SL]
 refine zbl (by kernel_rfl) ?_ _;have X6:Box (stN w5 E 5 (rwV v0 v1 v2 v3 v4 v5 v6 v7 v8 vp0 vl0 vq0 none 0 0 vp2 vl2 vq2 v9 v10 true)) E #[.int .i32 l,.int .u32 0,.int .u32 o,.int .i32 m,.int .u32 0,.int .i64 v0,.int .i64 v1,.int .i64 v2,.int .i64 v3,.int .i64 v4,.int .i64 v5,.int .i64 v6,.int .i64 v7,.int .i64 v8,.slice vp0 vl0 vq0,.slice none 0 0,.slice vp2 vl2 vq2,.int .i64 v9,.int .i64 v10,.bool true] 127:=X5.stL (rwV v0 v1 v2 v3 v4 v5 v6 v7 v8 vp0 vl0 vq0 none 0 0 vp2 vl2 vq2 v9 v10 true) 5;have C6:ChgL [E] w (stN w5 E 5 (rwV v0 v1 v2 v3 v4 v5 v6 v7 v8 vp0 vl0 vq0 none 0 0 vp2 vl2 vq2 v9 v10 true)):=(ChgL.of_below b5w).trans ⟨(za3 E _ w5 5).1,(za3 E _ w5 5).2.1,(za3 E _ w5 5).2.2,Nat.le_of_eq (zbp E _ w5 5).symm,fun b _ hb=>zbz E b (fun hh=>hb (by simp [hh])) _ w5 5⟩;go_wp2
 go_end0
 exact ⟨rfl,X6,C6⟩
theorem Box.drew {w:World} {b:Nat} {cs:Array Value} {t:TypeId} (h:Box w b cs t):Box w.drew b cs t:=h
theorem ChgL.drew {K:List Nat} {w w':World} (h:ChgL K w w'):ChgL K w w'.drew:=⟨h.os,h.tape,h.output,h.size,h.block⟩
set_option maxRecDepth 100000 in
theorem zig (E pe:Nat) (l:Int) (v0 v1 v2 v3 v4 v5 v6 v7 v8 vp0 vl0 vq0 vp1 vl1 vq1 vp2 vl2 vq2 v9 v10 vb:_) (w:World) (hp:w.cell? ⟨pe,0,none⟩=some (.pointer (some ⟨E,0,none⟩))) (hpe:pe<w.heap.size) (hne:pe≠E) (hX:Box w E #[.int .i32 l,.int .u32 0,.int .u32 0,.int .i32 0,.int .u32 0,.int .i64 v0,.int .i64 v1,.int .i64 v2,.int .i64 v3,.int .i64 v4,.int .i64 v5,.int .i64 v6,.int .i64 v7,.int .i64 v8,.slice vp0 vl0 vq0,.slice vp1 vl1 vq1,.slice vp2 vl2 vq2,.int .i64 v9,.int .i64 v10,.bool vb] 127) (h1:∀ x,x∈([.int .i64 v0,.int .i64 v1,.int .i64 v2,.int .i64 v3,.int .i64 v4,.int .i64 v5,.int .i64 v6,.int .i64 v7,.int .i64 v8,.slice vp0 vl0 vq0,.slice none 0 0,.slice vp2 vl2 vq2,.int .i64 v9,.int .i64 v10,.bool true]:List Value)→x.oneCell'=true) :
 Calls Tryz.prog 156 #[.pointer (some ⟨E,2,none⟩),.func (.func 125) #[] #[.pointer (some ⟨pe,0,none⟩)]] w fun e w'=>e=.returned (.tuple #[])∧Box w' E #[.int .i32 l,.int .u32 0,.int .u32 1,.int .i32 0,.int .u32 0,.int .i64 v0,.int .i64 v1,.int .i64 v2,.int .i64 v3,.int .i64 v4,.int .i64 v5,.int .i64 v6,.int .i64 v7,.int .i64 v8,.slice vp0 vl0 vq0,.slice none 0 0,.slice vp2 vl2 vq2,.int .i64 v9,.int .i64 v10,.bool true] 127∧ChgL [E] w w':=by
 have X1:Box (w.setCell ⟨E,3,none⟩ (.int .i32 1)) E #[.int .i32 l,.int .u32 0,.int .u32 0,.int .i32 1,.int .u32 0,.int .i64 v0,.int .i64 v1,.int .i64 v2,.int .i64 v3,.int .i64 v4,.int .i64 v5,.int .i64 v6,.int .i64 v7,.int .i64 v8,.slice vp0 vl0 vq0,.slice vp1 vl1 vq1,.slice vp2 vl2 vq2,.int .i64 v9,.int .i64 v10,.bool vb] 127:=hX.setc 3 _;have c3:w.cell? ⟨E,3,none⟩=some (.int .i32 0):=hX.cell 3;have f3:w.frozen? ⟨E,3,none⟩=false:=hX.frozen 3;have c2:(w.setCell ⟨E,3,none⟩ (.int .i32 1)).cell? ⟨E,2,none⟩=some (.int .u32 0):=X1.cell 2;have C1:ChgL [E] w (w.setCell ⟨E,3,none⟩ (.int .i32 1)):=(ChgL.refl _ _).st _ 3 _ (by simp);have hl:=run_call_load (P:=Tryz.prog) Tryz.func173 (by kernel_rfl) (by kernel_rfl) (by kernel_rfl) .u32 (by kernel_rfl) c2;have hnot:∀ (x:Bool) (w:World),(Op.unary .not (.bool x)).run Tryz.prog w=.ok (.bool (!x)) w:=fun _ _=>rfl;have hp1:(w.setCell ⟨E,3,none⟩ (.int .i32 1)).cell? ⟨pe,0,none⟩=some (.pointer (some ⟨E,0,none⟩)):=(World.cell?_of_block (C1.block pe hpe (by simpa using hne))).trans hp;have CF:=ziB E pe l 0 1 v0 v1 v2 v3 v4 v5 v6 v7 v8 vp0 vl0 vq0 vp1 vl1 vq1 vp2 vl2 vq2 v9 v10 vb _ hp1 (by simpa using hpe) X1 h1;have HC1:=hid C1;have HCF:=CF;clear C1 X1 hX h1 hp hp1 CF
 go_enter_defers Tryz.func156,Tryz.ntmps156
 go_wp2_with (first | (go_at_call 122;refine (zdC ⟨E,3,none⟩ _ c3 f3).mono ?_;rintro e w' ⟨rfl,rfl⟩) | (go_at_call 125;refine HCF.mono ?_;rintro e w5 ⟨rfl,X5,C5⟩) | (go_at_call 155;go_in))
 refine leaves_cons (f:=174) (args:=#[.pointer (some ⟨E,2,none⟩),.bool true]) (by simp) (by simp [go_sem]) ?_;refine (zhE ⟨E,2,none⟩ (.int .u32 0) .returning _ (X5.cell 2) (X5.frozen 2)).mono ?_;rintro e u' w'' ⟨rfl,rfl,rfl⟩;have X6:Box (w5.drew.setCell ⟨E,2,none⟩ (.int .u32 1)) E #[.int .i32 l,.int .u32 0,.int .u32 1,.int .i32 1,.int .u32 0,.int .i64 v0,.int .i64 v1,.int .i64 v2,.int .i64 v3,.int .i64 v4,.int .i64 v5,.int .i64 v6,.int .i64 v7,.int .i64 v8,.slice vp0 vl0 vq0,.slice none 0 0,.slice vp2 vl2 vq2,.int .i64 v9,.int .i64 v10,.bool true] 127:=X5.drew.setc 2 _;refine leaves_cons (f:=123) (args:=#[.pointer (some ⟨E,3,none⟩)]) (by simp [settle]) (by simp [go_sem]) ?_;refine (zcm ⟨E,3,none⟩ _ _ (X6.cell 3) (X6.frozen 3)).mono ?_;rintro e u' w'' ⟨rfl,rfl,rfl⟩;have X7:Box ((w5.drew.setCell ⟨E,2,none⟩ (.int .u32 1)).setCell ⟨E,3,none⟩ (.int .i32 0)) E #[.int .i32 l,.int .u32 0,.int .u32 1,.int .i32 0,.int .u32 0,.int .i64 v0,.int .i64 v1,.int .i64 v2,.int .i64 v3,.int .i64 v4,.int .i64 v5,.int .i64 v6,.int .i64 v7,.int .i64 v8,.slice vp0 vl0 vq0,.slice none 0 0,.slice vp2 vl2 vq2,.int .i64 v9,.int .i64 v10,.bool true] 127:=X6.setc 3 _;have C7:ChgL [E] w ((w5.drew.setCell ⟨E,2,none⟩ (.int .u32 1)).setCell ⟨E,3,none⟩ (.int .i32 0)):=(((HC1.out.trans C5).drew.st _ 2 _ (by simp)).st _ 3 _ (by simp))
 simp only [Leaves,settle]
 exact ⟨_,results_none rfl _ _ _,rfl,X7,C7⟩
set_option maxRecDepth 100000 in
theorem zih (E pe:Nat) (l:Int) (v0 v1 v2 v3 v4 v5 v6 v7 v8 vp0 vl0 vq0 vp1 vl1 vq1 vp2 vl2 vq2 v9 v10 vb:_) (w:World) (hp:w.cell? ⟨pe,0,none⟩=some (.pointer (some ⟨E,0,none⟩))) (hpe:pe<w.heap.size) (hne:pe≠E) (hX:Box w E #[.int .i32 l,.int .u32 0,.int .u32 0,.int .i32 0,.int .u32 0,.int .i64 v0,.int .i64 v1,.int .i64 v2,.int .i64 v3,.int .i64 v4,.int .i64 v5,.int .i64 v6,.int .i64 v7,.int .i64 v8,.slice vp0 vl0 vq0,.slice vp1 vl1 vq1,.slice vp2 vl2 vq2,.int .i64 v9,.int .i64 v10,.bool vb] 127) (h1:∀ x,x∈([.int .i64 v0,.int .i64 v1,.int .i64 v2,.int .i64 v3,.int .i64 v4,.int .i64 v5,.int .i64 v6,.int .i64 v7,.int .i64 v8,.slice vp0 vl0 vq0,.slice none 0 0,.slice vp2 vl2 vq2,.int .i64 v9,.int .i64 v10,.bool true]:List Value)→x.oneCell'=true) :
 Calls Tryz.prog 124 #[.pointer (some ⟨E,2,none⟩),.func (.func 125) #[] #[.pointer (some ⟨pe,0,none⟩)]] w fun e w'=>e=.returned (.tuple #[])∧Box w' E #[.int .i32 l,.int .u32 0,.int .u32 1,.int .i32 0,.int .u32 0,.int .i64 v0,.int .i64 v1,.int .i64 v2,.int .i64 v3,.int .i64 v4,.int .i64 v5,.int .i64 v6,.int .i64 v7,.int .i64 v8,.slice vp0 vl0 vq0,.slice none 0 0,.slice vp2 vl2 vq2,.int .i64 v9,.int .i64 v10,.bool true] 127∧ChgL [E] w w':=by
 have CS:=zig E pe l v0 v1 v2 v3 v4 v5 v6 v7 v8 vp0 vl0 vq0 vp1 vl1 vq1 vp2 vl2 vq2 v9 v10 vb w hp hpe hne hX h1;have c2:w.cell? ⟨E,2,none⟩=some (.int .u32 0):=hX.cell 2;have hl:=run_call_load (P:=Tryz.prog) Tryz.func173 (by kernel_rfl) (by kernel_rfl) (by kernel_rfl) .u32 (by kernel_rfl) c2;have hnot:∀ (x:Bool) (w:World),(Op.unary .not (.bool x)).run Tryz.prog w=.ok (.bool (!x)) w:=fun _ _=>rfl;clear hX h1 hp
 go_enter Tryz.func124,Tryz.ntmps124
 go_wp2_with (first | (go_at_call 156;refine CS.mono ?_;rintro e w5 ⟨rfl,X5,C5⟩) | (go_at_call 155;go_in))
 go_end0
 exact ⟨rfl,X5,C5⟩
set_option maxRecDepth 100000 in
theorem ze5 (E:Nat) (v0 v1 v2 v3 v4 v5 v6 v7 v8 vp0 vl0 vq0 vp1 vl1 vq1 vp2 vl2 vq2 v9 v10 vb:_) (fv:Value) (w:World) (hX:Box w E #[.int .i32 0,.int .u32 0,.int .u32 0,.int .i32 0,.int .u32 0,.int .i64 v0,.int .i64 v1,.int .i64 v2,.int .i64 v3,.int .i64 v4,.int .i64 v5,.int .i64 v6,.int .i64 v7,.int .i64 v8,.slice vp0 vl0 vq0,.slice vp1 vl1 vq1,.slice vp2 vl2 vq2,.int .i64 v9,.int .i64 v10,.bool vb] 127) (h1:∀ x,x∈([.int .i64 v0,.int .i64 v1,.int .i64 v2,.int .i64 v3,.int .i64 v4,.int .i64 v5,.int .i64 v6,.int .i64 v7,.int .i64 v8,.slice vp0 vl0 vq0,.slice none 0 0,.slice vp2 vl2 vq2,.int .i64 v9,.int .i64 v10,.bool true]:List Value)→x.oneCell'=true) (hs:v10≠-1) (hw:v10≤v9) :
 Calls Tryz.prog 79 #[.pointer (some ⟨E,0,none⟩),fv] w fun e w'=>e=.panicked [{ v:=.iface 154 (.agg #[]),recovered:=false }]∧Box w' E #[.int .i32 0,.int .u32 0,.int .u32 1,.int .i32 0,.int .u32 0,.int .i64 v0,.int .i64 v1,.int .i64 v2,.int .i64 v3,.int .i64 v4,.int .i64 v5,.int .i64 v6,.int .i64 v7,.int .i64 v8,.slice vp0 vl0 vq0,.slice none 0 0,.slice vp2 vl2 vq2,.int .i64 v9,.int .i64 v10,.bool true] 127∧ChgL [E] w w':=by
 have d1:(v10 != -1)=true:=by simpa using hs
 have d2:decide (v10≤v9)=true:=by simpa using hw
 have H1:=hid h1;clear hs hw h1;have hE:E<w.heap.size:=hX.lt;have hmf:∀ (fn:Fn) (first cap:Array Value) (w:World),(Instr.makeFunc fn first cap).run Tryz.prog w=.ok (.func fn first cap) w:=fun _ _ _ _=>rfl;have bA:=bAl w (.cells #[.pointer (some ⟨E,0,none⟩)] 87);have P1:=zaz w #[.pointer (some ⟨E,0,none⟩)] 87;have X1:=hX.below bA hE
 go_enter_defers Tryz.func79,Tryz.ntmps79
 go_upto_region 1 with fail
 obtain ⟨W1,hW1⟩:∃ x,x=w.alloc (.cells #[.pointer (some ⟨E,0,none⟩)] 87):=⟨_,rfl⟩;rw [← hW1] at bA P1 X1 ⊢
 have zW:W1.heap.size=w.heap.size+1:=by rw [hW1];simp
 clear hW1;have hp1:W1.cell? ⟨w.heap.size,0,none⟩=some (.pointer (some ⟨E,0,none⟩)):=P1.cell 0;have c0:W1.cell? ⟨E,0,none⟩=some (.int .i32 0):=X1.cell 0;have f0:W1.frozen? ⟨E,0,none⟩=false:=X1.frozen 0;have X2:Box (W1.setCell ⟨E,0,none⟩ (.int .i32 1)) E #[.int .i32 1,.int .u32 0,.int .u32 0,.int .i32 0,.int .u32 0,.int .i64 v0,.int .i64 v1,.int .i64 v2,.int .i64 v3,.int .i64 v4,.int .i64 v5,.int .i64 v6,.int .i64 v7,.int .i64 v8,.slice vp0 vl0 vq0,.slice vp1 vl1 vq1,.slice vp2 vl2 vq2,.int .i64 v9,.int .i64 v10,.bool vb] 127:=X1.setc 0 _;have P2:Box (W1.setCell ⟨E,0,none⟩ (.int .i32 1)) w.heap.size #[.pointer (some ⟨E,0,none⟩)] 87:=P1.seto 0 _ (by omega);have C2':ChgL [E] w (W1.setCell ⟨E,0,none⟩ (.int .i32 1)):=(ChgL.of_below bA).st _ 0 _ (by simp)
 go_upto_region 2 with (go_at_call 122;refine (zdC ⟨E,0,none⟩ _ c0 f0).mono ?_;rintro e w' ⟨rfl,rfl⟩)
 obtain ⟨W2,hW2⟩:∃ x,x=W1.setCell ⟨E,0,none⟩ (.int .i32 1):=⟨_,rfl⟩;rw [← hW2] at X2 P2 C2' ⊢
 have z2:W2.heap.size=w.heap.size+1:=by rw [hW2];simpa using zW
 clear hW2 hp1 c0 f0 X1 P1 bA hX;have hp2:W2.cell? ⟨w.heap.size,0,none⟩=some (.pointer (some ⟨E,0,none⟩)):=P2.cell 0;have x17:W2.cell? ⟨E,17,none⟩=some (.int .i64 v9):=X2.cell 17;have x18:W2.cell? ⟨E,18,none⟩=some (.int .i64 v10):=X2.cell 18
 go_upto_region 3 with fail
 go_quiet (fail)
 go_upto_region 4 with fail
 obtain ⟨W3,hW3⟩:∃ x,x=W2.drewN nq:=⟨_,rfl⟩;rw [← hW3]
 have X3:Box W3 E #[.int .i32 1,.int .u32 0,.int .u32 0,.int .i32 0,.int .u32 0,.int .i64 v0,.int .i64 v1,.int .i64 v2,.int .i64 v3,.int .i64 v4,.int .i64 v5,.int .i64 v6,.int .i64 v7,.int .i64 v8,.slice vp0 vl0 vq0,.slice vp1 vl1 vq1,.slice vp2 vl2 vq2,.int .i64 v9,.int .i64 v10,.bool vb] 127:=by rw [hW3];exact X2
 have P3:Box W3 w.heap.size #[.pointer (some ⟨E,0,none⟩)] 87:=by rw [hW3];exact P2
 have C3':ChgL [E] w W3:=by rw [hW3];exact ⟨C2'.os,C2'.tape,C2'.output,C2'.size,C2'.block⟩
 have z3:W3.heap.size=w.heap.size+1:=by rw [hW3];exact z2
 have hp3:W3.cell? ⟨w.heap.size,0,none⟩=some (.pointer (some ⟨E,0,none⟩)):=P3.cell 0;clear hW3 X2 P2 C2' z2 hp2 x17 x18
 go_wp2_with (go_at_call 124;refine (zih E w.heap.size 1 v0 v1 v2 v3 v4 v5 v6 v7 v8 vp0 vl0 vq0 vp1 vl1 vq1 vp2 vl2 vq2 v9 v10 vb _ hp3 (by omega) (by omega) X3 H1.out).mono ?_;rintro e w5 ⟨rfl,X5,C5⟩)
 refine leaves_cons (f:=123) (args:=#[.pointer (some ⟨E,0,none⟩)]) (by simp) (by simp [go_sem]) ?_;refine (zcm ⟨E,0,none⟩ _ _ (X5.cell 0) (X5.frozen 0)).mono ?_;rintro e u' w'' ⟨rfl,rfl,rfl⟩;have X6:Box (w5.setCell ⟨E,0,none⟩ (.int .i32 0)) E #[.int .i32 0,.int .u32 0,.int .u32 1,.int .i32 0,.int .u32 0,.int .i64 v0,.int .i64 v1,.int .i64 v2,.int .i64 v3,.int .i64 v4,.int .i64 v5,.int .i64 v6,.int .i64 v7,.int .i64 v8,.slice vp0 vl0 vq0,.slice none 0 0,.slice vp2 vl2 vq2,.int .i64 v9,.int .i64 v10,.bool true] 127:=X5.setc 0 _;have C6:ChgL [E] w (w5.setCell ⟨E,0,none⟩ (.int .i32 0)):=(C3'.trans C5).st _ 0 _ (by simp)
 simp only [Leaves,settle]
 exact ⟨trivial,X6,C6⟩
theorem zd7 {w:World} {d:WorldD} {c0 c1 c2 c3 c4 c5 c6 c7 c8 c9 c10 c11 c12 c13 c14:Value} {K:List Nat} (n:Int) (hn:-9223372036854775808≤n∧n≤9223372036854775807) (h:zae.own w d [c0,c1,c2,c3,c4,c5,c6,c7,c8,c9,c10,c11,c12,c13,c14] K):zae.own w { d with writes:=n } [c0,c1,c2,c3,c4,c5,c6,c7,c8,c9,c10,c11,.int .i64 n,c13,c14] K:=by
 obtain ⟨a1,b1,a2,b2,a3,b3,K1,K2,K3,e,hM,o1,o2,o3,k0,k4,k5⟩:=zbn h
 simp only [List.cons.injEq,and_true] at e
 obtain ⟨rfl,rfl,rfl,rfl,rfl,rfl,rfl,rfl,rfl,rfl,rfl,rfl,rfl,rfl,rfl⟩:=e;subst hM;exact zcf { d with writes:=n } o1 o2 o3 k0 hn k5
theorem zd8 {w:World} {d:WorldD} {c0 c1 c2 c3 c4 c5 c6 c7 c8 c9 c10 c11 c13 c14:Value} {n:Int} {K:List Nat} (h:zae.own w d [c0,c1,c2,c3,c4,c5,c6,c7,c8,c9,c10,c11,.int .i64 n,c13,c14] K):n=d.writes:=by
 obtain ⟨a1,b1,a2,b2,a3,b3,K1,K2,K3,e,_⟩:=zbn h
 simp only [List.cons.injEq,Value.int.injEq,true_and,and_true] at e
 exact e.2.2.2.2.2.2.2.2.2.2.2.2.1
theorem ziX {w:World} {d:WorldD} {c0 c1 c2 c3 c4 c5 c6 c7 c8 c9 c10 c11 c12 c14:Value} {n:Int} {K:List Nat} (h:zae.own w d [c0,c1,c2,c3,c4,c5,c6,c7,c8,c9,c10,c11,c12,.int .i64 n,c14] K):n=d.stop:=by
 obtain ⟨a1,b1,a2,b2,a3,b3,K1,K2,K3,e,_⟩:=zbn h
 simp only [List.cons.injEq,Value.int.injEq,true_and,and_true] at e
 exact e.2.2.2.2.2.2.2.2.2.2.2.2.2.1
theorem EncO.chg {w w':World} {E:Nat} {d:WorldD} {cs:List Value} {K:List Nat} (h:EncO w E d cs K) (hc:ChgL [E] w w'):EncO w' E d cs K:=⟨Lay.own_chgL _ h.own hc (fun b hb hbE=>by simp only [List.mem_singleton] at hbE;subst hbE;exact h.ne hb),h.nd,h.ne⟩
theorem EncO.open {w:World} {E:Nat} {d:WorldD} {cs:List Value} {K:List Nat} (h:EncO w E d cs K):∃ p1 c1 p2 c2 p3 c3 K1 K2 K3,cs=[.int .i64 (d.shape 0),.int .i64 (d.shape 1),.int .i64 (d.shape 2),.int .i64 (d.shape 3),.int .i64 (d.shape 4),.int .i64 (d.shape 5),.int .i64 (d.shape 6),.int .i64 (d.shape 7),.int .i64 (d.shape 8),.slice p1 d.groups.1 c1,.slice p2 d.on.1 c2,.slice p3 d.tapes.1 c3,.int .i64 d.writes,.int .i64 d.stop,.bool d.down]∧K=K1++(K2++K3)∧WOpen w 0 w.heap.size d (.slice p1 d.groups.1 c1) (.slice p2 d.on.1 c2) (.slice p3 d.tapes.1 c3) K1 K2 K3:=by
 obtain ⟨a1,b1,a2,b2,a3,b3,K1,K2,K3,e,hM,o1,o2,o3,k0,k4,k5⟩:=zbn h.own;have hl:=fun b hb=>zae.own_lt h.own b hb;have nd:=h.nd;subst hM
 simp only [List.append_nil] at nd hl
 exact ⟨a1,b1,a2,b2,a3,b3,K1,K2,K3,e,by simp,o1,o2,o3,nd,fun b hb=>⟨Nat.zero_le _,hl b hb⟩,k0,k4,k5⟩
theorem WOpen.encO {w:World} {lo hi E:Nat} {d:WorldD} {p1 p2 p3:Option Addr} {c1 c2 c3:Nat} {K1 K2 K3:List Nat} (h:WOpen w lo hi d (.slice p1 d.groups.1 c1) (.slice p2 d.on.1 c2) (.slice p3 d.tapes.1 c3) K1 K2 K3) (hE:E∉K1++(K2++K3)):EncO w E d [.int .i64 (d.shape 0),.int .i64 (d.shape 1),.int .i64 (d.shape 2),.int .i64 (d.shape 3),.int .i64 (d.shape 4),.int .i64 (d.shape 5),.int .i64 (d.shape 6),.int .i64 (d.shape 7),.int .i64 (d.shape 8),.slice p1 d.groups.1 c1,.slice p2 d.on.1 c2,.slice p3 d.tapes.1 c3,.int .i64 d.writes,.int .i64 d.stop,.bool d.down] (K1++(K2++(K3++[]))):=
 ⟨zcf d h.g h.o h.t h.k0 h.k4 h.k5,by simpa using h.nd,by simpa using hE⟩
def zeB (d:WorldD):Prop:=d.stop≠-1∧d.stop≤d.writes
theorem zje {d:WorldD} (h:AskAns d 0):d.down=false:=by
 rcases h with ⟨h,_⟩ | ⟨_,⟨_,h⟩ | ⟨h,_⟩⟩
 ·exact absurd rfl h
 ·cases h
 ·exact h
theorem WOpen.writes {w:World} {lo hi:Nat} {d:WorldD} {v1 v2 v3:Value} {K1 K2 K3:List Nat} (h:WOpen w lo hi d v1 v2 v3 K1 K2 K3) (n:Int) (hn:-9223372036854775808≤n∧n≤9223372036854775807):WOpen w lo hi { d with writes:=n } v1 v2 v3 K1 K2 K3:=⟨h.g,h.o,h.t,h.nd,h.inn,h.k0,hn,h.k5⟩
theorem ze6 {d:WorldD} (h:OkWorld d):-9223372036854775808≤d.writes∧d.writes+1≤9223372036854775807:=by
 have hc:=h.count;unfold zeu InP at hc;omega
theorem zg7:ElInfo zac 98 56 128 [.int .i64 0,.int .i64 0,.string ByteArray.empty,.int .i64 0,.int .i64 0,.int .i64 0,.slice none 0 0,.slice none 0 0,.slice none 0 0]:=⟨by decide,rfl,Tryz.underlying98,by kernel_rfl,by decide⟩
set_option maxRecDepth 20000 in
theorem zeC:ToV zac zaH 102:=fun cs d hi w r hhi hn=>by
 obtain ⟨ao6,cap6,ao7,cap7,ao8,cap8,rfl,h6,h7,h8,k0,k1,k2,k3,k4,k5⟩:=zbd r;clear r;unfold zaH at hn;have R6:=hid h6;have R7:=hid h7;have R8:=hid h8;clear h6 h7 h8;have Q0:=hid k0;have Q1:=hid k1;have Q2:=hid k2;have Q3:=hid k3;have Q4:=hid k4;have Q5:=hid k5;clear k0 k1 k2 k3 k4 k5;have T0:=zay w (rwR d ao6 cap6 ao7 cap7 ao8 cap8).toArray #[.int .i64 0,.int .i64 0,.string ByteArray.empty,.int .i64 0,.int .i64 0,.int .i64 0,.slice none 0 0,.slice none 0 0,.slice none 0 0] 56 56
 go_enter Tryz.func102,Tryz.ntmps102
 go_wp2_with fail
 refine (zd2 _ d.rows hi _ (zai.rd_below R6.out T0.bel hhi) (Nat.le_trans hhi T0.bel.size) (by omega)).mono ?_;rintro e w1 ⟨v0,rfl,o0,b0⟩;obtain ⟨bo6,bcap6,hv⟩:=zbX o0;obtain rfl:=zaL hv;clear hv;have T0c:=T0.call b0;have z0:=T0.b2.lt;have y0:=b0.size;have c0_6:w1.cell? ⟨w.heap.size,6,none⟩=some (.slice ao6 d.rows.1 cap6):=T0c.b1.cell 6;have c0f_6:w1.frozen? ⟨w.heap.size,6,none⟩=false:=T0c.b1.frozen 6;have T1x:Two w (w1.setCell ⟨w.heap.size,6,none⟩ (.slice bo6 d.rows.1 bcap6)) (rwR d bo6 bcap6 ao7 cap7 ao8 cap8).toArray #[.int .i64 0,.int .i64 0,.string ByteArray.empty,.int .i64 0,.int .i64 0,.int .i64 0,.slice none 0 0,.slice none 0 0,.slice none 0 0] 56 56:=⟨T0c.b1.stL [.slice bo6 d.rows.1 bcap6] 6,T0c.b2.seto _ _ (by omega),T0c.bel.setCell (Nat.le_refl _) _⟩;have O6_0:=(o0.stN w.heap.size 6 [.slice bo6 d.rows.1 bcap6] (by omega))
 have e1:(w1.setCell ⟨w.heap.size,6,none⟩ (.slice bo6 d.rows.1 bcap6)).heap.size=w1.heap.size:=by simp
 clear o0 b0
 go_upto_region 2 with fail
 obtain ⟨W1,hW1⟩:∃ x,x=w1.setCell ⟨w.heap.size,6,none⟩ (.slice bo6 d.rows.1 bcap6):=⟨_,rfl⟩
 have O6:Hid (OwnT zai W1 (w.heap.size+1+1) (w1.heap.size) d.rows [.slice bo6 d.rows.1 bcap6]):=by rw [hW1];exact OwnT.weaken O6_0 (by simp) (Nat.le_refl _)
 rw [← hW1] at T1x e1 ⊢;clear hW1 O6_0 T0c c0_6 c0f_6;have a1_7:W1.cell? ⟨w.heap.size,7,none⟩=some (.slice ao7 d.data.1 cap7):=T1x.b1.cell 7
 go_wp2_with fail
 refine (zcG _ d.data hi _ (zad.rd_below R7.out T1x.bel hhi) (Nat.le_trans hhi T1x.bel.size) (by omega)).mono ?_;rintro e w2 ⟨v1,rfl,o1,b1⟩;obtain ⟨bo7,bcap7,hv⟩:=za9 o1;obtain rfl:=zaL hv;clear hv;have T1c:=T1x.call b1;have z1:=T1x.b2.lt;have y1:=b1.size;have c1_7:w2.cell? ⟨w.heap.size,7,none⟩=some (.slice ao7 d.data.1 cap7):=T1c.b1.cell 7;have c1f_7:w2.frozen? ⟨w.heap.size,7,none⟩=false:=T1c.b1.frozen 7;have T2x:Two w (w2.setCell ⟨w.heap.size,7,none⟩ (.slice bo7 d.data.1 bcap7)) (rwR d bo6 bcap6 bo7 bcap7 ao8 cap8).toArray #[.int .i64 0,.int .i64 0,.string ByteArray.empty,.int .i64 0,.int .i64 0,.int .i64 0,.slice none 0 0,.slice none 0 0,.slice none 0 0] 56 56:=⟨T1c.b1.stL [.slice bo7 d.data.1 bcap7] 7,T1c.b2.seto _ _ (by omega),T1c.bel.setCell (Nat.le_refl _) _⟩;have O6_1:=(O6.out.call b1).stN w.heap.size 7 [.slice bo7 d.data.1 bcap7] (by omega);have O7_1:=(o1.stN w.heap.size 7 [.slice bo7 d.data.1 bcap7] (by omega))
 have e2:(w2.setCell ⟨w.heap.size,7,none⟩ (.slice bo7 d.data.1 bcap7)).heap.size=w2.heap.size:=by simp
 clear o1 b1 O6 T1x a1_7
 go_upto_region 3 with fail
 obtain ⟨W2,hW2⟩:∃ x,x=w2.setCell ⟨w.heap.size,7,none⟩ (.slice bo7 d.data.1 bcap7):=⟨_,rfl⟩
 have O6:Hid (OwnT zai W2 (w.heap.size+1+1) (w1.heap.size) d.rows [.slice bo6 d.rows.1 bcap6]):=by rw [hW2];exact O6_1
 have O7:Hid (OwnT zad W2 (W1.heap.size) (w2.heap.size) d.data [.slice bo7 d.data.1 bcap7]):=by rw [hW2];exact O7_1
 rw [← hW2] at T2x e2 ⊢;clear hW2 O6_1 O7_1 T1c c1_7 c1f_7;have a2_8:W2.cell? ⟨w.heap.size,8,none⟩=some (.slice ao8 d.delta.1 cap8):=T2x.b1.cell 8
 go_wp2_with fail
 refine (zcG _ d.delta hi _ (zad.rd_below R8.out T2x.bel hhi) (Nat.le_trans hhi T2x.bel.size) (by omega)).mono ?_;rintro e w3 ⟨v2,rfl,o2,b2⟩;obtain ⟨bo8,bcap8,hv⟩:=za9 o2;obtain rfl:=zaL hv;clear hv;have T2c:=T2x.call b2;have z2:=T2x.b2.lt;have y2:=b2.size;have c2_8:w3.cell? ⟨w.heap.size,8,none⟩=some (.slice ao8 d.delta.1 cap8):=T2c.b1.cell 8;have c2f_8:w3.frozen? ⟨w.heap.size,8,none⟩=false:=T2c.b1.frozen 8;have T3x:Two w (w3.setCell ⟨w.heap.size,8,none⟩ (.slice bo8 d.delta.1 bcap8)) (rwR d bo6 bcap6 bo7 bcap7 bo8 bcap8).toArray #[.int .i64 0,.int .i64 0,.string ByteArray.empty,.int .i64 0,.int .i64 0,.int .i64 0,.slice none 0 0,.slice none 0 0,.slice none 0 0] 56 56:=⟨T2c.b1.stL [.slice bo8 d.delta.1 bcap8] 8,T2c.b2.seto _ _ (by omega),T2c.bel.setCell (Nat.le_refl _) _⟩;have O6_2:=(O6.out.call b2).stN w.heap.size 8 [.slice bo8 d.delta.1 bcap8] (by omega);have O7_2:=(O7.out.call b2).stN w.heap.size 8 [.slice bo8 d.delta.1 bcap8] (by omega);have O8_2:=(o2.stN w.heap.size 8 [.slice bo8 d.delta.1 bcap8] (by omega))
 have e3:(w3.setCell ⟨w.heap.size,8,none⟩ (.slice bo8 d.delta.1 bcap8)).heap.size=w3.heap.size:=by simp
 clear o2 b2 O6 O7 T2x a2_8
 go_upto_region 4 with fail
 obtain ⟨W3,hW3⟩:∃ x,x=w3.setCell ⟨w.heap.size,8,none⟩ (.slice bo8 d.delta.1 bcap8):=⟨_,rfl⟩
 have O6:Hid (OwnT zai W3 (w.heap.size+1+1) (w1.heap.size) d.rows [.slice bo6 d.rows.1 bcap6]):=by rw [hW3];exact O6_2
 have O7:Hid (OwnT zad W3 (W1.heap.size) (w2.heap.size) d.data [.slice bo7 d.data.1 bcap7]):=by rw [hW3];exact O7_2
 have O8:Hid (OwnT zad W3 (W2.heap.size) (w3.heap.size) d.delta [.slice bo8 d.delta.1 bcap8]):=by rw [hW3];exact O8_2
 rw [← hW3] at T3x e3 ⊢;clear hW3 O6_2 O7_2 O8_2 T2c c2_8 c2f_8;have y_0:W3.cell? ⟨w.heap.size,0,none⟩=some (.int .i64 d.kind):=T3x.b1.cell 0;have y_1:W3.cell? ⟨w.heap.size,1,none⟩=some (.int .i64 d.seq):=T3x.b1.cell 1;have y_2:W3.cell? ⟨w.heap.size,2,none⟩=some (.string d.name):=T3x.b1.cell 2;have y_3:W3.cell? ⟨w.heap.size,3,none⟩=some (.int .i64 d.length):=T3x.b1.cell 3;have y_4:W3.cell? ⟨w.heap.size,4,none⟩=some (.int .i64 d.group):=T3x.b1.cell 4;have y_5:W3.cell? ⟨w.heap.size,5,none⟩=some (.int .i64 d.row):=T3x.b1.cell 5;have y_6:W3.cell? ⟨w.heap.size,6,none⟩=some (.slice bo6 d.rows.1 bcap6):=T3x.b1.cell 6;have y_7:W3.cell? ⟨w.heap.size,7,none⟩=some (.slice bo7 d.data.1 bcap7):=T3x.b1.cell 7;have y_8:W3.cell? ⟨w.heap.size,8,none⟩=some (.slice bo8 d.delta.1 bcap8):=T3x.b1.cell 8;have r_0:W3.cell? ⟨w.heap.size+1,0,none⟩=some (.int .i64 0):=T3x.b2.cell 0;have rf_0:W3.frozen? ⟨w.heap.size+1,0,none⟩=false:=T3x.b2.frozen 0;have r_1:W3.cell? ⟨w.heap.size+1,1,none⟩=some (.int .i64 0):=T3x.b2.cell 1;have rf_1:W3.frozen? ⟨w.heap.size+1,1,none⟩=false:=T3x.b2.frozen 1;have r_2:W3.cell? ⟨w.heap.size+1,2,none⟩=some (.string ByteArray.empty):=T3x.b2.cell 2;have rf_2:W3.frozen? ⟨w.heap.size+1,2,none⟩=false:=T3x.b2.frozen 2;have r_3:W3.cell? ⟨w.heap.size+1,3,none⟩=some (.int .i64 0):=T3x.b2.cell 3;have rf_3:W3.frozen? ⟨w.heap.size+1,3,none⟩=false:=T3x.b2.frozen 3;have r_4:W3.cell? ⟨w.heap.size+1,4,none⟩=some (.int .i64 0):=T3x.b2.cell 4;have rf_4:W3.frozen? ⟨w.heap.size+1,4,none⟩=false:=T3x.b2.frozen 4;have r_5:W3.cell? ⟨w.heap.size+1,5,none⟩=some (.int .i64 0):=T3x.b2.cell 5;have rf_5:W3.frozen? ⟨w.heap.size+1,5,none⟩=false:=T3x.b2.frozen 5;have r_6:W3.cell? ⟨w.heap.size+1,6,none⟩=some (.slice none 0 0):=T3x.b2.cell 6;have rf_6:W3.frozen? ⟨w.heap.size+1,6,none⟩=false:=T3x.b2.frozen 6;have r_7:W3.cell? ⟨w.heap.size+1,7,none⟩=some (.slice none 0 0):=T3x.b2.cell 7;have rf_7:W3.frozen? ⟨w.heap.size+1,7,none⟩=false:=T3x.b2.frozen 7;have r_8:W3.cell? ⟨w.heap.size+1,8,none⟩=some (.slice none 0 0):=T3x.b2.cell 8;have rf_8:W3.frozen? ⟨w.heap.size+1,8,none⟩=false:=T3x.b2.frozen 8;have HB:=hid T3x.bel;have zz:=T3x.b2.lt;clear T3x;go_wp2;refine bodyPost_ret (v:=.agg (rwR d bo6 bcap6 bo7 bcap7 bo8 bcap8).toArray) (by simp [results,Tryz.results102,go_sem,r_0,y_0,r_1,y_1,r_2,y_2,r_3,y_3,r_4,y_4,r_5,y_5,r_6,y_6,r_7,y_7,r_8,y_8]) rfl ?_;have F:OwnT zac W3 (w.heap.size+1+1) w3.heap.size d ([.int .i64 d.kind]++([.int .i64 d.seq]++([.string d.name]++([.int .i64 d.length]++([.int .i64 d.group]++([.int .i64 d.row]++([.slice bo6 d.rows.1 bcap6]++([.slice bo7 d.data.1 bcap7]++[.slice bo8 d.delta.1 bcap8])))))))):=OwnT.conv (OwnT.pre (A:=layI) (a:=d.kind) (c:=[.int .i64 d.kind]) ⟨rfl,Q0.out,rfl⟩ (OwnT.pre (A:=layI) (a:=d.seq) (c:=[.int .i64 d.seq]) ⟨rfl,Q1.out,rfl⟩ (OwnT.pre (A:=layS) (a:=d.name) (c:=[.string d.name]) ⟨rfl,Q2.out,rfl⟩ (OwnT.pre (A:=layI) (a:=d.length) (c:=[.int .i64 d.length]) ⟨rfl,Q3.out,rfl⟩ (OwnT.pre (A:=layI) (a:=d.group) (c:=[.int .i64 d.group]) ⟨rfl,Q4.out,rfl⟩ (OwnT.pre (A:=layI) (a:=d.row) (c:=[.int .i64 d.row]) ⟨rfl,Q5.out,rfl⟩ (OwnT.two O6.out (OwnT.two O7.out O8.out (by omega) (by omega) (by omega)) (by omega) (by omega) (by omega))))))))
 refine ⟨(rwR d bo6 bcap6 bo7 bcap7 bo8 bcap8),rfl,?_,?_⟩
 ·exact OwnT.finb (F.weaken (Nat.le_refl _) (by omega)) (b:=w.heap.size+1) (by omega) (by omega) 0 (rwR d bo6 bcap6 bo7 bcap7 bo8 bcap8) _ rfl
 ·exact HB.out.trans (zaK (by omega) (rwR d bo6 bcap6 bo7 bcap7 bo8 bcap8) 0)
set_option maxRecDepth 20000 in
theorem zgI:ToF (zac.slice 56) (szSl zaH) 152 102:=fun v d hi w h hhi hn=>by
 obtain ⟨n,x⟩:=d;obtain ⟨ao,cap,hv,hm,hc⟩:=h
 cases hv
 have hn1:=zb1 hn;have hn2:∀ i,i<n→zaH (x i)≤1048576:=fun i hi=>zbf hn hi
 simp only at hn1 hm hc
 clear hn
 go_enter Tryz.func152,Tryz.ntmps152
 go_wp2_with (at_make;refine zbM zac [.int .i64 0,.int .i64 0,.string ByteArray.empty,.int .i64 0,.int .i64 0,.int .i64 0,.slice none 0 0,.slice none 0 0,.slice none 0 0] _ 56 128 (zg7).hs rfl Tryz.underlying98 (zg7).hi x (fun _=>[]) _ rfl _ _ rfl _ _ n rfl rfl rfl rfl (by omega) (by omega) ?_;intro w1 sp1 hb1)
 go_loopw [12] (fun i wr=>∃ k:Nat,k≤n∧i=.int .i64 k∧∃ ce Ls,SlP zac 56 wr w.heap.size w.heap.size n n k x ce Ls∧Below w.heap.size w wr) (fun i _=>n-(intOf i).toNat)
 case atStart=>exact ⟨0,Nat.zero_le _,rfl,_,_,sp1,hb1⟩
 case round=>
  clear sp1 hb1;obtain ⟨k,hk,rfl,ce,Ls,sp,hb⟩:=hrel
  by_cases hlt:k<n
  ·obtain ⟨b,off,rfl,hblt,hel⟩:=hc (by omega)
   obtain ⟨ck,hrk,hcell⟩:=zas (t:=0) hel hb hhi hblt hlt;obtain ⟨ao6,cap6,ao7,cap7,ao8,cap8,rfl,-⟩:=zbd hrk;have c0:wr.cell? ⟨b,off+k*9,none⟩=some (.int .i64 (x k).kind):=hcell 0 (by decide);have c1:wr.cell? ⟨b,off+k*9+1,none⟩=some (.int .i64 (x k).seq):=hcell 1 (by decide);have c2:wr.cell? ⟨b,off+k*9+2,none⟩=some (.string (x k).name):=hcell 2 (by decide);have c3:wr.cell? ⟨b,off+k*9+3,none⟩=some (.int .i64 (x k).length):=hcell 3 (by decide);have c4:wr.cell? ⟨b,off+k*9+4,none⟩=some (.int .i64 (x k).group):=hcell 4 (by decide);have c5:wr.cell? ⟨b,off+k*9+5,none⟩=some (.int .i64 (x k).row):=hcell 5 (by decide);have c6:wr.cell? ⟨b,off+k*9+6,none⟩=some (.slice ao6 (x k).rows.1 cap6):=hcell 6 (by decide);have c7:wr.cell? ⟨b,off+k*9+7,none⟩=some (.slice ao7 (x k).data.1 cap7):=hcell 7 (by decide);have c8:wr.cell? ⟨b,off+k*9+8,none⟩=some (.slice ao8 (x k).delta.1 cap8):=hcell 8 (by decide);clear hc hel hcell
   go_wp2_with fail
   refine (zeC _ (x k) hi wr hrk (Nat.le_trans hhi hb.size) (hn2 k hlt)).mono ?_;rintro e w2 ⟨cs',rfl,o2,hb2⟩;obtain ⟨bao6,bcap6,bao7,bcap7,bao8,bcap8,rfl⟩:=zdM o2;obtain ⟨z0,s0⟩:=sp.some hb2 hlt (show 0<zac.sz by decide);have s0:w2.cell? ⟨w.heap.size,k*9,none⟩=some z0:=s0;have sf0:=(sp.below hb2).frozen (k*9);obtain ⟨z1,s1⟩:=sp.some hb2 hlt (show 1<zac.sz by decide);have s1:w2.cell? ⟨w.heap.size,k*9+1,none⟩=some z1:=s1;have sf1:=(sp.below hb2).frozen (k*9+1);obtain ⟨z2,s2⟩:=sp.some hb2 hlt (show 2<zac.sz by decide);have s2:w2.cell? ⟨w.heap.size,k*9+2,none⟩=some z2:=s2;have sf2:=(sp.below hb2).frozen (k*9+2);obtain ⟨z3,s3⟩:=sp.some hb2 hlt (show 3<zac.sz by decide);have s3:w2.cell? ⟨w.heap.size,k*9+3,none⟩=some z3:=s3;have sf3:=(sp.below hb2).frozen (k*9+3);obtain ⟨z4,s4⟩:=sp.some hb2 hlt (show 4<zac.sz by decide);have s4:w2.cell? ⟨w.heap.size,k*9+4,none⟩=some z4:=s4;have sf4:=(sp.below hb2).frozen (k*9+4);obtain ⟨z5,s5⟩:=sp.some hb2 hlt (show 5<zac.sz by decide);have s5:w2.cell? ⟨w.heap.size,k*9+5,none⟩=some z5:=s5;have sf5:=(sp.below hb2).frozen (k*9+5);obtain ⟨z6,s6⟩:=sp.some hb2 hlt (show 6<zac.sz by decide);have s6:w2.cell? ⟨w.heap.size,k*9+6,none⟩=some z6:=s6;have sf6:=(sp.below hb2).frozen (k*9+6);obtain ⟨z7,s7⟩:=sp.some hb2 hlt (show 7<zac.sz by decide);have s7:w2.cell? ⟨w.heap.size,k*9+7,none⟩=some z7:=s7;have sf7:=(sp.below hb2).frozen (k*9+7);obtain ⟨z8,s8⟩:=sp.some hb2 hlt (show 8<zac.sz by decide);have s8:w2.cell? ⟨w.heap.size,k*9+8,none⟩=some z8:=s8;have sf8:=(sp.below hb2).frozen (k*9+8);have N:=sp.next hb2 hlt o2 hb.size;have N2:Below w.heap.size w (stN w2 w.heap.size (k*zac.sz) [.int .i64 (x k).kind,.int .i64 (x k).seq,.string (x k).name,.int .i64 (x k).length,.int .i64 (x k).group,.int .i64 (x k).row,.slice bao6 (x k).rows.1 bcap6,.slice bao7 (x k).data.1 bcap7,.slice bao8 (x k).delta.1 bcap8]):=(hb.trans (hb2.mono hb.size)).trans (zaK (Nat.le_refl _) _ _);clear o2 hb2 sp hb
   go_wp2_with fail
   go_roundw
   case rel=>
    obtain ⟨ce',Ls',N⟩:=N;exact ⟨k+1,by omega,by go_num,ce',Ls',N,N2⟩
   case measure=>simp [intOf];omega
  ·obtain rfl:k=n:=by omega
   go_wp2;go_ret;exact ⟨_,rfl,sp.done (Nat.le_refl _),hb⟩
set_option maxRecDepth 20000 in
theorem zgJ:ToV zag zaN 121:=fun cs d hi w r hhi hn=>by
 obtain ⟨ao1,cap1,rfl,h1⟩:=za1 r;clear r;unfold zaN at hn;have R1:=hid h1;clear h1;have T0:=zay w #[.bool d.wiped,.slice ao1 d.recs.1 cap1] #[.bool false,.slice none 0 0] 100 100
 go_enter Tryz.func121,Tryz.ntmps121
 go_wp2_with fail
 refine (zgI _ d.recs hi _ ((zac.slice 56).rd_below R1.out T0.bel hhi) (Nat.le_trans hhi T0.bel.size) (by omega)).mono ?_;rintro e w1 ⟨v0,rfl,o0,b0⟩;obtain ⟨bo1,bcap1,hv⟩:=zbA o0;obtain rfl:=zaL hv;clear hv;have T0c:=T0.call b0;have z0:=T0.b2.lt;have y0:=b0.size;have c0_1:w1.cell? ⟨w.heap.size,1,none⟩=some (.slice ao1 d.recs.1 cap1):=T0c.b1.cell 1;have c0f_1:w1.frozen? ⟨w.heap.size,1,none⟩=false:=T0c.b1.frozen 1;have T1x:Two w (w1.setCell ⟨w.heap.size,1,none⟩ (.slice bo1 d.recs.1 bcap1)) #[.bool d.wiped,.slice bo1 d.recs.1 bcap1] #[.bool false,.slice none 0 0] 100 100:=⟨T0c.b1.stL [.slice bo1 d.recs.1 bcap1] 1,T0c.b2.seto _ _ (by omega),T0c.bel.setCell (Nat.le_refl _) _⟩;have O1_0:=(o0.stN w.heap.size 1 [.slice bo1 d.recs.1 bcap1] (by omega))
 have e1:(w1.setCell ⟨w.heap.size,1,none⟩ (.slice bo1 d.recs.1 bcap1)).heap.size=w1.heap.size:=by simp
 clear o0 b0
 go_upto_region 2 with fail
 obtain ⟨W1,hW1⟩:∃ x,x=w1.setCell ⟨w.heap.size,1,none⟩ (.slice bo1 d.recs.1 bcap1):=⟨_,rfl⟩
 have O1:Hid (OwnT (zac.slice 56) W1 (w.heap.size+1+1) (w1.heap.size) d.recs [.slice bo1 d.recs.1 bcap1]):=by rw [hW1];exact OwnT.weaken O1_0 (by simp) (Nat.le_refl _)
 rw [← hW1] at T1x e1 ⊢;clear hW1 O1_0 T0c c0_1 c0f_1;have y_0:W1.cell? ⟨w.heap.size,0,none⟩=some (.bool d.wiped):=T1x.b1.cell 0;have y_1:W1.cell? ⟨w.heap.size,1,none⟩=some (.slice bo1 d.recs.1 bcap1):=T1x.b1.cell 1;have r_0:W1.cell? ⟨w.heap.size+1,0,none⟩=some (.bool false):=T1x.b2.cell 0;have rf_0:W1.frozen? ⟨w.heap.size+1,0,none⟩=false:=T1x.b2.frozen 0;have r_1:W1.cell? ⟨w.heap.size+1,1,none⟩=some (.slice none 0 0):=T1x.b2.cell 1;have rf_1:W1.frozen? ⟨w.heap.size+1,1,none⟩=false:=T1x.b2.frozen 1;have HB:=hid T1x.bel;have zz:=T1x.b2.lt;clear T1x;go_wp2;refine bodyPost_ret (v:=.agg #[.bool d.wiped,.slice bo1 d.recs.1 bcap1]) (by simp [results,Tryz.results121,go_sem,r_0,y_0,r_1,y_1]) rfl ?_;have F:OwnT zag W1 (w.heap.size+1+1) w1.heap.size d ([.bool d.wiped]++[.slice bo1 d.recs.1 bcap1]):=OwnT.conv (OwnT.pre (A:=layB) (a:=d.wiped) (c:=[.bool d.wiped]) ⟨rfl,trivial,rfl⟩ O1.out);refine ⟨[.bool d.wiped,.slice bo1 d.recs.1 bcap1],rfl,?_,?_⟩
 ·exact OwnT.finb (F.weaken (Nat.le_refl _) (by omega)) (b:=w.heap.size+1) (by omega) (by omega) 0 [.bool d.wiped,.slice bo1 d.recs.1 bcap1] _ rfl
 ·exact HB.out.trans (zaK (by omega) [.bool d.wiped,.slice bo1 d.recs.1 bcap1] 0)
set_option maxRecDepth 20000 in
theorem zfS:ToF (zag.slice 100) (szSl zaN) 120 121:=fun v d hi w h hhi hn=>by
 obtain ⟨n,x⟩:=d;obtain ⟨ao,cap,hv,hm,hc⟩:=h
 cases hv
 have hn1:=zb1 hn;have hn2:∀ i,i<n→zaN (x i)≤1048576:=fun i hi=>zbf hn hi
 simp only at hn1 hm hc
 clear hn
 go_enter Tryz.func120,Tryz.ntmps120
 go_wp2_with (at_make;refine zbM zag [.bool false,.slice none 0 0] _ 100 32 (zgs).hs rfl Tryz.underlying36 (zgs).hi x (fun _=>[]) _ rfl _ _ rfl _ _ n rfl rfl rfl rfl (by omega) (by omega) ?_;intro w1 sp1 hb1)
 go_loopw [12] (fun i wr=>∃ k:Nat,k≤n∧i=.int .i64 k∧∃ ce Ls,SlP zag 100 wr w.heap.size w.heap.size n n k x ce Ls∧Below w.heap.size w wr) (fun i _=>n-(intOf i).toNat)
 case atStart=>exact ⟨0,Nat.zero_le _,rfl,_,_,sp1,hb1⟩
 case round=>
  clear sp1 hb1;obtain ⟨k,hk,rfl,ce,Ls,sp,hb⟩:=hrel
  by_cases hlt:k<n
  ·obtain ⟨b,off,rfl,hblt,hel⟩:=hc (by omega)
   obtain ⟨ck,hrk,hcell⟩:=zas (t:=0) hel hb hhi hblt hlt;obtain ⟨ao1,cap1,rfl,-⟩:=za1 hrk;have c0:wr.cell? ⟨b,off+k*2,none⟩=some (.bool (x k).wiped):=hcell 0 (by decide);have c1:wr.cell? ⟨b,off+k*2+1,none⟩=some (.slice ao1 (x k).recs.1 cap1):=hcell 1 (by decide);clear hc hel hcell
   go_wp2_with fail
   refine (zgJ _ (x k) hi wr hrk (Nat.le_trans hhi hb.size) (hn2 k hlt)).mono ?_;rintro e w2 ⟨cs',rfl,o2,hb2⟩;obtain ⟨bao1,bcap1,rfl⟩:=zes o2;obtain ⟨z0,s0⟩:=sp.some hb2 hlt (show 0<zag.sz by decide);have s0:w2.cell? ⟨w.heap.size,k*2,none⟩=some z0:=s0;have sf0:=(sp.below hb2).frozen (k*2);obtain ⟨z1,s1⟩:=sp.some hb2 hlt (show 1<zag.sz by decide);have s1:w2.cell? ⟨w.heap.size,k*2+1,none⟩=some z1:=s1;have sf1:=(sp.below hb2).frozen (k*2+1);have N:=sp.next hb2 hlt o2 hb.size;have N2:Below w.heap.size w (stN w2 w.heap.size (k*zag.sz) [.bool (x k).wiped,.slice bao1 (x k).recs.1 bcap1]):=(hb.trans (hb2.mono hb.size)).trans (zaK (Nat.le_refl _) _ _);clear o2 hb2 sp hb
   go_wp2_with fail
   go_roundw
   case rel=>
    obtain ⟨ce',Ls',N⟩:=N;exact ⟨k+1,by omega,by go_num,ce',Ls',N,N2⟩
   case measure=>simp [intOf];omega
  ·obtain rfl:k=n:=by omega
   go_wp2;go_ret;exact ⟨_,rfl,sp.done (Nat.le_refl _),hb⟩
def zfT (x:TapeD) (r:RecD):TapeD:=⟨false,(x.recs.1+1,upd x.recs.2 x.recs.1 r)⟩
def zcb (d:WorldD) (T:Nat) (r:RecD):WorldD:={ d with tapes:=(d.tapes.1,upd d.tapes.2 T (zfT (d.tapes.2 T) r)) }
theorem zii {α:Type} {E:Lay α} {t:TypeId} {w:World} {p:Nat×(Nat→α)} {v:Value} {K:List Nat} (h:(E.slice t).own w p [v] K):∃ ao cap,v=.slice ao p.1 cap:=by
 obtain ⟨v',ce,Ls,e,_,hr,_⟩:=h
 cases e
 rcases hr.2 with ⟨rfl,h0⟩ | ⟨g,cap,cur,rfl,_⟩
 ·exact ⟨none,0,by rw [h0]⟩
 ·exact ⟨_,_,rfl⟩
theorem zd9 {α:Type} {E:Lay α} {T e:TypeId} {by_:Nat} {zs:List Value} (I:ElInfo E T e by_ zs) (ty:TypeId) {w0 W:World} {n:Nat} {v:Value} {x:Nat→α} {L:List Nat} (h:(E.slice e).own w0 (n,x) [v] L) (nd:L.Nodup) (hW:Below w0.heap.size w0 W) {d:α} {cs:List Value} {La:List Nat} (ha:E.own W d cs La) (hnd:La.Nodup) (hLa:∀ b,b∈La→w0.heap.size≤b) (b c:Nat) (hcell:∀ j,j<E.sz→W.cell? ⟨b,j,none⟩=cs[j]?) (hn:n≤10000000) :
 ∃ ao cap w' L',(Builtin.append_ #[T,T] ty #[v,.slice (some ⟨b,0,none⟩) 1 c]).run Tryz.prog W=.ok (.slice ao (n+1) cap) w'∧Turn (E.slice e) w0 L w' (n+1,upd x n d) [.slice ao (n+1) cap] L':=by
 obtain ⟨v',w',L',hr,ht⟩:=zek I ty h nd hW ha hnd hLa b c hcell hn;obtain ⟨ao,cap,rfl⟩:=zii ht.own;exact ⟨ao,cap,w',L',hr,ht⟩
theorem zeD {w:World} {lo hi:Nat} {r:RecD} {cs:List Value} (h:OwnT zac w lo hi r cs):∃ s6 m6 s7 m7 s8 m8,cs=[.int .i64 r.kind,.int .i64 r.seq,.string r.name,.int .i64 r.length,.int .i64 r.group,.int .i64 r.row,.slice s6 r.rows.1 m6,.slice s7 r.data.1 m7,.slice s8 r.delta.1 m8]:=by
 obtain ⟨M,h1,_⟩:=h;obtain ⟨a,b,c,e,f,g,K6,K7,K8,rfl,_⟩:=zdL h1;exact ⟨a,b,c,e,f,g,rfl⟩
theorem zij {w0 W:World} {p:Nat×(Nat→RecD)} {v:Value} {K9:List Nat} (o9:(zac.slice 56).own w0 p [v] K9) (nd9:K9.Nodup) (hn:p.1≤10000000) (hW:Below w0.heap.size w0 W) {r:RecD} {cs:List Value} {La:List Nat} (ha:zac.own W r cs La) (hnd:La.Nodup) (hLa:∀ b,b∈La→w0.heap.size≤b) (b:Nat) (hcell:∀ j,W.cell? ⟨b,j,none⟩=cs[j]?) :
 ∃ ao cap w' L',(Builtin.append_ #[98,98] 98 #[v,.slice (some ⟨b,0,none⟩) 1 1]).run Tryz.prog W=.ok (.slice ao (p.1+1) cap) w'∧Turn (zac.slice 56) w0 K9 w' (p.1+1,upd p.2 p.1 r) [.slice ao (p.1+1) cap] L':=
 zd9 zg7 98 o9 nd9 hW ha hnd hLa b 1 (fun j _=>hcell j) hn
set_option maxRecDepth 20000 in
theorem zfU (E:Nat) (d:WorldD) (cs:List Value) (K:List Nat) (q0 q1 T:Nat) (r:RecD) (o6 o7 o8:Option Addr) (k6 k7 k8 hi:Nat) (hT:T<d.tapes.1) (hn:(d.tapes.2 T).recs.1≤10000000) (w:World) (hX:Box w E (([.int .i32 1,.int .u32 0,.int .u32 0,.int .i32 0,.int .u32 0]:List Value)++cs).toArray 127) (hO:EncO w E d cs K) (h0:w.cell? ⟨q0,0,none⟩=some (.int .i64 (T:Int))) (h1:Box w q1 #[.int .i64 r.kind,.int .i64 r.seq,.string r.name,.int .i64 r.length,.int .i64 r.group,.int .i64 r.row,.slice o6 r.rows.1 k6,.slice o7 r.data.1 k7,.slice o8 r.delta.1 k8] 56) (hr:zac.rd w hi r [.int .i64 r.kind,.int .i64 r.seq,.string r.name,.int .i64 r.length,.int .i64 r.group,.int .i64 r.row,.slice o6 r.rows.1 k6,.slice o7 r.data.1 k7,.slice o8 r.delta.1 k8]) (hhi:hi≤w.heap.size) (hsz:zaH r≤1048576) (l0:q0<w.heap.size∧q0∉K) (l1:q1∉K) :
 Calls Tryz.prog 101 #[.pointer (some ⟨E,5,none⟩),.pointer (some ⟨q0,0,none⟩),.pointer (some ⟨q1,0,none⟩)] w fun e w'=>e=.returned (.tuple #[])∧∃ cs' K',Box w' E (([.int .i32 1,.int .u32 0,.int .u32 0,.int .i32 0,.int .u32 0]:List Value)++cs').toArray 127∧EncO w' E (zcb d T r) cs' K'∧(∀ b,b∈K'→b∈K∨w.heap.size≤b)∧ChgL (E::K) w w':=by
 have O0:EncO w.drew E d cs K:=hO.chg (ChgL.refl [E] _).drew;obtain ⟨p1,c1,p2,c2,p3,c3,K1,K2,K3,rfl,rfl,WO⟩:=O0.open;obtain ⟨gt,cap,ce,Ls,e3,eL,S3⟩:=zbI WO.t (by omega)
 simp only [List.cons.injEq,Value.slice.injEq,and_true,true_and] at e3
 obtain ⟨rfl,rfl⟩:=e3;subst eL;have nd3:(gt::catN d.tapes.1 Ls).Nodup:=(List.nodup_append.1 (List.nodup_append.1 WO.nd).2.1).2.1;obtain ⟨ao9,cap9,K9,e9,eK9,o9⟩:=zdA (S3.each T hT)
 have nd9:K9.Nodup:=by rw [← eK9];exact zd1 (List.nodup_cons.1 nd3).2 hT
 have in9:∀ b,b∈K9→b∈gt::catN d.tapes.1 Ls:=fun b hb=>SlO.sub T hT b (by rw [eK9];exact hb);have inK:∀ b,b∈gt::catN d.tapes.1 Ls→b∈K1++(K2++(gt::catN d.tapes.1 Ls)):=fun b hb=>List.mem_append_right _ (List.mem_append_right _ hb);have hE9:E∉K9:=fun hb=>hO.ne (inK _ (in9 _ hb));have hgt:gt∉K9:=fun hb=>(List.nodup_cons.1 nd3).1 (zaA.2 ⟨T,hT,by rw [eK9];exact hb⟩);have x16:w.cell? ⟨E,16,none⟩=some (.slice (some ⟨gt,0,none⟩) d.tapes.1 c3):=hX.cell 16;have y0:w.drew.cell? ⟨gt,T*2,none⟩=some (.bool (d.tapes.2 T).wiped):=(S3.cell hT (j:=0) (by decide)).trans (by rw [e9];rfl);have y1:w.drew.cell? ⟨gt,T*2+1,none⟩=some (.slice ao9 (d.tapes.2 T).recs.1 cap9):=(S3.cell hT (j:=1) (by decide)).trans (by rw [e9];rfl);have hEl:=hX.lt;have hql:=h1.lt;have hgl:gt<w.drew.heap.size:=S3.lt;have KS:∀ w',ChgL K9 w.drew w'→(w'.cell? ⟨E,16,none⟩=some (.slice (some ⟨gt,0,none⟩) d.tapes.1 c3)∧w'.cell? ⟨q0,0,none⟩=some (.int .i64 (T:Int))∧w'.cell? ⟨gt,T*2+1,none⟩=some (.slice ao9 (d.tapes.2 T).recs.1 cap9)∧w'.cell? ⟨q1,0,none⟩=some (.int .i64 r.kind)∧w'.cell? ⟨q1,1,none⟩=some (.int .i64 r.seq)∧w'.cell? ⟨q1,2,none⟩=some (.string r.name)∧w'.cell? ⟨q1,3,none⟩=some (.int .i64 r.length)∧w'.cell? ⟨q1,4,none⟩=some (.int .i64 r.group)∧w'.cell? ⟨q1,5,none⟩=some (.int .i64 r.row)∧w'.cell? ⟨q1,6,none⟩=some (.slice o6 r.rows.1 k6)∧w'.cell? ⟨q1,7,none⟩=some (.slice o7 r.data.1 k7)∧w'.cell? ⟨q1,8,none⟩=some (.slice o8 r.delta.1 k8)):=fun w' hc=>⟨(World.cell?_of_block (hc.block E hEl hE9)).trans x16,(World.cell?_of_block (hc.block q0 l0.1 (fun hb=>l0.2 (inK _ (in9 _ hb))))).trans h0,(World.cell?_of_block (hc.block gt hgl hgt)).trans y1,(World.cell?_of_block (hc.block q1 hql (fun hb=>l1 (inK _ (in9 _ hb))))).trans (h1.cell 0),(World.cell?_of_block (hc.block q1 hql (fun hb=>l1 (inK _ (in9 _ hb))))).trans (h1.cell 1),(World.cell?_of_block (hc.block q1 hql (fun hb=>l1 (inK _ (in9 _ hb))))).trans (h1.cell 2),(World.cell?_of_block (hc.block q1 hql (fun hb=>l1 (inK _ (in9 _ hb))))).trans (h1.cell 3),(World.cell?_of_block (hc.block q1 hql (fun hb=>l1 (inK _ (in9 _ hb))))).trans (h1.cell 4),(World.cell?_of_block (hc.block q1 hql (fun hb=>l1 (inK _ (in9 _ hb))))).trans (h1.cell 5),(World.cell?_of_block (hc.block q1 hql (fun hb=>l1 (inK _ (in9 _ hb))))).trans (h1.cell 6),(World.cell?_of_block (hc.block q1 hql (fun hb=>l1 (inK _ (in9 _ hb))))).trans (h1.cell 7),(World.cell?_of_block (hc.block q1 hql (fun hb=>l1 (inK _ (in9 _ hb))))).trans (h1.cell 8)⟩
 have CC:=(zeC (rwR r o6 k6 o7 k7 o8 k8) r hi w.drew (zac.rd_below (B:=w.heap.size) hr ⟨rfl,rfl,rfl,Nat.le_refl _,fun _ _=>rfl⟩ hhi) hhi hsz).mono (R':=fun e w'=>∃ s6 m6 s7 m7 s8 m8,e=.returned (.agg (rwR r s6 m6 s7 m7 s8 m8).toArray)∧OwnT zac w' w.drew.heap.size w'.heap.size r (rwR r s6 m6 s7 m7 s8 m8)∧Below w.drew.heap.size w.drew w') (fun e w' ⟨cs',he,o5,b5⟩=>by
  obtain ⟨s6,m6,s7,m7,s8,m8,rfl⟩:=zeD o5
  exact ⟨s6,m6,s7,m7,s8,m8,he,o5,b5⟩)
 have AP:=fun (W:World) (hW:Below w.drew.heap.size w.drew W) (La:List Nat) (cs:List Value) (ha:zac.own W r cs La)=>zij o9 nd9 hn hW ha
 have i1:(0:Int)≤(T:Int):=by omega
 have i2:(T:Int)<(d.tapes.1:Int):=by omega
 have HX:Hid (Box w.drew E #[.int .i32 1,.int .u32 0,.int .u32 0,.int .i32 0,.int .u32 0,.int .i64 (d.shape 0),.int .i64 (d.shape 1),.int .i64 (d.shape 2),.int .i64 (d.shape 3),.int .i64 (d.shape 4),.int .i64 (d.shape 5),.int .i64 (d.shape 6),.int .i64 (d.shape 7),.int .i64 (d.shape 8),.slice p1 d.groups.1 c1,.slice p2 d.on.1 c2,.slice (some ⟨gt,0,none⟩) d.tapes.1 c3,.int .i64 d.writes,.int .i64 d.stop,.bool d.down] 127):=hX;have HNE:Hid (E∉K1++(K2++(gt::catN d.tapes.1 Ls))):=hO.ne;clear hX hO O0 h1
 go_enter Tryz.func101,Tryz.ntmps101
 go_upto_region 0 with fail
 refine zbb 19 (fun w'=>w'.cell? ⟨E,16,none⟩=some (.slice (some ⟨gt,0,none⟩) d.tapes.1 c3)∧w'.cell? ⟨q0,0,none⟩=some (.int .i64 (T:Int))∧w'.cell? ⟨gt,T*2+1,none⟩=some (.slice ao9 (d.tapes.2 T).recs.1 cap9)∧w'.cell? ⟨q1,0,none⟩=some (.int .i64 r.kind)∧w'.cell? ⟨q1,1,none⟩=some (.int .i64 r.seq)∧w'.cell? ⟨q1,2,none⟩=some (.string r.name)∧w'.cell? ⟨q1,3,none⟩=some (.int .i64 r.length)∧w'.cell? ⟨q1,4,none⟩=some (.int .i64 r.group)∧w'.cell? ⟨q1,5,none⟩=some (.int .i64 r.row)∧w'.cell? ⟨q1,6,none⟩=some (.slice o6 r.rows.1 k6)∧w'.cell? ⟨q1,7,none⟩=some (.slice o7 r.data.1 k7)∧w'.cell? ⟨q1,8,none⟩=some (.slice o8 r.delta.1 k8)) (by kernel_rfl) (KS _ (ChgL.refl _ _)) (fun hHeld=>?_);refine zjd 0 rfl ?_
 try simp only [Act.put,SL]
 refine zjd 1 rfl ?_
 try simp only [Act.put,SL]
 refine zjd 2 rfl ?_
 try simp only [Act.put,SL]
 refine zjd 3 rfl ?_
 try simp only [Act.put,SL]
 refine zjd 4 rfl ?_
 try simp only [Act.put,SL]
 refine zjd 5 rfl ?_
 try simp only [Act.put,SL]
 refine zjd 6 rfl ?_
 try simp only [Act.put,SL]
 refine zjd 7 rfl ?_
 try simp only [Act.put,SL]
 refine zjd 8 rfl ?_
 try simp only [Act.put,SL]
 refine zjd 9 rfl ?_
 try simp only [Act.put,SL]
 refine zjd 10 rfl ?_
 try simp only [Act.put,SL]
 refine zjd 11 rfl ?_
 try simp only [Act.put,SL]
 refine zjd 12 rfl ?_
 try simp only [Act.put,SL]
 refine zjd 13 rfl ?_
 try simp only [Act.put,SL]
 refine zam (i:=14) (o:=_) rfl (by kernel_rfl) (fun KC hKC=>?_)
 refine zaw rfl 102 _ _ rfl #[.agg (rwR r o6 k6 o7 k7 o8 k8).toArray] ?_ Tryz.func102 (by kernel_rfl) (by kernel_rfl) CC ?_;(simp [Act.eval,Act.put]);rintro ee w5 ⟨s6,m6,s7,m7,s8,m8,rfl,o5,b5⟩;have k5:=KS w5 (ChgL.of_below b5);have bA:=bAl w5 (.cells (rwR r s6 m6 s7 m7 s8 m8).toArray 56);have kA:=KS _ (ChgL.of_below (b5.trans (bA.mono b5.size)));obtain ⟨La,a1,a2,a3⟩:=o5;have e1:Below w.drew.heap.size w.drew (w5.alloc (.cells (rwR r s6 m6 s7 m7 s8 m8).toArray 56)):=b5.trans (bA.mono b5.size);have e2:zac.own (w5.alloc (.cells (rwR r s6 m6 s7 m7 s8 m8).toArray 56)) r (rwR r s6 m6 s7 m7 s8 m8) La:=zac.own_kept a1 (fun b hb=>bA.block b (a3 b hb).2);have e3:∀ b,b∈La→w.drew.heap.size≤b:=fun b hb=>(a3 b hb).1;have e4:=zb4 w5 (rwR r s6 m6 s7 m7 s8 m8) 56;have e5:=AP (w5.alloc (.cells (rwR r s6 m6 s7 m7 s8 m8).toArray 56)) e1 La (rwR r s6 m6 s7 m7 s8 m8) e2 a2 e3 w5.heap.size e4;clear e1 e2 e3 e4;obtain ⟨s9,m9,w6,L',hrun,TT⟩:=e5;have k6':=KS w6 TT.chg;have f0:w6.frozen? ⟨gt,T*2,none⟩=false:=(World.frozen?_of_block (a:=⟨gt,T*2,none⟩) (TT.chg.block gt S3.lt hgt)).trans (S3.frozen _);have f1:w6.frozen? ⟨gt,T*2+1,none⟩=false:=(World.frozen?_of_block (a:=⟨gt,T*2+1,none⟩) (TT.chg.block gt S3.lt hgt)).trans (S3.frozen _);have t0:w6.cell? ⟨gt,T*2,none⟩=some (.bool (d.tapes.2 T).wiped):=(World.cell?_of_block (a:=⟨gt,T*2,none⟩) (TT.chg.block gt S3.lt hgt)).trans y0;have t1:w6.cell? ⟨gt,T*2+1,none⟩=some (.slice ao9 (d.tapes.2 T).recs.1 cap9):=k6'.2.2.1;refine ⟨_,rfl,?_⟩
 refine hKC.out _ _ (k5) (fun hHeld=>?_);clear hKC KC
 try simp only [Act.put,SL]
 refine zam (i:=15) (o:=_) rfl (by kernel_rfl) (fun KC hKC=>?_);go_simp;refine hKC.out _ _ (kA) (fun hHeld=>?_);clear hKC KC
 try simp only [Act.put,SL]
 refine zam (i:=16) (o:=_) rfl (by kernel_rfl) (fun KC hKC=>?_)
 refine zd5 rfl (.tmp 16) (.tmp 19) rfl ?_ ?_ hrun ?_;(simp [Act.eval,Act.put]);(simp [Act.eval,Act.put])
 refine hKC.out _ _ (k6') (fun hHeld=>?_);clear hKC KC
 try simp only [Act.put,SL]
 refine zjd 17 rfl ?_
 try simp only [Act.put,SL]
 refine zjd 18 rfl ?_
 try simp only [Act.put,SL]
 refine zbk (o:=_) rfl (by kernel_rfl) (fun KC hKC=>?_);go_simp;refine hKC.out _ _ ?_;clear hKC KC
 try simp only [Act.put,SL]
 refine zbl (by kernel_rfl) ?_ _
 have TK:Turn zag w.drew (Ls T) w6 (zfT (d.tapes.2 T) r) [.bool false,(.slice s9 ((d.tapes.2 T).recs.1+1) m9)] L':=by
  rw [eK9];exact ⟨zeG (zfT (d.tapes.2 T) r) TT.own,TT.nd,TT.sub,TT.chg⟩
 have T7:=S3.turn_at nd3 hT TK (w':=(stN w6 gt (T*zag.sz) [.bool false,(.slice s9 ((d.tapes.2 T).recs.1+1) m9)])) rfl;have WO7:=WO.tapes (Nat.le_refl _) (Nat.zero_le _) T7;have hin:∀ b,b∈gt::catN d.tapes.1 Ls→b≠E:=fun b hb he=>HNE.out (by rw [← he];exact inK b hb);have X7:=HX.out.chgl T7.chg (fun hb=>hin E hb rfl)
 have sub7:∀ b,b∈K1++(K2++(gt::catN d.tapes.1 (upd Ls T L')))→b∈K1++(K2++(gt::catN d.tapes.1 Ls))∨w.heap.size≤b:=fun b hb=>by
  rcases List.mem_append.1 hb with h | h
  ·exact .inl (List.mem_append_left _ h)
  ·rcases List.mem_append.1 h with h | h
   ·exact .inl (List.mem_append_right _ (List.mem_append_left _ h))
   ·rcases T7.sub b h with h | h
    ·exact .inl (inK b h)
    ·exact .inr h.1
 have hE7:E∉K1++(K2++(gt::catN d.tapes.1 (upd Ls T L'))):=fun hm=>by
  rcases sub7 E hm with h | h
  ·exact HNE.out h
  ·omega
 have HO7:Hid (EncO (stN w6 gt (T*zag.sz) [.bool false,(.slice s9 ((d.tapes.2 T).recs.1+1) m9)]) E (zcb d T r) (rwW d p1 c1 p2 c2 (some ⟨gt,0,none⟩) c3) (K1++(K2++((gt::catN d.tapes.1 (upd Ls T L'))++[])))):=WO7.encO hE7;have HC7:Hid (ChgL (E::(K1++(K2++(gt::catN d.tapes.1 Ls)))) w (stN w6 gt (T*zag.sz) [.bool false,(.slice s9 ((d.tapes.2 T).recs.1+1) m9)])):=((ChgL.refl _ w).drew).trans (T7.chg.mono (fun b hb=>List.mem_cons_of_mem _ (inK b hb)));have HX7:Hid (Box (stN w6 gt (T*zag.sz) [.bool false,(.slice s9 ((d.tapes.2 T).recs.1+1) m9)]) E #[.int .i32 1,.int .u32 0,.int .u32 0,.int .i32 0,.int .u32 0,.int .i64 (d.shape 0),.int .i64 (d.shape 1),.int .i64 (d.shape 2),.int .i64 (d.shape 3),.int .i64 (d.shape 4),.int .i64 (d.shape 5),.int .i64 (d.shape 6),.int .i64 (d.shape 7),.int .i64 (d.shape 8),.slice p1 d.groups.1 c1,.slice p2 d.on.1 c2,.slice (some ⟨gt,0,none⟩) d.tapes.1 c3,.int .i64 d.writes,.int .i64 d.stop,.bool d.down] 127):=X7;have HS:Hid (∀ b,b∈K1++(K2++((gt::catN d.tapes.1 (upd Ls T L'))++[]))→b∈K1++(K2++(gt::catN d.tapes.1 Ls))∨w.heap.size≤b):=fun b hb=>sub7 b (by simpa using hb);clear X7 WO7 T7 TK TT WO S3 CC KS sub7 hE7 hin k5 kA k6' hrun o9 nd9 AP;go_wp2
 go_end0
 exact ⟨rfl,_,_,HX7.out,HO7.out,HS.out,HC7.out⟩
set_option maxRecDepth 100000 in
theorem zea (E:Nat) (v0 v1 v2 v3 v4 v5 v6 v7 v8 vp0 vl0 vq0 vp1 vl1 vq1 vp2 vl2 vq2 v9 v10 vb:_) (d d':WorldD) (K:List Nat) (q0 q1:Nat) (w:World) (hX:Box w E #[.int .i32 0,.int .u32 0,.int .u32 0,.int .i32 0,.int .u32 0,.int .i64 v0,.int .i64 v1,.int .i64 v2,.int .i64 v3,.int .i64 v4,.int .i64 v5,.int .i64 v6,.int .i64 v7,.int .i64 v8,.slice vp0 vl0 vq0,.slice vp1 vl1 vq1,.slice vp2 vl2 vq2,.int .i64 v9,.int .i64 v10,.bool vb] 127) (hO:EncO w E d [.int .i64 v0,.int .i64 v1,.int .i64 v2,.int .i64 v3,.int .i64 v4,.int .i64 v5,.int .i64 v6,.int .i64 v7,.int .i64 v8,.slice vp0 vl0 vq0,.slice vp1 vl1 vq1,.slice vp2 vl2 vq2,.int .i64 v9,.int .i64 v10,.bool vb] K) (hpw:¬ (v10≠-1∧v10≤v9)) (hwr:-9223372036854775808≤d'.writes∧d'.writes+1≤9223372036854775807)
 (hch:∀ W,Box W E #[.int .i32 1,.int .u32 0,.int .u32 0,.int .i32 0,.int .u32 0,.int .i64 v0,.int .i64 v1,.int .i64 v2,.int .i64 v3,.int .i64 v4,.int .i64 v5,.int .i64 v6,.int .i64 v7,.int .i64 v8,.slice vp0 vl0 vq0,.slice vp1 vl1 vq1,.slice vp2 vl2 vq2,.int .i64 v9,.int .i64 v10,.bool vb] 127→EncO W E d [.int .i64 v0,.int .i64 v1,.int .i64 v2,.int .i64 v3,.int .i64 v4,.int .i64 v5,.int .i64 v6,.int .i64 v7,.int .i64 v8,.slice vp0 vl0 vq0,.slice vp1 vl1 vq1,.slice vp2 vl2 vq2,.int .i64 v9,.int .i64 v10,.bool vb] K→ChgL [E] w W→Calls Tryz.prog 101 #[.pointer (some ⟨E,5,none⟩),.pointer (some ⟨q0,0,none⟩),.pointer (some ⟨q1,0,none⟩)] W fun e w'=>e=.returned (.tuple #[])∧∃ cs' K',Box w' E ([.int .i32 1,.int .u32 0,.int .u32 0,.int .i32 0,.int .u32 0]++cs').toArray 127∧EncO w' E d' cs' K'∧(∀ b,b∈K'→b∈K∨W.heap.size≤b)∧ChgL (E::K) W w') :
 Calls Tryz.prog 79 #[.pointer (some ⟨E,0,none⟩),.func (.func 101) #[] #[.pointer (some ⟨q0,0,none⟩),.pointer (some ⟨q1,0,none⟩)]] w fun e w'=>e=.returned (.tuple #[])∧∃ cs' K',Box w' E ([.int .i32 0,.int .u32 0,.int .u32 0,.int .i32 0,.int .u32 0]++cs').toArray 127∧EncO w' E { d' with writes:=d'.writes+1 } cs' K'∧(∀ b,b∈K'→b∈K∨w.heap.size≤b)∧ChgL (E::K) w w':=by
 have HWR:=hid hwr;have CH:=hid hch;have hO':=hid hO
 by_cases hs:v10=-1
 ·have d1:(v10 != -1)=false:=by simpa using hs
  clear hpw hwr hch hO hs;have hE:E<w.heap.size:=hX.lt;have hmf:∀ (fn:Fn) (first cap:Array Value) (w:World),(Instr.makeFunc fn first cap).run Tryz.prog w=.ok (.func fn first cap) w:=fun _ _ _ _=>rfl;have bA:=bAl w (.cells #[.pointer (some ⟨E,0,none⟩)] 87);have P1:=zaz w #[.pointer (some ⟨E,0,none⟩)] 87;have X1:=hX.below bA hE
  go_enter_defers Tryz.func79,Tryz.ntmps79
  go_upto_region 1 with fail
  obtain ⟨W1,hW1⟩:∃ x,x=w.alloc (.cells #[.pointer (some ⟨E,0,none⟩)] 87):=⟨_,rfl⟩;rw [← hW1] at bA P1 X1 ⊢
  have zW:W1.heap.size=w.heap.size+1:=by rw [hW1];simp
  clear hW1;have hp1:W1.cell? ⟨w.heap.size,0,none⟩=some (.pointer (some ⟨E,0,none⟩)):=P1.cell 0;have c0:W1.cell? ⟨E,0,none⟩=some (.int .i32 0):=X1.cell 0;have f0:W1.frozen? ⟨E,0,none⟩=false:=X1.frozen 0;have X2:Box (W1.setCell ⟨E,0,none⟩ (.int .i32 1)) E #[.int .i32 1,.int .u32 0,.int .u32 0,.int .i32 0,.int .u32 0,.int .i64 v0,.int .i64 v1,.int .i64 v2,.int .i64 v3,.int .i64 v4,.int .i64 v5,.int .i64 v6,.int .i64 v7,.int .i64 v8,.slice vp0 vl0 vq0,.slice vp1 vl1 vq1,.slice vp2 vl2 vq2,.int .i64 v9,.int .i64 v10,.bool vb] 127:=X1.setc 0 _;have P2:Box (W1.setCell ⟨E,0,none⟩ (.int .i32 1)) w.heap.size #[.pointer (some ⟨E,0,none⟩)] 87:=P1.seto 0 _ (by omega);have C2':ChgL [E] w (W1.setCell ⟨E,0,none⟩ (.int .i32 1)):=(ChgL.of_below bA).st _ 0 _ (by simp)
  go_upto_region 2 with (go_at_call 122;refine (zdC ⟨E,0,none⟩ _ c0 f0).mono ?_;rintro e w' ⟨rfl,rfl⟩)
  obtain ⟨W2,hW2⟩:∃ x,x=W1.setCell ⟨E,0,none⟩ (.int .i32 1):=⟨_,rfl⟩;rw [← hW2] at X2 P2 C2' ⊢
  have z2:W2.heap.size=w.heap.size+1:=by rw [hW2];simpa using zW
  clear hW2 hp1 c0 f0 X1 P1 bA hX;have hp2:W2.cell? ⟨w.heap.size,0,none⟩=some (.pointer (some ⟨E,0,none⟩)):=P2.cell 0;have x17:W2.cell? ⟨E,17,none⟩=some (.int .i64 v9):=X2.cell 17;have x18:W2.cell? ⟨E,18,none⟩=some (.int .i64 v10):=X2.cell 18
  go_upto_region 3 with fail
  go_quiet (fail)
  go_upto_region 6 with fail
  obtain ⟨W3,hW3⟩:∃ x,x=W2.drewN nq:=⟨_,rfl⟩;rw [← hW3]
  have X3:Box W3 E #[.int .i32 1,.int .u32 0,.int .u32 0,.int .i32 0,.int .u32 0,.int .i64 v0,.int .i64 v1,.int .i64 v2,.int .i64 v3,.int .i64 v4,.int .i64 v5,.int .i64 v6,.int .i64 v7,.int .i64 v8,.slice vp0 vl0 vq0,.slice vp1 vl1 vq1,.slice vp2 vl2 vq2,.int .i64 v9,.int .i64 v10,.bool vb] 127:=by rw [hW3];exact X2
  have P3:Box W3 w.heap.size #[.pointer (some ⟨E,0,none⟩)] 87:=by rw [hW3];exact P2
  have C3':ChgL [E] w W3:=by rw [hW3];exact ⟨C2'.os,C2'.tape,C2'.output,C2'.size,C2'.block⟩
  have z3:W3.heap.size=w.heap.size+1:=by rw [hW3];exact z2
  have hp3:W3.cell? ⟨w.heap.size,0,none⟩=some (.pointer (some ⟨E,0,none⟩)):=P3.cell 0;clear hW3 X2 P2 C2' z2 hp2 x17 x18;have O3:=hO'.out.chg C3'
  have CC:=(CH.out W3 X3 O3 C3').mono (R':=fun e w'=>e=.returned (.tuple #[])∧∃ y0 y1 y2 y3 y4 y5 y6 y7 y8 yp0 yl0 yq0 yp1 yl1 yq1 yp2 yl2 yq2 y9 y10 yb K',Box w' E #[.int .i32 1,.int .u32 0,.int .u32 0,.int .i32 0,.int .u32 0,.int .i64 y0,.int .i64 y1,.int .i64 y2,.int .i64 y3,.int .i64 y4,.int .i64 y5,.int .i64 y6,.int .i64 y7,.int .i64 y8,.slice yp0 yl0 yq0,.slice yp1 yl1 yq1,.slice yp2 yl2 yq2,.int .i64 y9,.int .i64 y10,.bool yb] 127∧EncO w' E d' (rwV y0 y1 y2 y3 y4 y5 y6 y7 y8 yp0 yl0 yq0 yp1 yl1 yq1 yp2 yl2 yq2 y9 y10 yb) K'∧(∀ b,b∈K'→b∈K∨W3.heap.size≤b)∧ChgL (E::K) W3 w') (fun e w' ⟨he,cs',K',hX',hO',hs',hC'⟩=>by
   obtain ⟨y0,y1,y2,y3,y4,y5,y6,y7,y8,yp0,yl0,yq0,yp1,yl1,yq1,yp2,yl2,yq2,y9,y10,yb,rfl⟩:=ze4 hO'.own
   exact ⟨he,y0,y1,y2,y3,y4,y5,y6,y7,y8,yp0,yl0,yq0,yp1,yl1,yq1,yp2,yl2,yq2,y9,y10,yb,K',hX',hO',hs',hC'⟩)
  have hKl:∀ b,b∈K→b<w.heap.size:=fun b hb=>zae.own_lt hO'.out.own b hb
  go_wp2_with (go_at_call 101;refine CC.mono ?_;rintro e w5 ⟨rfl,y0,y1,y2,y3,y4,y5,y6,y7,y8,yp0,yl0,yq0,yp1,yl1,yq1,yp2,yl2,yq2,y9,y10,yb,K5,X5,O5,s5,C5⟩;have P5:=P3.chgl C5 (by intro hm;rcases List.mem_cons.1 hm with h | h;omega;have:=hKl _ h;omega);have hp5:w5.cell? ⟨w.heap.size,0,none⟩=some (.pointer (some ⟨E,0,none⟩)):=P5.cell 0;have x17:w5.cell? ⟨E,17,none⟩=some (.int .i64 y9):=X5.cell 17;have f17:w5.frozen? ⟨E,17,none⟩=false:=X5.frozen 17;have HY9:=hid (zd8 O5.own);have zz:IntKind.i64.wrap (y9+1)=y9+1:=by rw [IntKind.wrap_i64];have:=HWR.out;have:=HY9.out;omega)
  refine leaves_cons (f:=123) (args:=#[.pointer (some ⟨E,0,none⟩)]) (by simp) (by simp [go_sem]) ?_;have X6:Box (w5.setCell ⟨E,17,none⟩ (.int .i64 (y9+1))) E #[.int .i32 1,.int .u32 0,.int .u32 0,.int .i32 0,.int .u32 0,.int .i64 y0,.int .i64 y1,.int .i64 y2,.int .i64 y3,.int .i64 y4,.int .i64 y5,.int .i64 y6,.int .i64 y7,.int .i64 y8,.slice yp0 yl0 yq0,.slice yp1 yl1 yq1,.slice yp2 yl2 yq2,.int .i64 (y9+1),.int .i64 y10,.bool yb] 127:=X5.setc 17 _;refine (zcm ⟨E,0,none⟩ _ _ (X6.cell 0) (X6.frozen 0)).mono ?_;rintro e u' w'' ⟨rfl,rfl,rfl⟩;have X7:Box ((w5.setCell ⟨E,17,none⟩ (.int .i64 (y9+1))).setCell ⟨E,0,none⟩ (.int .i32 0)) E #[.int .i32 0,.int .u32 0,.int .u32 0,.int .i32 0,.int .u32 0,.int .i64 y0,.int .i64 y1,.int .i64 y2,.int .i64 y3,.int .i64 y4,.int .i64 y5,.int .i64 y6,.int .i64 y7,.int .i64 y8,.slice yp0 yl0 yq0,.slice yp1 yl1 yq1,.slice yp2 yl2 yq2,.int .i64 (y9+1),.int .i64 y10,.bool yb] 127:=X6.setc 0 _;have C7:ChgL [E] w5 ((w5.setCell ⟨E,17,none⟩ (.int .i64 (y9+1))).setCell ⟨E,0,none⟩ (.int .i32 0)):=((ChgL.refl _ _).st _ 17 _ (by simp)).st _ 0 _ (by simp)
  have O7:EncO w5 E { d' with writes:=d'.writes+1 } [.int .i64 y0,.int .i64 y1,.int .i64 y2,.int .i64 y3,.int .i64 y4,.int .i64 y5,.int .i64 y6,.int .i64 y7,.int .i64 y8,.slice yp0 yl0 yq0,.slice yp1 yl1 yq1,.slice yp2 yl2 yq2,.int .i64 (y9+1),.int .i64 y10,.bool yb] K5:=by
   rw [← HY9.out];exact ⟨zd7 (y9+1) (by have:=HWR.out;have:=HY9.out;omega) O5.own,O5.nd,O5.ne⟩
  simp only [Leaves,settle]
  refine ⟨_,results_none rfl _ _ _,rfl,_,K5,X7,O7.chg C7,fun b hb=>?_,?_⟩
  ·rcases s5 b hb with h | h
   ·exact .inl h
   ·exact .inr (by omega)
  ·exact (C3'.mono (fun b hb=>by simp at hb;simp [hb])).trans (C5.trans (C7.mono (fun b hb=>by simp at hb;simp [hb])))
 ·have d1:(v10 != -1)=true:=by simpa using hs
  have d2:decide (v10≤v9)=false:=by
   simp only [decide_eq_false_iff_not]
   exact fun h=>hpw ⟨hs,h⟩
  clear hpw hwr hch hO hs;have hE:E<w.heap.size:=hX.lt;have hmf:∀ (fn:Fn) (first cap:Array Value) (w:World),(Instr.makeFunc fn first cap).run Tryz.prog w=.ok (.func fn first cap) w:=fun _ _ _ _=>rfl;have bA:=bAl w (.cells #[.pointer (some ⟨E,0,none⟩)] 87);have P1:=zaz w #[.pointer (some ⟨E,0,none⟩)] 87;have X1:=hX.below bA hE
  go_enter_defers Tryz.func79,Tryz.ntmps79
  go_upto_region 1 with fail
  obtain ⟨W1,hW1⟩:∃ x,x=w.alloc (.cells #[.pointer (some ⟨E,0,none⟩)] 87):=⟨_,rfl⟩;rw [← hW1] at bA P1 X1 ⊢
  have zW:W1.heap.size=w.heap.size+1:=by rw [hW1];simp
  clear hW1;have hp1:W1.cell? ⟨w.heap.size,0,none⟩=some (.pointer (some ⟨E,0,none⟩)):=P1.cell 0;have c0:W1.cell? ⟨E,0,none⟩=some (.int .i32 0):=X1.cell 0;have f0:W1.frozen? ⟨E,0,none⟩=false:=X1.frozen 0;have X2:Box (W1.setCell ⟨E,0,none⟩ (.int .i32 1)) E #[.int .i32 1,.int .u32 0,.int .u32 0,.int .i32 0,.int .u32 0,.int .i64 v0,.int .i64 v1,.int .i64 v2,.int .i64 v3,.int .i64 v4,.int .i64 v5,.int .i64 v6,.int .i64 v7,.int .i64 v8,.slice vp0 vl0 vq0,.slice vp1 vl1 vq1,.slice vp2 vl2 vq2,.int .i64 v9,.int .i64 v10,.bool vb] 127:=X1.setc 0 _;have P2:Box (W1.setCell ⟨E,0,none⟩ (.int .i32 1)) w.heap.size #[.pointer (some ⟨E,0,none⟩)] 87:=P1.seto 0 _ (by omega);have C2':ChgL [E] w (W1.setCell ⟨E,0,none⟩ (.int .i32 1)):=(ChgL.of_below bA).st _ 0 _ (by simp)
  go_upto_region 2 with (go_at_call 122;refine (zdC ⟨E,0,none⟩ _ c0 f0).mono ?_;rintro e w' ⟨rfl,rfl⟩)
  obtain ⟨W2,hW2⟩:∃ x,x=W1.setCell ⟨E,0,none⟩ (.int .i32 1):=⟨_,rfl⟩;rw [← hW2] at X2 P2 C2' ⊢
  have z2:W2.heap.size=w.heap.size+1:=by rw [hW2];simpa using zW
  clear hW2 hp1 c0 f0 X1 P1 bA hX;have hp2:W2.cell? ⟨w.heap.size,0,none⟩=some (.pointer (some ⟨E,0,none⟩)):=P2.cell 0;have x17:W2.cell? ⟨E,17,none⟩=some (.int .i64 v9):=X2.cell 17;have x18:W2.cell? ⟨E,18,none⟩=some (.int .i64 v10):=X2.cell 18
  go_upto_region 3 with fail
  go_quiet (fail)
  go_upto_region 6 with fail
  obtain ⟨W3,hW3⟩:∃ x,x=W2.drewN nq:=⟨_,rfl⟩;rw [← hW3]
  have X3:Box W3 E #[.int .i32 1,.int .u32 0,.int .u32 0,.int .i32 0,.int .u32 0,.int .i64 v0,.int .i64 v1,.int .i64 v2,.int .i64 v3,.int .i64 v4,.int .i64 v5,.int .i64 v6,.int .i64 v7,.int .i64 v8,.slice vp0 vl0 vq0,.slice vp1 vl1 vq1,.slice vp2 vl2 vq2,.int .i64 v9,.int .i64 v10,.bool vb] 127:=by rw [hW3];exact X2
  have P3:Box W3 w.heap.size #[.pointer (some ⟨E,0,none⟩)] 87:=by rw [hW3];exact P2
  have C3':ChgL [E] w W3:=by rw [hW3];exact ⟨C2'.os,C2'.tape,C2'.output,C2'.size,C2'.block⟩
  have z3:W3.heap.size=w.heap.size+1:=by rw [hW3];exact z2
  have hp3:W3.cell? ⟨w.heap.size,0,none⟩=some (.pointer (some ⟨E,0,none⟩)):=P3.cell 0;clear hW3 X2 P2 C2' z2 hp2 x17 x18;have O3:=hO'.out.chg C3'
  have CC:=(CH.out W3 X3 O3 C3').mono (R':=fun e w'=>e=.returned (.tuple #[])∧∃ y0 y1 y2 y3 y4 y5 y6 y7 y8 yp0 yl0 yq0 yp1 yl1 yq1 yp2 yl2 yq2 y9 y10 yb K',Box w' E #[.int .i32 1,.int .u32 0,.int .u32 0,.int .i32 0,.int .u32 0,.int .i64 y0,.int .i64 y1,.int .i64 y2,.int .i64 y3,.int .i64 y4,.int .i64 y5,.int .i64 y6,.int .i64 y7,.int .i64 y8,.slice yp0 yl0 yq0,.slice yp1 yl1 yq1,.slice yp2 yl2 yq2,.int .i64 y9,.int .i64 y10,.bool yb] 127∧EncO w' E d' (rwV y0 y1 y2 y3 y4 y5 y6 y7 y8 yp0 yl0 yq0 yp1 yl1 yq1 yp2 yl2 yq2 y9 y10 yb) K'∧(∀ b,b∈K'→b∈K∨W3.heap.size≤b)∧ChgL (E::K) W3 w') (fun e w' ⟨he,cs',K',hX',hO',hs',hC'⟩=>by
   obtain ⟨y0,y1,y2,y3,y4,y5,y6,y7,y8,yp0,yl0,yq0,yp1,yl1,yq1,yp2,yl2,yq2,y9,y10,yb,rfl⟩:=ze4 hO'.own
   exact ⟨he,y0,y1,y2,y3,y4,y5,y6,y7,y8,yp0,yl0,yq0,yp1,yl1,yq1,yp2,yl2,yq2,y9,y10,yb,K',hX',hO',hs',hC'⟩)
  have hKl:∀ b,b∈K→b<w.heap.size:=fun b hb=>zae.own_lt hO'.out.own b hb
  go_wp2_with (go_at_call 101;refine CC.mono ?_;rintro e w5 ⟨rfl,y0,y1,y2,y3,y4,y5,y6,y7,y8,yp0,yl0,yq0,yp1,yl1,yq1,yp2,yl2,yq2,y9,y10,yb,K5,X5,O5,s5,C5⟩;have P5:=P3.chgl C5 (by intro hm;rcases List.mem_cons.1 hm with h | h;omega;have:=hKl _ h;omega);have hp5:w5.cell? ⟨w.heap.size,0,none⟩=some (.pointer (some ⟨E,0,none⟩)):=P5.cell 0;have x17:w5.cell? ⟨E,17,none⟩=some (.int .i64 y9):=X5.cell 17;have f17:w5.frozen? ⟨E,17,none⟩=false:=X5.frozen 17;have HY9:=hid (zd8 O5.own);have zz:IntKind.i64.wrap (y9+1)=y9+1:=by rw [IntKind.wrap_i64];have:=HWR.out;have:=HY9.out;omega)
  refine leaves_cons (f:=123) (args:=#[.pointer (some ⟨E,0,none⟩)]) (by simp) (by simp [go_sem]) ?_;have X6:Box (w5.setCell ⟨E,17,none⟩ (.int .i64 (y9+1))) E #[.int .i32 1,.int .u32 0,.int .u32 0,.int .i32 0,.int .u32 0,.int .i64 y0,.int .i64 y1,.int .i64 y2,.int .i64 y3,.int .i64 y4,.int .i64 y5,.int .i64 y6,.int .i64 y7,.int .i64 y8,.slice yp0 yl0 yq0,.slice yp1 yl1 yq1,.slice yp2 yl2 yq2,.int .i64 (y9+1),.int .i64 y10,.bool yb] 127:=X5.setc 17 _;refine (zcm ⟨E,0,none⟩ _ _ (X6.cell 0) (X6.frozen 0)).mono ?_;rintro e u' w'' ⟨rfl,rfl,rfl⟩;have X7:Box ((w5.setCell ⟨E,17,none⟩ (.int .i64 (y9+1))).setCell ⟨E,0,none⟩ (.int .i32 0)) E #[.int .i32 0,.int .u32 0,.int .u32 0,.int .i32 0,.int .u32 0,.int .i64 y0,.int .i64 y1,.int .i64 y2,.int .i64 y3,.int .i64 y4,.int .i64 y5,.int .i64 y6,.int .i64 y7,.int .i64 y8,.slice yp0 yl0 yq0,.slice yp1 yl1 yq1,.slice yp2 yl2 yq2,.int .i64 (y9+1),.int .i64 y10,.bool yb] 127:=X6.setc 0 _;have C7:ChgL [E] w5 ((w5.setCell ⟨E,17,none⟩ (.int .i64 (y9+1))).setCell ⟨E,0,none⟩ (.int .i32 0)):=((ChgL.refl _ _).st _ 17 _ (by simp)).st _ 0 _ (by simp)
  have O7:EncO w5 E { d' with writes:=d'.writes+1 } [.int .i64 y0,.int .i64 y1,.int .i64 y2,.int .i64 y3,.int .i64 y4,.int .i64 y5,.int .i64 y6,.int .i64 y7,.int .i64 y8,.slice yp0 yl0 yq0,.slice yp1 yl1 yq1,.slice yp2 yl2 yq2,.int .i64 (y9+1),.int .i64 y10,.bool yb] K5:=by
   rw [← HY9.out];exact ⟨zd7 (y9+1) (by have:=HWR.out;have:=HY9.out;omega) O5.own,O5.nd,O5.ne⟩
  simp only [Leaves,settle]
  refine ⟨_,results_none rfl _ _ _,rfl,_,K5,X7,O7.chg C7,fun b hb=>?_,?_⟩
  ·rcases s5 b hb with h | h
   ·exact .inl h
   ·exact .inr (by omega)
  ·exact (C3'.mono (fun b hb=>by simp at hb;simp [hb])).trans (C5.trans (C7.mono (fun b hb=>by simp at hb;simp [hb])))
set_option maxRecDepth 20000 in
theorem zik (R pv E:Nat) (l o m:Int) (y0 y1 y2 y3 y4 y5 y6 y7 y8 yp0 yl0 yq0 yp1 yl1 yq1 yp2 yl2 yq2 y9 y10 yb:_) (w:World) (hR:Box w R #[.int .i64 0,.int .i64 0,.int .i64 0,.int .i64 0,.int .i64 0,.int .i64 0,.int .i64 0,.int .i64 0,.int .i64 0,.int .i64 0,.slice none 0 0,.slice none 0 0,.slice none 0 0,.int .i64 0,.int .i64 0,.bool false] 40) (hp:w.cell? ⟨pv,0,none⟩=some (.pointer (some ⟨E,0,none⟩))) (hX:Box w E #[.int .i32 l,.int .u32 0,.int .u32 o,.int .i32 m,.int .u32 0,.int .i64 y0,.int .i64 y1,.int .i64 y2,.int .i64 y3,.int .i64 y4,.int .i64 y5,.int .i64 y6,.int .i64 y7,.int .i64 y8,.slice yp0 yl0 yq0,.slice yp1 yl1 yq1,.slice yp2 yl2 yq2,.int .i64 y9,.int .i64 y10,.bool yb] 127) (hRE:R≠E) (hRp:R≠pv) :
 CallsD Tryz.prog 78 #[.pointer (some ⟨R,0,none⟩),.pointer (some ⟨pv,0,none⟩)] .returning w fun e u' w'=>e=.returned (.tuple #[])∧u'=.returning∧Box w' R #[.int .i64 0,.int .i64 y0,.int .i64 y1,.int .i64 y2,.int .i64 y3,.int .i64 y4,.int .i64 y5,.int .i64 y6,.int .i64 y7,.int .i64 y8,.slice yp0 yl0 yq0,.slice yp1 yl1 yq1,.slice yp2 yl2 yq2,.int .i64 y9,.int .i64 y10,.bool yb] 40∧ChgL [R] w w':=by
 have x_5:w.cell? ⟨E,5,none⟩=some (.int .i64 y0):=hX.cell 5;have x_6:w.cell? ⟨E,6,none⟩=some (.int .i64 y1):=hX.cell 6;have x_7:w.cell? ⟨E,7,none⟩=some (.int .i64 y2):=hX.cell 7;have x_8:w.cell? ⟨E,8,none⟩=some (.int .i64 y3):=hX.cell 8;have x_9:w.cell? ⟨E,9,none⟩=some (.int .i64 y4):=hX.cell 9;have x_10:w.cell? ⟨E,10,none⟩=some (.int .i64 y5):=hX.cell 10;have x_11:w.cell? ⟨E,11,none⟩=some (.int .i64 y6):=hX.cell 11;have x_12:w.cell? ⟨E,12,none⟩=some (.int .i64 y7):=hX.cell 12;have x_13:w.cell? ⟨E,13,none⟩=some (.int .i64 y8):=hX.cell 13;have x_14:w.cell? ⟨E,14,none⟩=some (.slice yp0 yl0 yq0):=hX.cell 14;have x_15:w.cell? ⟨E,15,none⟩=some (.slice yp1 yl1 yq1):=hX.cell 15;have x_16:w.cell? ⟨E,16,none⟩=some (.slice yp2 yl2 yq2):=hX.cell 16;have x_17:w.cell? ⟨E,17,none⟩=some (.int .i64 y9):=hX.cell 17;have x_18:w.cell? ⟨E,18,none⟩=some (.int .i64 y10):=hX.cell 18;have x_19:w.cell? ⟨E,19,none⟩=some (.bool yb):=hX.cell 19;have R1:=hR;have X1:=hX;have hp1:=hp;have C1:ChgL [R] w w:=ChgL.refl _ _;refine callsD_of_wpS Tryz.func78 rfl fun c₀ cs hu=>?_
 apply wpS_seq
 apply wpS_seq
 apply wpS_region
 simp [wpOpsS,go_sem,recoverD,hu,Tryz.ntmps78,Exit.thenS]
 refine wpS_cond (t:=false) (by simp [Act.eval,Array.replicate]) ?_
 simp only [Bool.false_eq_true,if_false]
 refine wpS_of_wp (wp_skip ?_)
 simp only [Exit.thenS]
 clear hR hX hp;refine wpS_of_wp ?_;have e_5:w.cell? ⟨E,5,none⟩=some (.int .i64 y0):=X1.cell 5;have e_6:w.cell? ⟨E,6,none⟩=some (.int .i64 y1):=X1.cell 6;have e_7:w.cell? ⟨E,7,none⟩=some (.int .i64 y2):=X1.cell 7;have e_8:w.cell? ⟨E,8,none⟩=some (.int .i64 y3):=X1.cell 8;have e_9:w.cell? ⟨E,9,none⟩=some (.int .i64 y4):=X1.cell 9;have e_10:w.cell? ⟨E,10,none⟩=some (.int .i64 y5):=X1.cell 10;have e_11:w.cell? ⟨E,11,none⟩=some (.int .i64 y6):=X1.cell 11;have e_12:w.cell? ⟨E,12,none⟩=some (.int .i64 y7):=X1.cell 12;have e_13:w.cell? ⟨E,13,none⟩=some (.int .i64 y8):=X1.cell 13;have e_14:w.cell? ⟨E,14,none⟩=some (.slice yp0 yl0 yq0):=X1.cell 14;have e_15:w.cell? ⟨E,15,none⟩=some (.slice yp1 yl1 yq1):=X1.cell 15;have e_16:w.cell? ⟨E,16,none⟩=some (.slice yp2 yl2 yq2):=X1.cell 16;have e_17:w.cell? ⟨E,17,none⟩=some (.int .i64 y9):=X1.cell 17;have e_18:w.cell? ⟨E,18,none⟩=some (.int .i64 y10):=X1.cell 18;have e_19:w.cell? ⟨E,19,none⟩=some (.bool yb):=X1.cell 19;have r_1:w.cell? ⟨R,1,none⟩=some (.int .i64 0):=R1.cell 1;have rf_1:w.frozen? ⟨R,1,none⟩=false:=R1.frozen 1;have r_2:w.cell? ⟨R,2,none⟩=some (.int .i64 0):=R1.cell 2;have rf_2:w.frozen? ⟨R,2,none⟩=false:=R1.frozen 2;have r_3:w.cell? ⟨R,3,none⟩=some (.int .i64 0):=R1.cell 3;have rf_3:w.frozen? ⟨R,3,none⟩=false:=R1.frozen 3;have r_4:w.cell? ⟨R,4,none⟩=some (.int .i64 0):=R1.cell 4;have rf_4:w.frozen? ⟨R,4,none⟩=false:=R1.frozen 4;have r_5:w.cell? ⟨R,5,none⟩=some (.int .i64 0):=R1.cell 5;have rf_5:w.frozen? ⟨R,5,none⟩=false:=R1.frozen 5;have r_6:w.cell? ⟨R,6,none⟩=some (.int .i64 0):=R1.cell 6;have rf_6:w.frozen? ⟨R,6,none⟩=false:=R1.frozen 6;have r_7:w.cell? ⟨R,7,none⟩=some (.int .i64 0):=R1.cell 7;have rf_7:w.frozen? ⟨R,7,none⟩=false:=R1.frozen 7;have r_8:w.cell? ⟨R,8,none⟩=some (.int .i64 0):=R1.cell 8;have rf_8:w.frozen? ⟨R,8,none⟩=false:=R1.frozen 8;have r_9:w.cell? ⟨R,9,none⟩=some (.int .i64 0):=R1.cell 9;have rf_9:w.frozen? ⟨R,9,none⟩=false:=R1.frozen 9;have r_10:w.cell? ⟨R,10,none⟩=some (.slice none 0 0):=R1.cell 10;have rf_10:w.frozen? ⟨R,10,none⟩=false:=R1.frozen 10;have r_11:w.cell? ⟨R,11,none⟩=some (.slice none 0 0):=R1.cell 11;have rf_11:w.frozen? ⟨R,11,none⟩=false:=R1.frozen 11;have r_12:w.cell? ⟨R,12,none⟩=some (.slice none 0 0):=R1.cell 12;have rf_12:w.frozen? ⟨R,12,none⟩=false:=R1.frozen 12;have r_13:w.cell? ⟨R,13,none⟩=some (.int .i64 0):=R1.cell 13;have rf_13:w.frozen? ⟨R,13,none⟩=false:=R1.frozen 13;have r_14:w.cell? ⟨R,14,none⟩=some (.int .i64 0):=R1.cell 14;have rf_14:w.frozen? ⟨R,14,none⟩=false:=R1.frozen 14;have r_15:w.cell? ⟨R,15,none⟩=some (.bool false):=R1.cell 15;have rf_15:w.frozen? ⟨R,15,none⟩=false:=R1.frozen 15;have R2:Box (stN w R 1 (rwV y0 y1 y2 y3 y4 y5 y6 y7 y8 yp0 yl0 yq0 yp1 yl1 yq1 yp2 yl2 yq2 y9 y10 yb)) R (.int .i64 0::rwV y0 y1 y2 y3 y4 y5 y6 y7 y8 yp0 yl0 yq0 yp1 yl1 yq1 yp2 yl2 yq2 y9 y10 yb).toArray 40:=R1.stL (rwV y0 y1 y2 y3 y4 y5 y6 y7 y8 yp0 yl0 yq0 yp1 yl1 yq1 yp2 yl2 yq2 y9 y10 yb) 1
 have C2':ChgL [R] w (stN w R 1 (rwV y0 y1 y2 y3 y4 y5 y6 y7 y8 yp0 yl0 yq0 yp1 yl1 yq1 yp2 yl2 yq2 y9 y10 yb)):=C1.trans ⟨(za3 R _ w 1).1,(za3 R _ w 1).2.1,(za3 R _ w 1).2.2,Nat.le_of_eq (zbp R _ w 1).symm,fun b _ hb=>zbz R b (fun hh=>hb (by simp [hh])) _ w 1⟩;clear R1 X1 C1  x_5 x_6 x_7 x_8 x_9 x_10 x_11 x_12 x_13 x_14 x_15 x_16 x_17 x_18 x_19;go_wp2;exact ⟨rfl,_,by cases c₀;simp_all,_,results_none rfl _ _ _,rfl,rfl,R2,C2'⟩
set_option maxRecDepth 20000 in
theorem zhF (u:TypeId) (pvv:Value) (R pv E:Nat) (l o m:Int) (y0 y1 y2 y3 y4 y5 y6 y7 y8 yp0 yl0 yq0 yp1 yl1 yq1 yp2 yl2 yq2 y9 y10 yb:_) (w:World) (hR:Box w R #[.int .i64 0,.int .i64 0,.int .i64 0,.int .i64 0,.int .i64 0,.int .i64 0,.int .i64 0,.int .i64 0,.int .i64 0,.int .i64 0,.slice none 0 0,.slice none 0 0,.slice none 0 0,.int .i64 0,.int .i64 0,.bool false] 40) (hp:w.cell? ⟨pv,0,none⟩=some (.pointer (some ⟨E,0,none⟩))) (hX:Box w E #[.int .i32 l,.int .u32 0,.int .u32 o,.int .i32 m,.int .u32 0,.int .i64 y0,.int .i64 y1,.int .i64 y2,.int .i64 y3,.int .i64 y4,.int .i64 y5,.int .i64 y6,.int .i64 y7,.int .i64 y8,.slice yp0 yl0 yq0,.slice yp1 yl1 yq1,.slice yp2 yl2 yq2,.int .i64 y9,.int .i64 y10,.bool yb] 127) (hRE:R≠E) (hRp:R≠pv) :
 CallsD Tryz.prog 78 #[.pointer (some ⟨R,0,none⟩),.pointer (some ⟨pv,0,none⟩)] (.panicking [{ v:=.iface u pvv,recovered:=false }]) w fun e u' w'=>e=.returned (.tuple #[])∧u'=(.panicking [{ v:=.iface u pvv,recovered:=true }])∧Box w' R #[.int .i64 9,.int .i64 y0,.int .i64 y1,.int .i64 y2,.int .i64 y3,.int .i64 y4,.int .i64 y5,.int .i64 y6,.int .i64 y7,.int .i64 y8,.slice yp0 yl0 yq0,.slice yp1 yl1 yq1,.slice yp2 yl2 yq2,.int .i64 y9,.int .i64 y10,.bool yb] 40∧ChgL [R] w w':=by
 have x_5:w.cell? ⟨E,5,none⟩=some (.int .i64 y0):=hX.cell 5;have x_6:w.cell? ⟨E,6,none⟩=some (.int .i64 y1):=hX.cell 6;have x_7:w.cell? ⟨E,7,none⟩=some (.int .i64 y2):=hX.cell 7;have x_8:w.cell? ⟨E,8,none⟩=some (.int .i64 y3):=hX.cell 8;have x_9:w.cell? ⟨E,9,none⟩=some (.int .i64 y4):=hX.cell 9;have x_10:w.cell? ⟨E,10,none⟩=some (.int .i64 y5):=hX.cell 10;have x_11:w.cell? ⟨E,11,none⟩=some (.int .i64 y6):=hX.cell 11;have x_12:w.cell? ⟨E,12,none⟩=some (.int .i64 y7):=hX.cell 12;have x_13:w.cell? ⟨E,13,none⟩=some (.int .i64 y8):=hX.cell 13;have x_14:w.cell? ⟨E,14,none⟩=some (.slice yp0 yl0 yq0):=hX.cell 14;have x_15:w.cell? ⟨E,15,none⟩=some (.slice yp1 yl1 yq1):=hX.cell 15;have x_16:w.cell? ⟨E,16,none⟩=some (.slice yp2 yl2 yq2):=hX.cell 16;have x_17:w.cell? ⟨E,17,none⟩=some (.int .i64 y9):=hX.cell 17;have x_18:w.cell? ⟨E,18,none⟩=some (.int .i64 y10):=hX.cell 18;have x_19:w.cell? ⟨E,19,none⟩=some (.bool yb):=hX.cell 19;have R1:Box (w.setCell ⟨R,0,none⟩ (.int .i64 9)) R (.int .i64 9::rwY).toArray 40:=hR.setc 0 _;have C1:ChgL [R] w (w.setCell ⟨R,0,none⟩ (.int .i64 9)):=(ChgL.refl _ _).st _ 0 _ (by simp);have X1:Box (w.setCell ⟨R,0,none⟩ (.int .i64 9)) E #[.int .i32 l,.int .u32 0,.int .u32 o,.int .i32 m,.int .u32 0,.int .i64 y0,.int .i64 y1,.int .i64 y2,.int .i64 y3,.int .i64 y4,.int .i64 y5,.int .i64 y6,.int .i64 y7,.int .i64 y8,.slice yp0 yl0 yq0,.slice yp1 yl1 yq1,.slice yp2 yl2 yq2,.int .i64 y9,.int .i64 y10,.bool yb] 127:=hX.seto 0 _ (fun h=>hRE h.symm);have hp1:(w.setCell ⟨R,0,none⟩ (.int .i64 9)).cell? ⟨pv,0,none⟩=some (.pointer (some ⟨E,0,none⟩)):=(World.cell?_setCell_other _ ⟨R,0,none⟩ ⟨pv,0,none⟩ _ (by simp [hRp])).trans hp;have r0:w.cell? ⟨R,0,none⟩=some (.int .i64 0):=hR.cell 0;have rf0:w.frozen? ⟨R,0,none⟩=false:=hR.frozen 0;refine callsD_of_wpS Tryz.func78 rfl fun c₀ cs hu=>?_
 apply wpS_seq
 apply wpS_seq
 apply wpS_region
 simp [wpOpsS,go_sem,recoverD,hu,Tryz.ntmps78,Exit.thenS]
 refine wpS_cond (t:=true) (by simp [Act.eval,Array.replicate]) ?_
 simp only [if_true]
 apply wpS_region
 simp [wpOpsS,go_sem,r0,rf0,Exit.thenS]
 clear r0 rf0 hR hX hp;refine wpS_of_wp ?_;obtain ⟨W,hW⟩:∃ x,x=(w.setCell ⟨R,0,none⟩ (.int .i64 9)):=⟨_,rfl⟩;rw [← hW] at R1 X1 hp1 C1 ⊢;have e_5:W.cell? ⟨E,5,none⟩=some (.int .i64 y0):=X1.cell 5;have e_6:W.cell? ⟨E,6,none⟩=some (.int .i64 y1):=X1.cell 6;have e_7:W.cell? ⟨E,7,none⟩=some (.int .i64 y2):=X1.cell 7;have e_8:W.cell? ⟨E,8,none⟩=some (.int .i64 y3):=X1.cell 8;have e_9:W.cell? ⟨E,9,none⟩=some (.int .i64 y4):=X1.cell 9;have e_10:W.cell? ⟨E,10,none⟩=some (.int .i64 y5):=X1.cell 10;have e_11:W.cell? ⟨E,11,none⟩=some (.int .i64 y6):=X1.cell 11;have e_12:W.cell? ⟨E,12,none⟩=some (.int .i64 y7):=X1.cell 12;have e_13:W.cell? ⟨E,13,none⟩=some (.int .i64 y8):=X1.cell 13;have e_14:W.cell? ⟨E,14,none⟩=some (.slice yp0 yl0 yq0):=X1.cell 14;have e_15:W.cell? ⟨E,15,none⟩=some (.slice yp1 yl1 yq1):=X1.cell 15;have e_16:W.cell? ⟨E,16,none⟩=some (.slice yp2 yl2 yq2):=X1.cell 16;have e_17:W.cell? ⟨E,17,none⟩=some (.int .i64 y9):=X1.cell 17;have e_18:W.cell? ⟨E,18,none⟩=some (.int .i64 y10):=X1.cell 18;have e_19:W.cell? ⟨E,19,none⟩=some (.bool yb):=X1.cell 19;have r_1:W.cell? ⟨R,1,none⟩=some (.int .i64 0):=R1.cell 1;have rf_1:W.frozen? ⟨R,1,none⟩=false:=R1.frozen 1;have r_2:W.cell? ⟨R,2,none⟩=some (.int .i64 0):=R1.cell 2;have rf_2:W.frozen? ⟨R,2,none⟩=false:=R1.frozen 2;have r_3:W.cell? ⟨R,3,none⟩=some (.int .i64 0):=R1.cell 3;have rf_3:W.frozen? ⟨R,3,none⟩=false:=R1.frozen 3;have r_4:W.cell? ⟨R,4,none⟩=some (.int .i64 0):=R1.cell 4;have rf_4:W.frozen? ⟨R,4,none⟩=false:=R1.frozen 4;have r_5:W.cell? ⟨R,5,none⟩=some (.int .i64 0):=R1.cell 5;have rf_5:W.frozen? ⟨R,5,none⟩=false:=R1.frozen 5;have r_6:W.cell? ⟨R,6,none⟩=some (.int .i64 0):=R1.cell 6;have rf_6:W.frozen? ⟨R,6,none⟩=false:=R1.frozen 6;have r_7:W.cell? ⟨R,7,none⟩=some (.int .i64 0):=R1.cell 7;have rf_7:W.frozen? ⟨R,7,none⟩=false:=R1.frozen 7;have r_8:W.cell? ⟨R,8,none⟩=some (.int .i64 0):=R1.cell 8;have rf_8:W.frozen? ⟨R,8,none⟩=false:=R1.frozen 8;have r_9:W.cell? ⟨R,9,none⟩=some (.int .i64 0):=R1.cell 9;have rf_9:W.frozen? ⟨R,9,none⟩=false:=R1.frozen 9;have r_10:W.cell? ⟨R,10,none⟩=some (.slice none 0 0):=R1.cell 10;have rf_10:W.frozen? ⟨R,10,none⟩=false:=R1.frozen 10;have r_11:W.cell? ⟨R,11,none⟩=some (.slice none 0 0):=R1.cell 11;have rf_11:W.frozen? ⟨R,11,none⟩=false:=R1.frozen 11;have r_12:W.cell? ⟨R,12,none⟩=some (.slice none 0 0):=R1.cell 12;have rf_12:W.frozen? ⟨R,12,none⟩=false:=R1.frozen 12;have r_13:W.cell? ⟨R,13,none⟩=some (.int .i64 0):=R1.cell 13;have rf_13:W.frozen? ⟨R,13,none⟩=false:=R1.frozen 13;have r_14:W.cell? ⟨R,14,none⟩=some (.int .i64 0):=R1.cell 14;have rf_14:W.frozen? ⟨R,14,none⟩=false:=R1.frozen 14;have r_15:W.cell? ⟨R,15,none⟩=some (.bool false):=R1.cell 15
 have rf_15:W.frozen? ⟨R,15,none⟩=false:=R1.frozen 15;have R2:Box (stN W R 1 (rwV y0 y1 y2 y3 y4 y5 y6 y7 y8 yp0 yl0 yq0 yp1 yl1 yq1 yp2 yl2 yq2 y9 y10 yb)) R (.int .i64 9::rwV y0 y1 y2 y3 y4 y5 y6 y7 y8 yp0 yl0 yq0 yp1 yl1 yq1 yp2 yl2 yq2 y9 y10 yb).toArray 40:=R1.stL (rwV y0 y1 y2 y3 y4 y5 y6 y7 y8 yp0 yl0 yq0 yp1 yl1 yq1 yp2 yl2 yq2 y9 y10 yb) 1;have C2':ChgL [R] w (stN W R 1 (rwV y0 y1 y2 y3 y4 y5 y6 y7 y8 yp0 yl0 yq0 yp1 yl1 yq1 yp2 yl2 yq2 y9 y10 yb)):=C1.trans ⟨(za3 R _ W 1).1,(za3 R _ W 1).2.1,(za3 R _ W 1).2.2,Nat.le_of_eq (zbp R _ W 1).symm,fun b _ hb=>zbz R b (fun hh=>hb (by simp [hh])) _ W 1⟩;clear R1 X1 C1 hW x_5 x_6 x_7 x_8 x_9 x_10 x_11 x_12 x_13 x_14 x_15 x_16 x_17 x_18 x_19;go_wp2;exact ⟨rfl,_,rfl,_,results_none rfl _ _ _,rfl,rfl,R2,C2'⟩
set_option maxRecDepth 20000 in
theorem zfV:ToV zah zaB 81:=fun cs d hi w r hhi hn=>by
 obtain ⟨ao1,cap1,rfl,h1,k0⟩:=zba r;clear r;unfold zaB at hn;have R1:=hid h1;clear h1;have Q0:=hid k0;clear k0;have T0:=zay w #[.int .i64 d.stamp,.slice ao1 d.bytes.1 cap1] #[.int .i64 0,.slice none 0 0] 43 43
 go_enter Tryz.func81,Tryz.ntmps81
 go_wp2_with fail
 refine (zcG _ d.bytes hi _ (zad.rd_below R1.out T0.bel hhi) (Nat.le_trans hhi T0.bel.size) (by omega)).mono ?_;rintro e w1 ⟨v0,rfl,o0,b0⟩;obtain ⟨bo1,bcap1,hv⟩:=za9 o0;obtain rfl:=zaL hv;clear hv;have T0c:=T0.call b0;have z0:=T0.b2.lt;have y0:=b0.size;have c0_1:w1.cell? ⟨w.heap.size,1,none⟩=some (.slice ao1 d.bytes.1 cap1):=T0c.b1.cell 1;have c0f_1:w1.frozen? ⟨w.heap.size,1,none⟩=false:=T0c.b1.frozen 1;have T1x:Two w (w1.setCell ⟨w.heap.size,1,none⟩ (.slice bo1 d.bytes.1 bcap1)) #[.int .i64 d.stamp,.slice bo1 d.bytes.1 bcap1] #[.int .i64 0,.slice none 0 0] 43 43:=⟨T0c.b1.stL [.slice bo1 d.bytes.1 bcap1] 1,T0c.b2.seto _ _ (by omega),T0c.bel.setCell (Nat.le_refl _) _⟩;have O1_0:=(o0.stN w.heap.size 1 [.slice bo1 d.bytes.1 bcap1] (by omega))
 have e1:(w1.setCell ⟨w.heap.size,1,none⟩ (.slice bo1 d.bytes.1 bcap1)).heap.size=w1.heap.size:=by simp
 clear o0 b0
 go_upto_region 2 with fail
 obtain ⟨W1,hW1⟩:∃ x,x=w1.setCell ⟨w.heap.size,1,none⟩ (.slice bo1 d.bytes.1 bcap1):=⟨_,rfl⟩
 have O1:Hid (OwnT zad W1 (w.heap.size+1+1) (w1.heap.size) d.bytes [.slice bo1 d.bytes.1 bcap1]):=by rw [hW1];exact OwnT.weaken O1_0 (by simp) (Nat.le_refl _)
 rw [← hW1] at T1x e1 ⊢;clear hW1 O1_0 T0c c0_1 c0f_1;have y_0:W1.cell? ⟨w.heap.size,0,none⟩=some (.int .i64 d.stamp):=T1x.b1.cell 0;have y_1:W1.cell? ⟨w.heap.size,1,none⟩=some (.slice bo1 d.bytes.1 bcap1):=T1x.b1.cell 1;have r_0:W1.cell? ⟨w.heap.size+1,0,none⟩=some (.int .i64 0):=T1x.b2.cell 0;have rf_0:W1.frozen? ⟨w.heap.size+1,0,none⟩=false:=T1x.b2.frozen 0;have r_1:W1.cell? ⟨w.heap.size+1,1,none⟩=some (.slice none 0 0):=T1x.b2.cell 1;have rf_1:W1.frozen? ⟨w.heap.size+1,1,none⟩=false:=T1x.b2.frozen 1;have HB:=hid T1x.bel;have zz:=T1x.b2.lt;clear T1x;go_wp2;refine bodyPost_ret (v:=.agg #[.int .i64 d.stamp,.slice bo1 d.bytes.1 bcap1]) (by simp [results,Tryz.results81,go_sem,r_0,y_0,r_1,y_1]) rfl ?_;have F:OwnT zah W1 (w.heap.size+1+1) w1.heap.size d ([.int .i64 d.stamp]++[.slice bo1 d.bytes.1 bcap1]):=OwnT.conv (OwnT.pre (A:=layI) (a:=d.stamp) (c:=[.int .i64 d.stamp]) ⟨rfl,Q0.out,rfl⟩ O1.out);refine ⟨[.int .i64 d.stamp,.slice bo1 d.bytes.1 bcap1],rfl,?_,?_⟩
 ·exact OwnT.finb (F.weaken (Nat.le_refl _) (by omega)) (b:=w.heap.size+1) (by omega) (by omega) 0 [.int .i64 d.stamp,.slice bo1 d.bytes.1 bcap1] _ rfl
 ·exact HB.out.trans (zaK (by omega) [.int .i64 d.stamp,.slice bo1 d.bytes.1 bcap1] 0)
set_option maxRecDepth 20000 in
theorem ze7:ToF (zah.slice 43) (szSl zaB) 164 81:=fun v d hi w h hhi hn=>by
 obtain ⟨n,x⟩:=d;obtain ⟨ao,cap,hv,hm,hc⟩:=h
 cases hv
 have hn1:=zb1 hn;have hn2:∀ i,i<n→zaB (x i)≤1048576:=fun i hi=>zbf hn hi
 simp only at hn1 hm hc
 clear hn
 go_enter Tryz.func164,Tryz.ntmps164
 go_wp2_with (at_make;refine zbM zah [.int .i64 0,.slice none 0 0] _ 43 32 (zeQ).hs rfl Tryz.underlying73 (zeQ).hi x (fun _=>[]) _ rfl _ _ rfl _ _ n rfl rfl rfl rfl (by omega) (by omega) ?_;intro w1 sp1 hb1)
 go_loopw [12] (fun i wr=>∃ k:Nat,k≤n∧i=.int .i64 k∧∃ ce Ls,SlP zah 43 wr w.heap.size w.heap.size n n k x ce Ls∧Below w.heap.size w wr) (fun i _=>n-(intOf i).toNat)
 case atStart=>exact ⟨0,Nat.zero_le _,rfl,_,_,sp1,hb1⟩
 case round=>
  clear sp1 hb1;obtain ⟨k,hk,rfl,ce,Ls,sp,hb⟩:=hrel
  by_cases hlt:k<n
  ·obtain ⟨b,off,rfl,hblt,hel⟩:=hc (by omega)
   obtain ⟨ck,hrk,hcell⟩:=zas (t:=0) hel hb hhi hblt hlt;obtain ⟨ao1,cap1,rfl,-⟩:=zba hrk;have c0:wr.cell? ⟨b,off+k*2,none⟩=some (.int .i64 (x k).stamp):=hcell 0 (by decide);have c1:wr.cell? ⟨b,off+k*2+1,none⟩=some (.slice ao1 (x k).bytes.1 cap1):=hcell 1 (by decide);clear hc hel hcell
   go_wp2_with fail
   refine (zfV _ (x k) hi wr hrk (Nat.le_trans hhi hb.size) (hn2 k hlt)).mono ?_;rintro e w2 ⟨cs',rfl,o2,hb2⟩;obtain ⟨bao1,bcap1,rfl⟩:=zcW o2;obtain ⟨z0,s0⟩:=sp.some hb2 hlt (show 0<zah.sz by decide);have s0:w2.cell? ⟨w.heap.size,k*2,none⟩=some z0:=s0;have sf0:=(sp.below hb2).frozen (k*2);obtain ⟨z1,s1⟩:=sp.some hb2 hlt (show 1<zah.sz by decide);have s1:w2.cell? ⟨w.heap.size,k*2+1,none⟩=some z1:=s1;have sf1:=(sp.below hb2).frozen (k*2+1);have N:=sp.next hb2 hlt o2 hb.size;have N2:Below w.heap.size w (stN w2 w.heap.size (k*zah.sz) [.int .i64 (x k).stamp,.slice bao1 (x k).bytes.1 bcap1]):=(hb.trans (hb2.mono hb.size)).trans (zaK (Nat.le_refl _) _ _);clear o2 hb2 sp hb
   go_wp2_with fail
   go_roundw
   case rel=>
    obtain ⟨ce',Ls',N⟩:=N;exact ⟨k+1,by omega,by go_num,ce',Ls',N,N2⟩
   case measure=>simp [intOf];omega
  ·obtain rfl:k=n:=by omega
   go_wp2;go_ret;exact ⟨_,rfl,sp.done (Nat.le_refl _),hb⟩
set_option maxRecDepth 20000 in
theorem zfW:ToV zab zap 151:=fun cs d hi w r hhi hn=>by
 obtain ⟨ao1,cap1,rfl,h1⟩:=zbh r;clear r;unfold zap at hn;have R1:=hid h1;clear h1;have T0:=zay w #[.bool d.wiped,.slice ao1 d.blocks.1 cap1] #[.bool false,.slice none 0 0] 75 75
 go_enter Tryz.func151,Tryz.ntmps151
 go_wp2_with fail
 refine (ze7 _ d.blocks hi _ ((zah.slice 43).rd_below R1.out T0.bel hhi) (Nat.le_trans hhi T0.bel.size) (by omega)).mono ?_;rintro e w1 ⟨v0,rfl,o0,b0⟩;obtain ⟨bo1,bcap1,hv⟩:=zbA o0;obtain rfl:=zaL hv;clear hv;have T0c:=T0.call b0;have z0:=T0.b2.lt;have y0:=b0.size;have c0_1:w1.cell? ⟨w.heap.size,1,none⟩=some (.slice ao1 d.blocks.1 cap1):=T0c.b1.cell 1;have c0f_1:w1.frozen? ⟨w.heap.size,1,none⟩=false:=T0c.b1.frozen 1;have T1x:Two w (w1.setCell ⟨w.heap.size,1,none⟩ (.slice bo1 d.blocks.1 bcap1)) #[.bool d.wiped,.slice bo1 d.blocks.1 bcap1] #[.bool false,.slice none 0 0] 75 75:=⟨T0c.b1.stL [.slice bo1 d.blocks.1 bcap1] 1,T0c.b2.seto _ _ (by omega),T0c.bel.setCell (Nat.le_refl _) _⟩;have O1_0:=(o0.stN w.heap.size 1 [.slice bo1 d.blocks.1 bcap1] (by omega))
 have e1:(w1.setCell ⟨w.heap.size,1,none⟩ (.slice bo1 d.blocks.1 bcap1)).heap.size=w1.heap.size:=by simp
 clear o0 b0
 go_upto_region 2 with fail
 obtain ⟨W1,hW1⟩:∃ x,x=w1.setCell ⟨w.heap.size,1,none⟩ (.slice bo1 d.blocks.1 bcap1):=⟨_,rfl⟩
 have O1:Hid (OwnT (zah.slice 43) W1 (w.heap.size+1+1) (w1.heap.size) d.blocks [.slice bo1 d.blocks.1 bcap1]):=by rw [hW1];exact OwnT.weaken O1_0 (by simp) (Nat.le_refl _)
 rw [← hW1] at T1x e1 ⊢;clear hW1 O1_0 T0c c0_1 c0f_1;have y_0:W1.cell? ⟨w.heap.size,0,none⟩=some (.bool d.wiped):=T1x.b1.cell 0;have y_1:W1.cell? ⟨w.heap.size,1,none⟩=some (.slice bo1 d.blocks.1 bcap1):=T1x.b1.cell 1;have r_0:W1.cell? ⟨w.heap.size+1,0,none⟩=some (.bool false):=T1x.b2.cell 0;have rf_0:W1.frozen? ⟨w.heap.size+1,0,none⟩=false:=T1x.b2.frozen 0;have r_1:W1.cell? ⟨w.heap.size+1,1,none⟩=some (.slice none 0 0):=T1x.b2.cell 1;have rf_1:W1.frozen? ⟨w.heap.size+1,1,none⟩=false:=T1x.b2.frozen 1;have HB:=hid T1x.bel;have zz:=T1x.b2.lt;clear T1x;go_wp2;refine bodyPost_ret (v:=.agg #[.bool d.wiped,.slice bo1 d.blocks.1 bcap1]) (by simp [results,Tryz.results151,go_sem,r_0,y_0,r_1,y_1]) rfl ?_;have F:OwnT zab W1 (w.heap.size+1+1) w1.heap.size d ([.bool d.wiped]++[.slice bo1 d.blocks.1 bcap1]):=OwnT.conv (OwnT.pre (A:=layB) (a:=d.wiped) (c:=[.bool d.wiped]) ⟨rfl,trivial,rfl⟩ O1.out);refine ⟨[.bool d.wiped,.slice bo1 d.blocks.1 bcap1],rfl,?_,?_⟩
 ·exact OwnT.finb (F.weaken (Nat.le_refl _) (by omega)) (b:=w.heap.size+1) (by omega) (by omega) 0 [.bool d.wiped,.slice bo1 d.blocks.1 bcap1] _ rfl
 ·exact HB.out.trans (zaK (by omega) [.bool d.wiped,.slice bo1 d.blocks.1 bcap1] 0)
set_option maxRecDepth 20000 in
theorem ze8:ToF (zab.slice 75) (szSl zap) 150 151:=fun v d hi w h hhi hn=>by
 obtain ⟨n,x⟩:=d;obtain ⟨ao,cap,hv,hm,hc⟩:=h
 cases hv
 have hn1:=zb1 hn;have hn2:∀ i,i<n→zap (x i)≤1048576:=fun i hi=>zbf hn hi
 simp only at hn1 hm hc
 clear hn
 go_enter Tryz.func150,Tryz.ntmps150
 go_wp2_with (at_make;refine zbM zab [.bool false,.slice none 0 0] _ 75 32 (zeR).hs rfl Tryz.underlying76 (zeR).hi x (fun _=>[]) _ rfl _ _ rfl _ _ n rfl rfl rfl rfl (by omega) (by omega) ?_;intro w1 sp1 hb1)
 go_loopw [12] (fun i wr=>∃ k:Nat,k≤n∧i=.int .i64 k∧∃ ce Ls,SlP zab 75 wr w.heap.size w.heap.size n n k x ce Ls∧Below w.heap.size w wr) (fun i _=>n-(intOf i).toNat)
 case atStart=>exact ⟨0,Nat.zero_le _,rfl,_,_,sp1,hb1⟩
 case round=>
  clear sp1 hb1;obtain ⟨k,hk,rfl,ce,Ls,sp,hb⟩:=hrel
  by_cases hlt:k<n
  ·obtain ⟨b,off,rfl,hblt,hel⟩:=hc (by omega)
   obtain ⟨ck,hrk,hcell⟩:=zas (t:=0) hel hb hhi hblt hlt;obtain ⟨ao1,cap1,rfl,-⟩:=zbh hrk;have c0:wr.cell? ⟨b,off+k*2,none⟩=some (.bool (x k).wiped):=hcell 0 (by decide);have c1:wr.cell? ⟨b,off+k*2+1,none⟩=some (.slice ao1 (x k).blocks.1 cap1):=hcell 1 (by decide);clear hc hel hcell
   go_wp2_with fail
   refine (zfW _ (x k) hi wr hrk (Nat.le_trans hhi hb.size) (hn2 k hlt)).mono ?_;rintro e w2 ⟨cs',rfl,o2,hb2⟩;obtain ⟨bao1,bcap1,rfl⟩:=zdK o2;obtain ⟨z0,s0⟩:=sp.some hb2 hlt (show 0<zab.sz by decide);have s0:w2.cell? ⟨w.heap.size,k*2,none⟩=some z0:=s0;have sf0:=(sp.below hb2).frozen (k*2);obtain ⟨z1,s1⟩:=sp.some hb2 hlt (show 1<zab.sz by decide);have s1:w2.cell? ⟨w.heap.size,k*2+1,none⟩=some z1:=s1;have sf1:=(sp.below hb2).frozen (k*2+1);have N:=sp.next hb2 hlt o2 hb.size;have N2:Below w.heap.size w (stN w2 w.heap.size (k*zab.sz) [.bool (x k).wiped,.slice bao1 (x k).blocks.1 bcap1]):=(hb.trans (hb2.mono hb.size)).trans (zaK (Nat.le_refl _) _ _);clear o2 hb2 sp hb
   go_wp2_with fail
   go_roundw
   case rel=>
    obtain ⟨ce',Ls',N⟩:=N;exact ⟨k+1,by omega,by go_num,ce',Ls',N,N2⟩
   case measure=>simp [intOf];omega
  ·obtain rfl:k=n:=by omega
   go_wp2;go_ret;exact ⟨_,rfl,sp.done (Nat.le_refl _),hb⟩
theorem zfX:ToS (zab.slice 75) (szSl zap) 118:=fun v d hi w h hhi hn=>by
 have C:=ze8 v d hi w h hhi hn;obtain ⟨ao,cap,hv,hm,hc⟩:=h
 cases hv
 clear hm hc
 go_enter Tryz.func118,Tryz.ntmps118
 go_wp2_with fail
 refine C.mono ?_;rintro e w1 ⟨v1,rfl,o1,b1⟩;have HO:=hid o1;have HB:=hid b1;clear o1 b1 C;go_wp2;go_ret;exact ⟨v1,rfl,HO.out,HB.out⟩
theorem zel:ToF ((zab.slice 75).slice 76) (szSl (szSl zap)) 117 118:=fun v d hi w h hhi hn=>by
 obtain ⟨n,x⟩:=d;obtain ⟨ao,cap,hv,hm,hc⟩:=h
 cases hv
 have hn1:=zb1 hn;have hn2:∀ i,i<n→szSl zap (x i)≤1048576:=fun i hi=>zbf hn hi
 simp only at hn1 hm hc
 clear hn
 go_enter Tryz.func117,Tryz.ntmps117
 go_wp2_with (at_make;refine zbM (zab.slice 75) [.slice none 0 0] _ 76 24 zdS.hs rfl Tryz.underlying35 zdS.hi x (fun _=>[]) _ rfl _ _ rfl _ _ n rfl rfl rfl rfl (by omega) (by omega) ?_;intro w1 sp1 hb1)
 go_loopw [12] (fun i wr=>∃ k:Nat,k≤n∧i=.int .i64 k∧∃ ce Ls,SlP (zab.slice 75) 76 wr w.heap.size w.heap.size n n k x ce Ls∧Below w.heap.size w wr) (fun i _=>n-(intOf i).toNat)
 case atStart=>exact ⟨0,Nat.zero_le _,rfl,_,_,sp1,hb1⟩
 case round=>
  clear sp1 hb1;obtain ⟨k,hk,rfl,ce,Ls,sp,hb⟩:=hrel
  by_cases hlt:k<n
  ·obtain ⟨b,off,rfl,hblt,hel⟩:=hc (by omega)
   obtain ⟨ck,hrk,hcell⟩:=zas (t:=0) hel hb hhi hblt hlt;obtain ⟨ao1,cap1,rfl⟩:=zbq hrk
   have c0:wr.cell? ⟨b,off+k,none⟩=some (.slice ao1 (x k).1 cap1):=by
    have:=hcell 0 (by decide)
    have e:off+(k*(zab.slice 75).sz+0)=off+k:=by show off+(k*1+0)=off+k;omega
    rw [e] at this;exact this
   clear hc hel hcell
   go_wp2_with fail
   refine (zfX _ (x k) hi wr hrk (Nat.le_trans hhi hb.size) (hn2 k hlt)).mono ?_;rintro e w2 ⟨v2,rfl,o2,hb2⟩;obtain ⟨bao1,bcap1,hv2⟩:=zbA o2;obtain rfl:=zaL hv2;obtain ⟨z0,s0⟩:=sp.some hb2 hlt (show 0<(zab.slice 75).sz by decide)
   have e0:k*(zab.slice 75).sz+0=k:=by show k*1+0=k;omega
   rw [e0] at s0;have sf0:=(sp.below hb2).frozen k;have N:=sp.next hb2 hlt o2 hb.size
   have e1:k*(zab.slice 75).sz=k:=by show k*1=k;omega
   rw [e1] at N;have N2:Below w.heap.size w (stN w2 w.heap.size k [.slice bao1 (x k).1 bcap1]):=(hb.trans (hb2.mono hb.size)).trans (zaK (Nat.le_refl _) _ _);clear o2 hb2 sp hb hv2
   go_wp2_with fail
   go_roundw
   case rel=>
    obtain ⟨ce',Ls',N⟩:=N;exact ⟨k+1,by omega,by go_num,ce',Ls',N,N2⟩
   case measure=>simp [intOf];omega
  ·obtain rfl:k=n:=by omega
   go_wp2;go_ret;exact ⟨_,rfl,sp.done (Nat.le_refl _),hb⟩
end Go.Proofs.YtonemlgejkapbaaGreat
