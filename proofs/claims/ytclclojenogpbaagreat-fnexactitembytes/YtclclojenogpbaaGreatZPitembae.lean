/- Steps of a region that draws: slices built, and two operations either of which may come up. -/
import Derived.StillTailTactics
import Derived.Test.YtclclojenogpbaaGreatZPitembad
set_option linter.unusedVariables false
set_option linter.unusedSimpArgs false
set_option maxHeartbeats 16000000
namespace Go.Proofs.YtclclojenogpbaaGreat
open Go.RowKit
section
variable {P:Program} {ops:Array Oper} {Q:Exit→Act→World→Prop} {md:Region.Mode} {S:World→Prop} {L:Nat}
theorem zbb {i:Nat} {o:Oper} {fuel:Nat} {listed:Array Bool} {a:Act} {w:World} (ho:ops[i]?=some o) (hr:Region.ready md ops listed=[i])
 (h:∀ K':Act→World→Prop,Shut (∀ a w,S w→zaS P md ops Q S L fuel (listed.setIfInBounds i true) a w→K' a w)→if Region.wanted o (yielded ops a.tmps)=true then Oper.wp P o a w K' Q else K' (a.put o.dst undef) w):zaS P md ops Q S L (fuel+1) listed a w:=by
 refine ⟨fun h0=>(by rw [hr] at h0;cases h0),fun j hj=>?_⟩;rw [hr] at hj
 obtain rfl:j=i:=by simpa using hj
 exact wpOp_step ho (fun K' hK=>h K' (fun a w hS hW=>hK a w ⟨fun _=>hS,hW⟩))
theorem zdp {i j:Nat} {o o':Oper} {fuel:Nat} {listed:Array Bool} {a:Act} {w:World} (ho:ops[i]?=some o) (ho':ops[j]?=some o') (hr:Region.ready md ops listed=[i,j])
 (h:∀ K':Act→World→Prop,Shut (∀ a w,S w→zaS P md ops Q S L fuel (listed.setIfInBounds i true) a w→K' a w)→if Region.wanted o (yielded ops a.tmps)=true then Oper.wp P o a w K' Q else K' (a.put o.dst undef) w)
 (h':∀ K':Act→World→Prop,Shut (∀ a w,S w→zaS P md ops Q S L fuel (listed.setIfInBounds j true) a w→K' a w)→if Region.wanted o' (yielded ops a.tmps)=true then Oper.wp P o' a w K' Q else K' (a.put o'.dst undef) w):zaS P md ops Q S L (fuel+1) listed a w:=by
 refine ⟨fun h0=>(by rw [hr] at h0;cases h0),fun k hk=>?_⟩;rw [hr] at hk
 simp only [List.mem_cons,List.not_mem_nil,or_false] at hk
 rcases hk with rfl | rfl
 ·exact wpOp_step ho (fun K' hK=>h K' (fun a w hS hW=>hK a w ⟨fun _=>hS,hW⟩))
 ·exact wpOp_step ho' (fun K' hK=>h' K' (fun a w hS hW=>hK a w ⟨fun _=>hS,hW⟩))
end
theorem zdq {ops:Array Oper} {o:Oper} {a:Act} {W:World} {K:Act→World→Prop} {Q:Exit→Act→World→Prop} {F:Prop} (hg:o.guard=none) (hop:o.op=Op.buildSlice 67 0 #[])
 (hK:K (a.put o.dst (.slice (some ⟨W.heap.size,0,none⟩) 0 0)) (W.alloc (.cells #[] 72))):if Region.wanted o (yielded ops a.tmps)=true then Oper.wp Tryz.prog o a W K Q else F:=by
 have hw:Region.wanted o (yielded ops a.tmps)=true:=by simp [Region.wanted,hg]
 rw [if_pos hw];unfold Oper.wp execOp
 simp only [hop]
 go_simp;exact hK
theorem zjM {ops:Array Oper} {o:Oper} {a:Act} {W:World} {K:Act→World→Prop} {Q:Exit→Act→World→Prop} {F:Prop} (hg:o.guard=none) (x:Operand) (hop:o.op=Op.buildSlice 67 1 #[(0,x)]) (r:RecD) (b6 b7 b8:Option Addr) (bk6 bk7 bk8:Nat) (hx:a.eval x=.agg #[.int .i64 r.kind,.int .i64 r.seq,.string r.name,.int .i64 r.length,.int .i64 r.group,.int .i64 r.row,.slice b6 r.rows.1 bk6,.slice b7 r.data.1 bk7,.slice b8 r.delta.1 bk8])
 (hK:K (a.put o.dst (.slice (some ⟨W.heap.size,0,none⟩) 1 1)) (W.alloc (.cells #[.int .i64 r.kind,.int .i64 r.seq,.string r.name,.int .i64 r.length,.int .i64 r.group,.int .i64 r.row,.slice b6 r.rows.1 bk6,.slice b7 r.data.1 bk7,.slice b8 r.delta.1 bk8] 72))):if Region.wanted o (yielded ops a.tmps)=true then Oper.wp Tryz.prog o a W K Q else F:=by
 have hw:Region.wanted o (yielded ops a.tmps)=true:=by simp [Region.wanted,hg]
 rw [if_pos hw];unfold Oper.wp execOp
 simp only [hop,List.map_toArray,List.map_cons,List.map_nil,hx]
 go_simp;exact hK
theorem zbH {ops:Array Oper} {o:Oper} {a:Act} {W:World} {K:Act→World→Prop} {Q:Exit→Act→World→Prop} {F:Prop} (hg:o.guard=none) (x:Operand) (hop:o.op=Op.buildSlice 67 1 #[(0,x)]) {w0:World} {hi0:Nat} {r:RecD} {cs:List Value} (hr:zab.rd w0 hi0 r cs) (hx:a.eval x=.agg cs.toArray)
 (hK:K (a.put o.dst (.slice (some ⟨W.heap.size,0,none⟩) 1 1)) (W.alloc (.cells cs.toArray 72))):if Region.wanted o (yielded ops a.tmps)=true then Oper.wp Tryz.prog o a W K Q else F:=by
 obtain ⟨b6,bk6,b7,bk7,b8,bk8,rfl,-⟩:=zaP hr;exact zjM hg x hop r b6 b7 b8 bk6 bk7 bk8 hx hK
end Go.Proofs.YtclclojenogpbaaGreat
namespace Go.Proofs.YtclclojenogpbaaGreat
open Go.RowKit F256
open Go.Maps (Keyed)
set_option maxRecDepth 20000 in
theorem zlq {w:World} {lo B:Nat} {s:Nat→Int} {k:Nat} {x:Nat→RecD} {ce:Nat→List Value} {v:Value} {b1 b2 b3 b4 b5:Nat} (h:Ldg w lo B s k k x ce v b1 b2 b3 b4 b5) (hk:k≤1000000) (hlo:lo≤w.heap.size)
 {r:RecD} {ao6 ao7 ao8:Option Addr} {cap6 cap7 cap8:Nat} (hx:x k=r) (hc:ce k=[.int .i64 r.kind,.int .i64 r.seq,.string r.name,.int .i64 r.length,.int .i64 r.group,.int .i64 r.row,.slice ao6 r.rows.1 cap6,.slice ao7 r.data.1 cap7,.slice ao8 r.delta.1 cap8]) (hkd:r.kind=1) (hn:r.name.size≤maxLen) (hs:-9223372036854775808≤r.seq∧r.seq≤9223372036854775807) (hg:-9223372036854775808≤r.group∧r.group≤9223372036854775807) (hw:-9223372036854775808≤r.row∧r.row≤9223372036854775807) :
 Calls Tryz.prog 147 #[.pointer (some ⟨B,0,none⟩),.iface 212 (.agg #[.int .i64 r.kind,.int .i64 r.seq,.string r.name,.int .i64 r.length,.int .i64 r.group,.int .i64 r.row,.slice ao6 r.rows.1 cap6,.slice ao7 r.data.1 cap7,.slice ao8 r.delta.1 cap8])] w fun e w'=>e=.returned (.tuple #[])∧(∃ v',Ldg w' lo B s (k+1) (k+1) x ce v' b1 b2 b3 b4 b5∧EntQ w w' v v' [B,b1,b2,b3,b4,b5])∧Below lo w w':=by
 have HX:=hid hx;have HC:=hid hc;have HKD:=hid hkd
 have HEV:Hid (entV (x k).kind (ce k)=.iface 212 (.agg (rwR r ao6 cap6 ao7 cap7 ao8 cap8).toArray)):=by
  show entV (x k).kind (ce k)=.iface 212 (.agg (rwR r ao6 cap6 ao7 cap7 ao8 cap8).toArray)
  unfold entV entT;rw [hx,hc]
  simp [hkd]
 clear hx hc hkd;obtain ⟨i0,hi,hz0,hz1,hz2⟩:=info_parts zed;have HL:=hid h;obtain ⟨ao,cap,hv⟩:=zbX h.row;subst hv;have x9:w.cell? ⟨B,9,none⟩=some (.slice ao k cap):=h.box.cell 9;have O0:=h.row;clear h;have TA:=ta00;have bA:w.grownBy (w.alloc (.cells #[.iface 212 (.agg (rwR r ao6 cap6 ao7 cap7 ao8 cap8).toArray)] 197)) none:=World.grownBy_alloc _ _ _
 go_enter Tryz.func147,Tryz.ntmps147
 go_upto_region 4 with (at_builtin;refine wpList_append_own_at _ rfl _ _ 192 rfl lo 197 i0 .nilIface 1 16 Tryz.underlying192 hi hz0 hz1 hz2 rfl (by decide) _ _ _ rfl (O0.alloc _) ⟨w.heap.size,0,none⟩ 1 1 [.iface 212 (.agg (rwR r ao6 cap6 ao7 cap7 ao8 cap8).toArray)] rfl rfl (cell_one_new _ _ _) (fun u hu=>by simp at hu;subst hu;rfl) (by unfold maxLen;omega) (by omega) (by simp;omega) ?_;intro v' w1 O1 g1 hnil hloc;obtain ⟨ao',cap',rfl⟩:=zbX O1;have L1:=HL.out.grown bA g1;have z9:=L1.cell 9;have z9f:=L1.frozen 9;clear hnil)
 have L2:Ldg ((w1.setCell ⟨B,9,none⟩ (.slice ao' (k+1) cap')).alloc (.cells (rwR r ao6 cap6 ao7 cap7 ao8 cap8).toArray 212)) lo B s (k+1) k x ce (.slice ao' (k+1) cap') b1 b2 b3 b4 b5:=HL.out.laid g1 (by rw [HEV.out];exact O1) hloc
 have X2:Box ((w1.setCell ⟨B,9,none⟩ (.slice ao' (k+1) cap')).alloc (.cells (rwR r ao6 cap6 ao7 cap7 ao8 cap8).toArray 212)) w1.heap.size (rwR r ao6 cap6 ao7 cap7 ao8 cap8).toArray 212:=by
  have:=zas (w1.setCell ⟨B,9,none⟩ (.slice ao' (k+1) cap')) (rwR r ao6 cap6 ao7 cap7 ao8 cap8).toArray 212;rw [show (w1.setCell ⟨B,9,none⟩ (.slice ao' (k+1) cap')).heap.size=w1.heap.size by simp] at this;exact this
 have B2:Below lo w ((w1.setCell ⟨B,9,none⟩ (.slice ao' (k+1) cap')).alloc (.cells (rwR r ao6 cap6 ao7 cap7 ao8 cap8).toArray 212)):=by
  have q1:Below lo w w1:=zdm HL.out g1 hlo;exact (q1.setCell HL.out.low.1 _).alloc (by have:=q1.size;simp;omega) _
 have A2:∀ b,b<w.heap.size→b≠B→(Value.slice ao k cap).ownBlock≠some b→((w1.setCell ⟨B,9,none⟩ (.slice ao' (k+1) cap')).alloc (.cells (rwR r ao6 cap6 ao7 cap7 ao8 cap8).toArray 212)).heap[b]?=w.heap[b]?:=fun b hb hB hv=>by
  have sz:w.heap.size+1≤w1.heap.size:=by have:=g1.size;simp at this;omega
  rw [Below.heap_alloc _ _ b (by simp;omega),heap_setCell_other w1 ⟨B,9,none⟩ b _ hB];exact zgb bA g1 hb (fun e=>hv e.symm)
 have HLO:Hid ((Value.slice ao' (k+1) cap').ownBlock=(Value.slice ao k cap).ownBlock∨∃ g,w.heap.size≤g∧(Value.slice ao' (k+1) cap').ownBlock=some g):=hloc.imp id (fun e=>⟨_,by simp,e⟩);obtain ⟨W2,hW2⟩:∃ y,y=((w1.setCell ⟨B,9,none⟩ (.slice ao' (k+1) cap')).alloc (.cells (rwR r ao6 cap6 ao7 cap7 ao8 cap8).toArray 212)):=⟨_,rfl⟩;rw [← hW2] at L2 X2 B2 A2 ⊢;clear hW2 TA  O0 O1 g1 hloc bA x9 z9 z9f L1 hi hz0 hz1 hz2;refine wp_region_still_tail 9 (by kernel_rfl) (by kernel_rfl) ?_;obtain ⟨WB,hWB⟩:∃ y:World,y={ W2 with drawn:=W2.drawn+1 }:=⟨_,rfl⟩
 have L3:Ldg WB lo B s (k+1) k x ce (.slice ao' (k+1) cap') b1 b2 b3 b4 b5:=by rw [hWB];exact L2.drawn _
 have X3:Box WB w1.heap.size (rwR r ao6 cap6 ao7 cap7 ao8 cap8).toArray 212:=by rw [hWB];exact X2
 have B3:Below lo w WB:=by rw [hWB];exact ⟨B2.os,B2.tape,B2.output,B2.size,B2.block⟩
 have HA3:Hid (∀ b,b<w.heap.size→b≠B→(Value.slice ao k cap).ownBlock≠some b→WB.heap[b]?=w.heap[b]?):=by rw [hWB];exact A2
 rw [← hWB];clear hWB L2 X2 B2 A2;have HL3:=hid L3;have HZ3:=hid B3.size;have HB3:=hid B3;have c0:WB.cell? ⟨w1.heap.size,0,none⟩=some (.int .i64 r.kind):=X3.cell 0;have c1:WB.cell? ⟨w1.heap.size,1,none⟩=some (.int .i64 r.seq):=X3.cell 1;have c2:WB.cell? ⟨w1.heap.size,2,none⟩=some (.string r.name):=X3.cell 2;have c3:WB.cell? ⟨w1.heap.size,3,none⟩=some (.int .i64 r.length):=X3.cell 3;have c4:WB.cell? ⟨w1.heap.size,4,none⟩=some (.int .i64 r.group):=X3.cell 4;have c5:WB.cell? ⟨w1.heap.size,5,none⟩=some (.int .i64 r.row):=X3.cell 5;have c6:WB.cell? ⟨w1.heap.size,6,none⟩=some (.slice ao6 r.rows.1 cap6):=X3.cell 6;have c7:WB.cell? ⟨w1.heap.size,7,none⟩=some (.slice ao7 r.data.1 cap7):=X3.cell 7;have c8:WB.cell? ⟨w1.heap.size,8,none⟩=some (.slice ao8 r.delta.1 cap8):=X3.cell 8;have d1:WB.cell? ⟨B,10,none⟩=some (.map (some b1)):=L3.box.cell 10;obtain ⟨kl,hkl⟩:=zmL hn;obtain ⟨w',hrun,M,G,S⟩:=L3.m1.put keyS Tryz.underlying188 (by unfold maxLen;omega) hkl (.agg (rwR r ao6 cap6 ao7 cap7 ao8 cap8).toArray);have HM:=hid M;have HE:Hid (∀ b,b<WB.heap.size→b∉[b1]→w'.heap[b]?=WB.heap[b]?):=fun b hb hn=>G.block b hb (fun e=>by cases e;simp at hn);have HBE:Hid (Below lo w w'):=B3.trans ⟨G.os,G.tape,G.output,G.size,fun b hb=>G.block b (by have:=B3.size;omega) (fun e=>by cases e;have:=L3.low;omega)⟩;clear M G L3 X3 B3 hkl
 simp only [List.take_succ_cons,List.take_zero,List.drop_succ_cons,List.drop_zero]
 repeat still_step
 refine wpStill_nil ?_;go_wp2;refine bodyPost_end (v:=.tuple #[]) (by simp [results,Tryz.results147]) rfl ?_
 exact ⟨rfl,⟨_,HL3.out.next (T:=[b1]) HE.out (fun b hb=>by simp at hb ⊢;omega) (by rw [show newF x ce (k+1)=putF (newF x ce k) (.string (x k).name) (.agg (ce k).toArray) from zga (show (x k).kind=1 by rw [HX.out,HKD.out]),HX.out,HC.out];exact HM.out)
  (by rw [show movF x (k+1)=movF x k from zb5 (show ¬ (x k).kind=2 by rw [HX.out,HKD.out];decide)];exact (HL3.out.m2.block (HE.out b2 HL3.out.m2.lt (by have:=HL3.out.nd;simp at this ⊢;omega))).mono (Nat.le_succ k))
  (by rw [show donF x (k+1)=donF x k from zb5 (show ¬ (x k).kind=3 by rw [HX.out,HKD.out];decide)];exact (HL3.out.m3.block (HE.out b3 HL3.out.m3.lt (by have:=HL3.out.nd;simp at this ⊢;omega))).mono (Nat.le_succ k))
  (by rw [show endF x (k+1)=endF x k from zb5 (show ¬ (x k).kind=3 by rw [HX.out,HKD.out];decide)];exact (HL3.out.m4.block (HE.out b4 HL3.out.m4.lt (by have:=HL3.out.nd;simp at this ⊢;omega))).mono (Nat.le_succ k))
  (by rw [show shaF x (k+1)=shaF x k from zcj (show ¬ (x k).kind=4 by rw [HX.out,HKD.out];decide)];exact (HL3.out.m5.block (HE.out b5 HL3.out.m5.lt (by have:=HL3.out.nd;simp at this ⊢;omega))).mono (Nat.le_succ k)),⟨HLO.out,fun b hb hT hv=>(HE.out b (Nat.lt_of_lt_of_le hb HZ3.out) (fun q=>hT (by simp at q ⊢;omega))).trans (HA3.out b hb (fun e=>hT (by rw [e];simp)) hv)⟩⟩,HBE.out⟩
set_option maxRecDepth 20000 in
theorem zlr {w:World} {lo B:Nat} {s:Nat→Int} {k:Nat} {x:Nat→RecD} {ce:Nat→List Value} {v:Value} {b1 b2 b3 b4 b5:Nat} (h:Ldg w lo B s k k x ce v b1 b2 b3 b4 b5) (hk:k≤1000000) (hlo:lo≤w.heap.size)
 {r:RecD} {ao6 ao7 ao8:Option Addr} {cap6 cap7 cap8:Nat} (hx:x k=r) (hc:ce k=[.int .i64 r.kind,.int .i64 r.seq,.string r.name,.int .i64 r.length,.int .i64 r.group,.int .i64 r.row,.slice ao6 r.rows.1 cap6,.slice ao7 r.data.1 cap7,.slice ao8 r.delta.1 cap8]) (hkd:r.kind=2) (hn:r.name.size≤maxLen) (hs:-9223372036854775808≤r.seq∧r.seq≤9223372036854775807) (hg:-9223372036854775808≤r.group∧r.group≤9223372036854775807) (hw:-9223372036854775808≤r.row∧r.row≤9223372036854775807) :
 Calls Tryz.prog 147 #[.pointer (some ⟨B,0,none⟩),.iface 230 (.agg #[.int .i64 r.kind,.int .i64 r.seq,.string r.name,.int .i64 r.length,.int .i64 r.group,.int .i64 r.row,.slice ao6 r.rows.1 cap6,.slice ao7 r.data.1 cap7,.slice ao8 r.delta.1 cap8])] w fun e w'=>e=.returned (.tuple #[])∧(∃ v',Ldg w' lo B s (k+1) (k+1) x ce v' b1 b2 b3 b4 b5∧EntQ w w' v v' [B,b1,b2,b3,b4,b5])∧Below lo w w':=by
 have HX:=hid hx;have HC:=hid hc;have HKD:=hid hkd
 have HEV:Hid (entV (x k).kind (ce k)=.iface 230 (.agg (rwR r ao6 cap6 ao7 cap7 ao8 cap8).toArray)):=by
  show entV (x k).kind (ce k)=.iface 230 (.agg (rwR r ao6 cap6 ao7 cap7 ao8 cap8).toArray)
  unfold entV entT;rw [hx,hc]
  simp [hkd]
 clear hx hc hkd;obtain ⟨i0,hi,hz0,hz1,hz2⟩:=info_parts zed;have HL:=hid h;obtain ⟨ao,cap,hv⟩:=zbX h.row;subst hv;have x9:w.cell? ⟨B,9,none⟩=some (.slice ao k cap):=h.box.cell 9;have O0:=h.row;clear h;have TA:=ta11;have TA0:=ta10;have bA:w.grownBy (w.alloc (.cells #[.iface 230 (.agg (rwR r ao6 cap6 ao7 cap7 ao8 cap8).toArray)] 197)) none:=World.grownBy_alloc _ _ _
 go_enter Tryz.func147,Tryz.ntmps147
 go_upto_region 7 with (at_builtin;refine wpList_append_own_at _ rfl _ _ 192 rfl lo 197 i0 .nilIface 1 16 Tryz.underlying192 hi hz0 hz1 hz2 rfl (by decide) _ _ _ rfl (O0.alloc _) ⟨w.heap.size,0,none⟩ 1 1 [.iface 230 (.agg (rwR r ao6 cap6 ao7 cap7 ao8 cap8).toArray)] rfl rfl (cell_one_new _ _ _) (fun u hu=>by simp at hu;subst hu;rfl) (by unfold maxLen;omega) (by omega) (by simp;omega) ?_;intro v' w1 O1 g1 hnil hloc;obtain ⟨ao',cap',rfl⟩:=zbX O1;have L1:=HL.out.grown bA g1;have z9:=L1.cell 9;have z9f:=L1.frozen 9;clear hnil)
 have L2:Ldg ((w1.setCell ⟨B,9,none⟩ (.slice ao' (k+1) cap')).alloc (.cells (rwR r ao6 cap6 ao7 cap7 ao8 cap8).toArray 230)) lo B s (k+1) k x ce (.slice ao' (k+1) cap') b1 b2 b3 b4 b5:=HL.out.laid g1 (by rw [HEV.out];exact O1) hloc
 have X2:Box ((w1.setCell ⟨B,9,none⟩ (.slice ao' (k+1) cap')).alloc (.cells (rwR r ao6 cap6 ao7 cap7 ao8 cap8).toArray 230)) w1.heap.size (rwR r ao6 cap6 ao7 cap7 ao8 cap8).toArray 230:=by
  have:=zas (w1.setCell ⟨B,9,none⟩ (.slice ao' (k+1) cap')) (rwR r ao6 cap6 ao7 cap7 ao8 cap8).toArray 230;rw [show (w1.setCell ⟨B,9,none⟩ (.slice ao' (k+1) cap')).heap.size=w1.heap.size by simp] at this;exact this
 have B2:Below lo w ((w1.setCell ⟨B,9,none⟩ (.slice ao' (k+1) cap')).alloc (.cells (rwR r ao6 cap6 ao7 cap7 ao8 cap8).toArray 230)):=by
  have q1:Below lo w w1:=zdm HL.out g1 hlo;exact (q1.setCell HL.out.low.1 _).alloc (by have:=q1.size;simp;omega) _
 have A2:∀ b,b<w.heap.size→b≠B→(Value.slice ao k cap).ownBlock≠some b→((w1.setCell ⟨B,9,none⟩ (.slice ao' (k+1) cap')).alloc (.cells (rwR r ao6 cap6 ao7 cap7 ao8 cap8).toArray 230)).heap[b]?=w.heap[b]?:=fun b hb hB hv=>by
  have sz:w.heap.size+1≤w1.heap.size:=by have:=g1.size;simp at this;omega
  rw [Below.heap_alloc _ _ b (by simp;omega),heap_setCell_other w1 ⟨B,9,none⟩ b _ hB];exact zgb bA g1 hb (fun e=>hv e.symm)
 have HLO:Hid ((Value.slice ao' (k+1) cap').ownBlock=(Value.slice ao k cap).ownBlock∨∃ g,w.heap.size≤g∧(Value.slice ao' (k+1) cap').ownBlock=some g):=hloc.imp id (fun e=>⟨_,by simp,e⟩);obtain ⟨W2,hW2⟩:∃ y,y=((w1.setCell ⟨B,9,none⟩ (.slice ao' (k+1) cap')).alloc (.cells (rwR r ao6 cap6 ao7 cap7 ao8 cap8).toArray 230)):=⟨_,rfl⟩;rw [← hW2] at L2 X2 B2 A2 ⊢;clear hW2 TA TA0 O0 O1 g1 hloc bA x9 z9 z9f L1 hi hz0 hz1 hz2;refine wp_region_still_tail 10 (by kernel_rfl) (by kernel_rfl) ?_;obtain ⟨WB,hWB⟩:∃ y:World,y={ W2 with drawn:=W2.drawn+1 }:=⟨_,rfl⟩
 have L3:Ldg WB lo B s (k+1) k x ce (.slice ao' (k+1) cap') b1 b2 b3 b4 b5:=by rw [hWB];exact L2.drawn _
 have X3:Box WB w1.heap.size (rwR r ao6 cap6 ao7 cap7 ao8 cap8).toArray 230:=by rw [hWB];exact X2
 have B3:Below lo w WB:=by rw [hWB];exact ⟨B2.os,B2.tape,B2.output,B2.size,B2.block⟩
 have HA3:Hid (∀ b,b<w.heap.size→b≠B→(Value.slice ao k cap).ownBlock≠some b→WB.heap[b]?=w.heap[b]?):=by rw [hWB];exact A2
 rw [← hWB];clear hWB L2 X2 B2 A2;have HL3:=hid L3;have HZ3:=hid B3.size;have HB3:=hid B3;have c0:WB.cell? ⟨w1.heap.size,0,none⟩=some (.int .i64 r.kind):=X3.cell 0;have c1:WB.cell? ⟨w1.heap.size,1,none⟩=some (.int .i64 r.seq):=X3.cell 1;have c2:WB.cell? ⟨w1.heap.size,2,none⟩=some (.string r.name):=X3.cell 2;have c3:WB.cell? ⟨w1.heap.size,3,none⟩=some (.int .i64 r.length):=X3.cell 3;have c4:WB.cell? ⟨w1.heap.size,4,none⟩=some (.int .i64 r.group):=X3.cell 4;have c5:WB.cell? ⟨w1.heap.size,5,none⟩=some (.int .i64 r.row):=X3.cell 5;have c6:WB.cell? ⟨w1.heap.size,6,none⟩=some (.slice ao6 r.rows.1 cap6):=X3.cell 6;have c7:WB.cell? ⟨w1.heap.size,7,none⟩=some (.slice ao7 r.data.1 cap7):=X3.cell 7;have c8:WB.cell? ⟨w1.heap.size,8,none⟩=some (.slice ao8 r.delta.1 cap8):=X3.cell 8;have d2:WB.cell? ⟨B,11,none⟩=some (.map (some b2)):=L3.box.cell 11;obtain ⟨kl,hkl⟩:=zmM hs;have hlook:=L3.m2.look keyI Tryz.underlying189 (zkM _) hkl;have hcn:=znL (fun i=>(x i).kind=2) (fun i=>.int .i64 (x i).seq) (.int .i64 r.seq) k;rw [show movF x k (.int .i64 r.seq)=cntF (fun i=>(x i).kind=2) (fun i=>.int .i64 (x i).seq) k (.int .i64 r.seq) from rfl,zhr] at hlook;obtain ⟨cn,hcn2⟩:∃ cn,cn=cN (fun i=>(x i).kind=2) (fun i=>.int .i64 (x i).seq) (.int .i64 r.seq) k:=⟨_,rfl⟩;have HCN:=hid hcn2;rw [← hcn2] at hlook hcn
 have hwr:IntKind.i64.wrap ((cn:Int)+1)=(cn:Int)+1:=by rw [IntKind.wrap_i64];omega
 obtain ⟨w',hrun,M,G,S⟩:=L3.m2.put keyI Tryz.underlying189 (by unfold maxLen;omega) hkl (.int .i64 ((cn:Int)+1));have HM:=hid M;have HE:Hid (∀ b,b<WB.heap.size→b∉[b2]→w'.heap[b]?=WB.heap[b]?):=fun b hb hn=>G.block b hb (fun e=>by cases e;simp at hn);have HBE:Hid (Below lo w w'):=B3.trans ⟨G.os,G.tape,G.output,G.size,fun b hb=>G.block b (by have:=B3.size;omega) (fun e=>by cases e;have:=L3.low;omega)⟩;clear M G L3 X3 B3 hkl hcn2
 simp only [List.take_succ_cons,List.take_zero,List.drop_succ_cons,List.drop_zero]
 repeat still_step
 refine wpStill_nil ?_;go_wp2;refine bodyPost_end (v:=.tuple #[]) (by simp [results,Tryz.results147]) rfl ?_
 exact ⟨rfl,⟨_,HL3.out.next (T:=[b2]) HE.out (fun b hb=>by simp at hb ⊢;omega) (by rw [show newF x ce (k+1)=newF x ce k from zcj (show ¬ (x k).kind=1 by rw [HX.out,HKD.out];decide)];exact (HL3.out.m1.block (HE.out b1 HL3.out.m1.lt (by have:=HL3.out.nd;simp at this ⊢;omega))).mono (Nat.le_succ k))
  (by rw [show movF x (k+1)=putF (movF x k) (.int .i64 (x k).seq) (.int .i64 ((cN (fun i=>(x i).kind=2) (fun i=>.int .i64 (x i).seq) (.int .i64 (x k).seq) k:Int)+1)) from zhq (show (x k).kind=2 by rw [HX.out,HKD.out]),HX.out,← HCN.out];exact HM.out)
  (by rw [show donF x (k+1)=donF x k from zb5 (show ¬ (x k).kind=3 by rw [HX.out,HKD.out];decide)];exact (HL3.out.m3.block (HE.out b3 HL3.out.m3.lt (by have:=HL3.out.nd;simp at this ⊢;omega))).mono (Nat.le_succ k))
  (by rw [show endF x (k+1)=endF x k from zb5 (show ¬ (x k).kind=3 by rw [HX.out,HKD.out];decide)];exact (HL3.out.m4.block (HE.out b4 HL3.out.m4.lt (by have:=HL3.out.nd;simp at this ⊢;omega))).mono (Nat.le_succ k))
  (by rw [show shaF x (k+1)=shaF x k from zcj (show ¬ (x k).kind=4 by rw [HX.out,HKD.out];decide)];exact (HL3.out.m5.block (HE.out b5 HL3.out.m5.lt (by have:=HL3.out.nd;simp at this ⊢;omega))).mono (Nat.le_succ k)),⟨HLO.out,fun b hb hT hv=>(HE.out b (Nat.lt_of_lt_of_le hb HZ3.out) (fun q=>hT (by simp at q ⊢;omega))).trans (HA3.out b hb (fun e=>hT (by rw [e];simp)) hv)⟩⟩,HBE.out⟩
set_option maxRecDepth 20000 in
theorem zjN {w:World} {lo B:Nat} {s:Nat→Int} {k:Nat} {x:Nat→RecD} {ce:Nat→List Value} {v:Value} {b1 b2 b3 b4 b5:Nat} (h:Ldg w lo B s k k x ce v b1 b2 b3 b4 b5) (hk:k≤1000000) (hlo:lo≤w.heap.size)
 {r:RecD} {ao6 ao7 ao8:Option Addr} {cap6 cap7 cap8:Nat} (hx:x k=r) (hc:ce k=[.int .i64 r.kind,.int .i64 r.seq,.string r.name,.int .i64 r.length,.int .i64 r.group,.int .i64 r.row,.slice ao6 r.rows.1 cap6,.slice ao7 r.data.1 cap7,.slice ao8 r.delta.1 cap8]) (hkd:r.kind=4) (hn:r.name.size≤maxLen) (hs:-9223372036854775808≤r.seq∧r.seq≤9223372036854775807) (hg:-9223372036854775808≤r.group∧r.group≤9223372036854775807) (hw:-9223372036854775808≤r.row∧r.row≤9223372036854775807) :
 Calls Tryz.prog 147 #[.pointer (some ⟨B,0,none⟩),.iface 234 (.agg #[.int .i64 r.kind,.int .i64 r.seq,.string r.name,.int .i64 r.length,.int .i64 r.group,.int .i64 r.row,.slice ao6 r.rows.1 cap6,.slice ao7 r.data.1 cap7,.slice ao8 r.delta.1 cap8])] w fun e w'=>e=.returned (.tuple #[])∧(∃ v',Ldg w' lo B s (k+1) (k+1) x ce v' b1 b2 b3 b4 b5∧EntQ w w' v v' [B,b1,b2,b3,b4,b5])∧Below lo w w':=by
 have HX:=hid hx;have HC:=hid hc;have HKD:=hid hkd
 have HEV:Hid (entV (x k).kind (ce k)=.iface 234 (.agg (rwR r ao6 cap6 ao7 cap7 ao8 cap8).toArray)):=by
  show entV (x k).kind (ce k)=.iface 234 (.agg (rwR r ao6 cap6 ao7 cap7 ao8 cap8).toArray)
  unfold entV entT;rw [hx,hc]
  simp [hkd]
 clear hx hc hkd;obtain ⟨i0,hi,hz0,hz1,hz2⟩:=info_parts zed;have HL:=hid h;obtain ⟨ao,cap,hv⟩:=zbX h.row;subst hv;have x9:w.cell? ⟨B,9,none⟩=some (.slice ao k cap):=h.box.cell 9;have O0:=h.row;clear h;have TA:=ta33;have TA0:=ta30;have TA1:=ta31;have TA2:=ta32;have bA:w.grownBy (w.alloc (.cells #[.iface 234 (.agg (rwR r ao6 cap6 ao7 cap7 ao8 cap8).toArray)] 197)) none:=World.grownBy_alloc _ _ _
 go_enter Tryz.func147,Tryz.ntmps147
 go_upto_region 14 with (at_builtin;refine wpList_append_own_at _ rfl _ _ 192 rfl lo 197 i0 .nilIface 1 16 Tryz.underlying192 hi hz0 hz1 hz2 rfl (by decide) _ _ _ rfl (O0.alloc _) ⟨w.heap.size,0,none⟩ 1 1 [.iface 234 (.agg (rwR r ao6 cap6 ao7 cap7 ao8 cap8).toArray)] rfl rfl (cell_one_new _ _ _) (fun u hu=>by simp at hu;subst hu;rfl) (by unfold maxLen;omega) (by omega) (by simp;omega) ?_;intro v' w1 O1 g1 hnil hloc;obtain ⟨ao',cap',rfl⟩:=zbX O1;have L1:=HL.out.grown bA g1;have z9:=L1.cell 9;have z9f:=L1.frozen 9;clear hnil)
 have L2:Ldg ((w1.setCell ⟨B,9,none⟩ (.slice ao' (k+1) cap')).alloc (.cells (rwR r ao6 cap6 ao7 cap7 ao8 cap8).toArray 234)) lo B s (k+1) k x ce (.slice ao' (k+1) cap') b1 b2 b3 b4 b5:=HL.out.laid g1 (by rw [HEV.out];exact O1) hloc
 have X2:Box ((w1.setCell ⟨B,9,none⟩ (.slice ao' (k+1) cap')).alloc (.cells (rwR r ao6 cap6 ao7 cap7 ao8 cap8).toArray 234)) w1.heap.size (rwR r ao6 cap6 ao7 cap7 ao8 cap8).toArray 234:=by
  have:=zas (w1.setCell ⟨B,9,none⟩ (.slice ao' (k+1) cap')) (rwR r ao6 cap6 ao7 cap7 ao8 cap8).toArray 234;rw [show (w1.setCell ⟨B,9,none⟩ (.slice ao' (k+1) cap')).heap.size=w1.heap.size by simp] at this;exact this
 have B2:Below lo w ((w1.setCell ⟨B,9,none⟩ (.slice ao' (k+1) cap')).alloc (.cells (rwR r ao6 cap6 ao7 cap7 ao8 cap8).toArray 234)):=by
  have q1:Below lo w w1:=zdm HL.out g1 hlo;exact (q1.setCell HL.out.low.1 _).alloc (by have:=q1.size;simp;omega) _
 have A2:∀ b,b<w.heap.size→b≠B→(Value.slice ao k cap).ownBlock≠some b→((w1.setCell ⟨B,9,none⟩ (.slice ao' (k+1) cap')).alloc (.cells (rwR r ao6 cap6 ao7 cap7 ao8 cap8).toArray 234)).heap[b]?=w.heap[b]?:=fun b hb hB hv=>by
  have sz:w.heap.size+1≤w1.heap.size:=by have:=g1.size;simp at this;omega
  rw [Below.heap_alloc _ _ b (by simp;omega),heap_setCell_other w1 ⟨B,9,none⟩ b _ hB];exact zgb bA g1 hb (fun e=>hv e.symm)
 have HLO:Hid ((Value.slice ao' (k+1) cap').ownBlock=(Value.slice ao k cap).ownBlock∨∃ g,w.heap.size≤g∧(Value.slice ao' (k+1) cap').ownBlock=some g):=hloc.imp id (fun e=>⟨_,by simp,e⟩);obtain ⟨W2,hW2⟩:∃ y,y=((w1.setCell ⟨B,9,none⟩ (.slice ao' (k+1) cap')).alloc (.cells (rwR r ao6 cap6 ao7 cap7 ao8 cap8).toArray 234)):=⟨_,rfl⟩;rw [← hW2] at L2 X2 B2 A2 ⊢;clear hW2 TA TA0 TA1 TA2 O0 O1 g1 hloc bA x9 z9 z9f L1 hi hz0 hz1 hz2;refine wp_region_still_tail 17 (by kernel_rfl) (by kernel_rfl) ?_;obtain ⟨WB,hWB⟩:∃ y:World,y={ W2 with drawn:=W2.drawn+1 }:=⟨_,rfl⟩
 have L3:Ldg WB lo B s (k+1) k x ce (.slice ao' (k+1) cap') b1 b2 b3 b4 b5:=by rw [hWB];exact L2.drawn _
 have X3:Box WB w1.heap.size (rwR r ao6 cap6 ao7 cap7 ao8 cap8).toArray 234:=by rw [hWB];exact X2
 have B3:Below lo w WB:=by rw [hWB];exact ⟨B2.os,B2.tape,B2.output,B2.size,B2.block⟩
 have HA3:Hid (∀ b,b<w.heap.size→b≠B→(Value.slice ao k cap).ownBlock≠some b→WB.heap[b]?=w.heap[b]?):=by rw [hWB];exact A2
 rw [← hWB];clear hWB L2 X2 B2 A2;have HL3:=hid L3;have HZ3:=hid B3.size;have HB3:=hid B3;have c0:WB.cell? ⟨w1.heap.size,0,none⟩=some (.int .i64 r.kind):=X3.cell 0;have c1:WB.cell? ⟨w1.heap.size,1,none⟩=some (.int .i64 r.seq):=X3.cell 1;have c2:WB.cell? ⟨w1.heap.size,2,none⟩=some (.string r.name):=X3.cell 2;have c3:WB.cell? ⟨w1.heap.size,3,none⟩=some (.int .i64 r.length):=X3.cell 3;have c4:WB.cell? ⟨w1.heap.size,4,none⟩=some (.int .i64 r.group):=X3.cell 4;have c5:WB.cell? ⟨w1.heap.size,5,none⟩=some (.int .i64 r.row):=X3.cell 5;have c6:WB.cell? ⟨w1.heap.size,6,none⟩=some (.slice ao6 r.rows.1 cap6):=X3.cell 6;have c7:WB.cell? ⟨w1.heap.size,7,none⟩=some (.slice ao7 r.data.1 cap7):=X3.cell 7;have c8:WB.cell? ⟨w1.heap.size,8,none⟩=some (.slice ao8 r.delta.1 cap8):=X3.cell 8;have d5:WB.cell? ⟨B,14,none⟩=some (.map (some b5)):=L3.box.cell 14;obtain ⟨kl,hkl⟩:=zjH hg hw;obtain ⟨w',hrun,M,G,S⟩:=L3.m5.put znK Tryz.underlying191 (by unfold maxLen;omega) hkl (.int .i64 r.seq);have HM:=hid M;have HE:Hid (∀ b,b<WB.heap.size→b∉[b5]→w'.heap[b]?=WB.heap[b]?):=fun b hb hn=>G.block b hb (fun e=>by cases e;simp at hn);have HBE:Hid (Below lo w w'):=B3.trans ⟨G.os,G.tape,G.output,G.size,fun b hb=>G.block b (by have:=B3.size;omega) (fun e=>by cases e;have:=L3.low;omega)⟩;clear M G L3 X3 B3 hkl
 simp only [List.take_succ_cons,List.take_zero,List.drop_succ_cons,List.drop_zero]
 repeat still_step
 refine wpStill_nil ?_;go_wp2;refine bodyPost_end (v:=.tuple #[]) (by simp [results,Tryz.results147]) rfl ?_
 exact ⟨rfl,⟨_,HL3.out.next (T:=[b5]) HE.out (fun b hb=>by simp at hb ⊢;omega) (by rw [show newF x ce (k+1)=newF x ce k from zcj (show ¬ (x k).kind=1 by rw [HX.out,HKD.out];decide)];exact (HL3.out.m1.block (HE.out b1 HL3.out.m1.lt (by have:=HL3.out.nd;simp at this ⊢;omega))).mono (Nat.le_succ k))
  (by rw [show movF x (k+1)=movF x k from zb5 (show ¬ (x k).kind=2 by rw [HX.out,HKD.out];decide)];exact (HL3.out.m2.block (HE.out b2 HL3.out.m2.lt (by have:=HL3.out.nd;simp at this ⊢;omega))).mono (Nat.le_succ k))
  (by rw [show donF x (k+1)=donF x k from zb5 (show ¬ (x k).kind=3 by rw [HX.out,HKD.out];decide)];exact (HL3.out.m3.block (HE.out b3 HL3.out.m3.lt (by have:=HL3.out.nd;simp at this ⊢;omega))).mono (Nat.le_succ k))
  (by rw [show endF x (k+1)=endF x k from zb5 (show ¬ (x k).kind=3 by rw [HX.out,HKD.out];decide)];exact (HL3.out.m4.block (HE.out b4 HL3.out.m4.lt (by have:=HL3.out.nd;simp at this ⊢;omega))).mono (Nat.le_succ k))
  (by rw [show shaF x (k+1)=putF (shaF x k) (.agg #[.int .i64 (x k).group,.int .i64 (x k).row]) (.int .i64 (x k).seq) from zga (show (x k).kind=4 by rw [HX.out,HKD.out]),HX.out];exact HM.out),⟨HLO.out,fun b hb hT hv=>(HE.out b (Nat.lt_of_lt_of_le hb HZ3.out) (fun q=>hT (by simp at q ⊢;omega))).trans (HA3.out b hb (fun e=>hT (by rw [e];simp)) hv)⟩⟩,HBE.out⟩
set_option maxRecDepth 20000 in
theorem zls {w:World} {lo B:Nat} {s:Nat→Int} {k:Nat} {x:Nat→RecD} {ce:Nat→List Value} {v:Value} {b1 b2 b3 b4 b5:Nat} (h:Ldg w lo B s k k x ce v b1 b2 b3 b4 b5) (hk:k≤1000000) (hlo:lo≤w.heap.size)
 {r:RecD} {ao6 ao7 ao8:Option Addr} {cap6 cap7 cap8:Nat} (hx:x k=r) (hc:ce k=[.int .i64 r.kind,.int .i64 r.seq,.string r.name,.int .i64 r.length,.int .i64 r.group,.int .i64 r.row,.slice ao6 r.rows.1 cap6,.slice ao7 r.data.1 cap7,.slice ao8 r.delta.1 cap8]) (hkd:r.kind=3) (hn:r.name.size≤maxLen) (hs:-9223372036854775808≤r.seq∧r.seq≤9223372036854775807) (hg:-9223372036854775808≤r.group∧r.group≤9223372036854775807) (hw:-9223372036854775808≤r.row∧r.row≤9223372036854775807) :
 Calls Tryz.prog 147 #[.pointer (some ⟨B,0,none⟩),.iface 231 (.agg #[.int .i64 r.kind,.int .i64 r.seq,.string r.name,.int .i64 r.length,.int .i64 r.group,.int .i64 r.row,.slice ao6 r.rows.1 cap6,.slice ao7 r.data.1 cap7,.slice ao8 r.delta.1 cap8])] w fun e w'=>e=.returned (.tuple #[])∧(∃ v',Ldg w' lo B s (k+1) (k+1) x ce v' b1 b2 b3 b4 b5∧EntQ w w' v v' [B,b1,b2,b3,b4,b5])∧Below lo w w':=by
 have HX:=hid hx;have HC:=hid hc;have HKD:=hid hkd
 have HEV:Hid (entV (x k).kind (ce k)=.iface 231 (.agg (rwR r ao6 cap6 ao7 cap7 ao8 cap8).toArray)):=by
  show entV (x k).kind (ce k)=.iface 231 (.agg (rwR r ao6 cap6 ao7 cap7 ao8 cap8).toArray)
  unfold entV entT;rw [hx,hc]
  simp [hkd]
 clear hx hc hkd;obtain ⟨i0,hi,hz0,hz1,hz2⟩:=info_parts zed;have HL:=hid h;obtain ⟨ao,cap,hv⟩:=zbX h.row;subst hv;have x9:w.cell? ⟨B,9,none⟩=some (.slice ao k cap):=h.box.cell 9;have O0:=h.row;clear h;have TA:=ta22;have TA0:=ta20;have TA1:=ta21;have bA:w.grownBy (w.alloc (.cells #[.iface 231 (.agg (rwR r ao6 cap6 ao7 cap7 ao8 cap8).toArray)] 197)) none:=World.grownBy_alloc _ _ _
 go_enter Tryz.func147,Tryz.ntmps147
 go_upto_region 10 with (at_builtin;refine wpList_append_own_at _ rfl _ _ 192 rfl lo 197 i0 .nilIface 1 16 Tryz.underlying192 hi hz0 hz1 hz2 rfl (by decide) _ _ _ rfl (O0.alloc _) ⟨w.heap.size,0,none⟩ 1 1 [.iface 231 (.agg (rwR r ao6 cap6 ao7 cap7 ao8 cap8).toArray)] rfl rfl (cell_one_new _ _ _) (fun u hu=>by simp at hu;subst hu;rfl) (by unfold maxLen;omega) (by omega) (by simp;omega) ?_;intro v' w1 O1 g1 hnil hloc;obtain ⟨ao',cap',rfl⟩:=zbX O1;have L1:=HL.out.grown bA g1;have z9:=L1.cell 9;have z9f:=L1.frozen 9;clear hnil)
 have L2:Ldg ((w1.setCell ⟨B,9,none⟩ (.slice ao' (k+1) cap')).alloc (.cells (rwR r ao6 cap6 ao7 cap7 ao8 cap8).toArray 231)) lo B s (k+1) k x ce (.slice ao' (k+1) cap') b1 b2 b3 b4 b5:=HL.out.laid g1 (by rw [HEV.out];exact O1) hloc
 have X2:Box ((w1.setCell ⟨B,9,none⟩ (.slice ao' (k+1) cap')).alloc (.cells (rwR r ao6 cap6 ao7 cap7 ao8 cap8).toArray 231)) w1.heap.size (rwR r ao6 cap6 ao7 cap7 ao8 cap8).toArray 231:=by
  have:=zas (w1.setCell ⟨B,9,none⟩ (.slice ao' (k+1) cap')) (rwR r ao6 cap6 ao7 cap7 ao8 cap8).toArray 231;rw [show (w1.setCell ⟨B,9,none⟩ (.slice ao' (k+1) cap')).heap.size=w1.heap.size by simp] at this;exact this
 have B2:Below lo w ((w1.setCell ⟨B,9,none⟩ (.slice ao' (k+1) cap')).alloc (.cells (rwR r ao6 cap6 ao7 cap7 ao8 cap8).toArray 231)):=by
  have q1:Below lo w w1:=zdm HL.out g1 hlo;exact (q1.setCell HL.out.low.1 _).alloc (by have:=q1.size;simp;omega) _
 have A2:∀ b,b<w.heap.size→b≠B→(Value.slice ao k cap).ownBlock≠some b→((w1.setCell ⟨B,9,none⟩ (.slice ao' (k+1) cap')).alloc (.cells (rwR r ao6 cap6 ao7 cap7 ao8 cap8).toArray 231)).heap[b]?=w.heap[b]?:=fun b hb hB hv=>by
  have sz:w.heap.size+1≤w1.heap.size:=by have:=g1.size;simp at this;omega
  rw [Below.heap_alloc _ _ b (by simp;omega),heap_setCell_other w1 ⟨B,9,none⟩ b _ hB];exact zgb bA g1 hb (fun e=>hv e.symm)
 have HLO:Hid ((Value.slice ao' (k+1) cap').ownBlock=(Value.slice ao k cap).ownBlock∨∃ g,w.heap.size≤g∧(Value.slice ao' (k+1) cap').ownBlock=some g):=hloc.imp id (fun e=>⟨_,by simp,e⟩);obtain ⟨W2,hW2⟩:∃ y,y=((w1.setCell ⟨B,9,none⟩ (.slice ao' (k+1) cap')).alloc (.cells (rwR r ao6 cap6 ao7 cap7 ao8 cap8).toArray 231)):=⟨_,rfl⟩;rw [← hW2] at L2 X2 B2 A2 ⊢;clear hW2 TA TA0 TA1 O0 O1 g1 hloc bA x9 z9 z9f L1 hi hz0 hz1 hz2;have L3:Ldg W2.drew lo B s (k+1) k x ce (.slice ao' (k+1) cap') b1 b2 b3 b4 b5:=L2.drawn _;have X3:Box W2.drew w1.heap.size (rwR r ao6 cap6 ao7 cap7 ao8 cap8).toArray 231:=X2;have B3:Below lo w W2.drew:=⟨B2.os,B2.tape,B2.output,B2.size,B2.block⟩;have HA3:=hid A2;obtain ⟨kl,hkl⟩:=zln hs hg;have hcn:=znL (fun i=>(x i).kind=3) (fun i=>.agg #[.int .i64 (x i).seq,.int .i64 (x i).group]) (.agg #[.int .i64 r.seq,.int .i64 r.group]) k;have hget:(donF x k (.agg #[.int .i64 r.seq,.int .i64 r.group])).getD (.int .i64 0)=.int .i64 (cN (fun i=>(x i).kind=3) (fun i=>.agg #[.int .i64 (x i).seq,.int .i64 (x i).group]) (.agg #[.int .i64 r.seq,.int .i64 r.group]) k:Int):=zhr _ _ _ _;obtain ⟨cn,hcn2⟩:∃ cn,cn=cN (fun i=>(x i).kind=3) (fun i=>.agg #[.int .i64 (x i).seq,.int .i64 (x i).group]) (.agg #[.int .i64 r.seq,.int .i64 r.group]) k:=⟨_,rfl⟩;have HCN:=hid hcn2;rw [← hcn2] at hcn hget;have hlook:=L3.m3.look zoH Tryz.underlying190 (zkM _) hkl;obtain ⟨st,w5,hent,z5,G5,hlk5,hst⟩:=L3.m3.entry zmK Tryz.underlying190 (by unfold maxLen;omega) zkM hkl;rw [hget] at hlook hent hlk5
 have hwr:IntKind.i64.wrap ((cn:Int)+1)=(cn:Int)+1:=by rw [IntKind.wrap_i64];omega
 obtain ⟨w6,hrun6,M6,G6,S6⟩:=hst (.int .i64 ((cn:Int)+1));have S3:(fun w'=>w'.cell? ⟨B,12,none⟩=some (.map (some b3))∧w'.cell? ⟨w1.heap.size,1,none⟩=some (.int .i64 r.seq)∧w'.cell? ⟨w1.heap.size,4,none⟩=some (.int .i64 r.group)∧(Instr.lookup 190 (.map (some b3)) (.agg #[.int .i64 r.seq,.int .i64 r.group]) false).run Tryz.prog w'=.ok (.int .i64 (cn:Int)) w') W2.drew:=⟨L3.box.cell 12,X3.cell 1,X3.cell 4,hlook⟩;have nb:∀ b,b<W2.drew.heap.size→b≠b3→w5.heap[b]?=W2.drew.heap[b]?:=fun b hb hn=>G5.block b hb (fun e=>hn (by cases e;rfl))
 have nB:B≠b3:=fun e=>by have:=L3.nd;simp at this;omega
 have nX:w1.heap.size≠b3:=fun e=>by
  obtain ⟨D,⟨es,clock,q1,_⟩,_⟩:=L3.m3;have:=X3;unfold Box at this;rw [e,q1] at this
  cases this
 have S5:(fun w'=>w'.cell? ⟨B,12,none⟩=some (.map (some b3))∧w'.cell? ⟨w1.heap.size,1,none⟩=some (.int .i64 r.seq)∧w'.cell? ⟨w1.heap.size,4,none⟩=some (.int .i64 r.group)∧(Instr.lookup 190 (.map (some b3)) (.agg #[.int .i64 r.seq,.int .i64 r.group]) false).run Tryz.prog w'=.ok (.int .i64 (cn:Int)) w') w5:=⟨(World.cell?_of_block (w:=W2.drew) (nb B L3.box.lt nB)).trans (L3.box.cell 12),(World.cell?_of_block (w:=W2.drew) (nb _ X3.lt nX)).trans (X3.cell 1),(World.cell?_of_block (w:=W2.drew) (nb _ X3.lt nX)).trans (X3.cell 4),hlk5⟩;have HM3:=hid M6;have HE6:Hid (∀ b,b<W2.drew.heap.size→b≠b3→w6.heap[b]?=W2.drew.heap[b]?):=fun b hb hn=>G6.block b hb (fun e=>hn (by cases e;rfl));have HB6:Hid (Below lo w w6):=B3.trans ⟨G6.os,G6.tape,G6.output,G6.size,fun b hb=>G6.block b (by have:=B3.size;omega) (fun e=>by cases e;have:=L3.low;omega)⟩;have HX6:Hid (Box w6 w1.heap.size (rwR r ao6 cap6 ao7 cap7 ao8 cap8).toArray 231):=(HE6.out _ X3.lt nX).trans X3;have HY6:Hid (w6.cell? ⟨B,13,none⟩=some (.map (some b4))):=(World.cell?_of_block (w:=W2.drew) (HE6.out B L3.box.lt nB)).trans (L3.box.cell 13);have HM4:Hid (MapV w6 2 b4 k (endF x k)):=L3.m4.block (HE6.out b4 L3.m4.lt (fun e=>by have:=L3.nd;simp at this;omega));have HL3:=hid L3;have HZ3:=hid B3.size;clear M6 G6 G5 hst X3 B3 L3 hkl hcn2 hget nb nB nX L2 X2 B2 A2 hlook hlk5;refine zaz 17 (fun w'=>w'.cell? ⟨B,12,none⟩=some (.map (some b3))∧w'.cell? ⟨w1.heap.size,1,none⟩=some (.int .i64 r.seq)∧w'.cell? ⟨w1.heap.size,4,none⟩=some (.int .i64 r.group)∧(Instr.lookup 190 (.map (some b3)) (.agg #[.int .i64 r.seq,.int .i64 r.group]) false).run Tryz.prog w'=.ok (.int .i64 (cn:Int)) w') zmO S3 (fun hHeld=>?_);refine zpi 0 rfl ?_
 try simp only [Act.put,SL]
 refine zpi 1 rfl ?_
 try simp only [Act.put,SL]
 refine zpi 2 rfl ?_
 try simp only [Act.put,SL]
 refine zpj 3 rfl ?_
 try simp only [Act.put,SL]
 refine zpi 4 rfl ?_
 try simp only [Act.put,SL]
 refine zpi 5 rfl ?_
 try simp only [Act.put,SL]
 refine zpi 6 rfl ?_
 try simp only [Act.put,SL]
 refine zpj 7 rfl ?_
 try simp only [Act.put,SL]
 refine zpi 8 rfl ?_
 try simp only [Act.put,SL]
 refine zpi 9 rfl ?_
 try simp only [Act.put,SL]
 refine zpi 10 rfl ?_
 try simp only [Act.put,SL]
 refine zpj 11 rfl ?_
 try simp only [Act.put,SL]
 refine zpi 12 rfl ?_
 try simp only [Act.put,SL]
 refine zpj 13 rfl ?_
 try simp only [Act.put,SL]
 refine zpi 14 rfl ?_
 try simp only [Act.put,SL]
 refine zbb (i:=15) (o:=_) rfl (by kernel_rfl) (fun KC hKC=>?_);refine zlo rfl 190 _ _ rfl b3 _ _ (by simp [Act.eval,Act.put]) (by simp [Act.eval,Act.put]) hent ?_;refine hKC _ _ S5 ?_;clear hKC KC
 try simp only [Act.put,SL]
 refine zaa (i:=16) (oi:=_) (v:=?_) rfl (by kernel_rfl) (fun _ _ _ h=>h) (Or.inl ⟨by kernel_rfl,?_⟩) S5 ?_
 rotate_left
 ·intro w' hSw;go_simp;try with_reducible rfl
 try simp only [Act.put,SL]
 refine zaw (i:=17) (o:=_) rfl (by kernel_rfl) (by kernel_rfl) (fun KC hKC=>?_);refine zjI rfl 190 _ _ _ rfl b3 _ _ (by simp [Act.eval,Act.put]) (by simp [Act.eval,Act.put]) (by simp [Act.eval,Act.put]) hrun6 ?_;refine hKC _ _ ?_;clear hKC KC
 try simp only [Act.put,SL]
 refine zat (by kernel_rfl) ?_ _;clear S5 S3 hHeld hent hrun6 z5
 go_upto_region 11 with fail
 refine wp_region_still_tail 10 (by kernel_rfl) (by kernel_rfl) ?_;obtain ⟨WB,hWB⟩:∃ y:World,y={ w6 with drawn:=w6.drawn+1 }:=⟨_,rfl⟩
 have M3:MapV WB 233 b3 (k+1) (putF (donF x k) (.agg #[.int .i64 r.seq,.int .i64 r.group]) (.int .i64 ((cn:Int)+1))):=by rw [hWB];exact HM3.out
 have M4:MapV WB 2 b4 k (endF x k):=by rw [hWB];exact HM4.out
 have X7:Box WB w1.heap.size (rwR r ao6 cap6 ao7 cap7 ao8 cap8).toArray 231:=by rw [hWB];exact HX6.out
 have d4:WB.cell? ⟨B,13,none⟩=some (.map (some b4)):=by rw [hWB];exact HY6.out
 have B7:Below lo w WB:=by rw [hWB];have q:=HB6.out;exact ⟨q.os,q.tape,q.output,q.size,q.block⟩
 have E7:∀ b,b<W2.drew.heap.size→b≠b3→WB.heap[b]?=W2.drew.heap[b]?:=by rw [hWB];exact HE6.out
 have Z7:WB.heap.size=W2.drew.heap.size:=by rw [hWB];exact S6
 rw [← hWB];clear hWB;have c0:WB.cell? ⟨w1.heap.size,0,none⟩=some (.int .i64 r.kind):=X7.cell 0;have c1:WB.cell? ⟨w1.heap.size,1,none⟩=some (.int .i64 r.seq):=X7.cell 1;have c2:WB.cell? ⟨w1.heap.size,2,none⟩=some (.string r.name):=X7.cell 2;have c3:WB.cell? ⟨w1.heap.size,3,none⟩=some (.int .i64 r.length):=X7.cell 3;have c4:WB.cell? ⟨w1.heap.size,4,none⟩=some (.int .i64 r.group):=X7.cell 4;have c5:WB.cell? ⟨w1.heap.size,5,none⟩=some (.int .i64 r.row):=X7.cell 5;have c6:WB.cell? ⟨w1.heap.size,6,none⟩=some (.slice ao6 r.rows.1 cap6):=X7.cell 6;have c7:WB.cell? ⟨w1.heap.size,7,none⟩=some (.slice ao7 r.data.1 cap7):=X7.cell 7;have c8:WB.cell? ⟨w1.heap.size,8,none⟩=some (.slice ao8 r.delta.1 cap8):=X7.cell 8;obtain ⟨kl,hkl⟩:=zmM hs;have hlook:=M4.look keyI Tryz.underlying189 (zkM _) hkl;have hdn:=znL (fun i=>(x i).kind=3) (fun i=>.int .i64 (x i).seq) (.int .i64 r.seq) k;rw [show endF x k (.int .i64 r.seq)=cntF (fun i=>(x i).kind=3) (fun i=>.int .i64 (x i).seq) k (.int .i64 r.seq) from rfl,zhr] at hlook;obtain ⟨dn,hdn2⟩:∃ dn,dn=cN (fun i=>(x i).kind=3) (fun i=>.int .i64 (x i).seq) (.int .i64 r.seq) k:=⟨_,rfl⟩;have HDN:=hid hdn2;rw [← hdn2] at hlook hdn
 have hwd:IntKind.i64.wrap ((dn:Int)+1)=(dn:Int)+1:=by rw [IntKind.wrap_i64];omega
 obtain ⟨w',hrun,M,G,S⟩:=M4.put keyI Tryz.underlying189 (by unfold maxLen;omega) hkl (.int .i64 ((dn:Int)+1))
 have n34:b3≠b4:=fun e=>by have:=HL3.out.nd;simp at this;omega
 have HN3:Hid (MapV w' 233 b3 (k+1) (putF (donF x k) (.agg #[.int .i64 r.seq,.int .i64 r.group]) (.int .i64 ((cn:Int)+1)))):=M3.block (G.block b3 M3.lt (fun e=>n34 (by cases e;rfl)));have HN4:=hid M
 have HE:Hid (∀ b,b<W2.drew.heap.size→b∉[b3,b4]→w'.heap[b]?=W2.drew.heap[b]?):=fun b hb hn=>by
  simp at hn
  exact (G.block b (by rw [Z7];exact hb) (fun e=>hn.2 (by cases e;rfl))).trans (E7 b hb hn.1)
 have HBE:Hid (Below lo w w'):=B7.trans ⟨G.os,G.tape,G.output,G.size,fun b hb=>G.block b (by have:=B7.size;omega) (fun e=>by cases e;have:=HL3.out.low;omega)⟩;clear M G M3 M4 X7 B7 E7 hkl hdn2 HM3 HM4 HX6 HY6 HB6 HE6
 simp only [List.take_succ_cons,List.take_zero,List.drop_succ_cons,List.drop_zero]
 repeat still_step
 refine wpStill_nil ?_;go_wp2;refine bodyPost_end (v:=.tuple #[]) (by simp [results,Tryz.results147]) rfl ?_
 exact ⟨rfl,⟨_,HL3.out.next (T:=[b3,b4]) HE.out (fun b hb=>by simp at hb ⊢;omega)
  (by rw [show newF x ce (k+1)=newF x ce k from zcj (show ¬ (x k).kind=1 by rw [HX.out,HKD.out];decide)];exact (HL3.out.m1.block (HE.out b1 HL3.out.m1.lt (by have:=HL3.out.nd;simp at this ⊢;omega))).mono (Nat.le_succ k))
  (by rw [show movF x (k+1)=movF x k from zb5 (show ¬ (x k).kind=2 by rw [HX.out,HKD.out];decide)];exact (HL3.out.m2.block (HE.out b2 HL3.out.m2.lt (by have:=HL3.out.nd;simp at this ⊢;omega))).mono (Nat.le_succ k))
  (by rw [show donF x (k+1)=putF (donF x k) (.agg #[.int .i64 (x k).seq,.int .i64 (x k).group]) (.int .i64 ((cN (fun i=>(x i).kind=3) (fun i=>.agg #[.int .i64 (x i).seq,.int .i64 (x i).group]) (.agg #[.int .i64 (x k).seq,.int .i64 (x k).group]) k:Int)+1)) from zhq (show (x k).kind=3 by rw [HX.out,HKD.out]),HX.out,← HCN.out];exact HN3.out)
  (by rw [show endF x (k+1)=putF (endF x k) (.int .i64 (x k).seq) (.int .i64 ((cN (fun i=>(x i).kind=3) (fun i=>.int .i64 (x i).seq) (.int .i64 (x k).seq) k:Int)+1)) from zhq (show (x k).kind=3 by rw [HX.out,HKD.out]),HX.out,← HDN.out];exact HN4.out)
  (by rw [show shaF x (k+1)=shaF x k from zcj (show ¬ (x k).kind=4 by rw [HX.out,HKD.out];decide)];exact (HL3.out.m5.block (HE.out b5 HL3.out.m5.lt (by have:=HL3.out.nd;simp at this ⊢;omega))).mono (Nat.le_succ k)),⟨HLO.out,fun b hb hT hv=>(HE.out b (Nat.lt_of_lt_of_le hb HZ3.out) (fun q=>hT (by simp at q ⊢;omega))).trans (HA3.out b hb (fun e=>hT (by rw [e];simp)) hv)⟩⟩,HBE.out⟩
end Go.Proofs.YtclclojenogpbaaGreat
namespace Go.Proofs.YtclclojenogpbaaGreat
open Go.RowKit F256
def zlt (n m:Nat) (f g:Nat→Int):Prop:=n=m∧∀ i,i<n→f i=g i
theorem zlu (v1 v2:Value) (n m:Nat) (f g:Nat→Int) (h1 h2:Nat) (w:World) (r1:RdI w h1 v1 n f) (r2:RdI w h2 v2 m g) :
 Calls Tryz.prog 199 #[v1,v2] w (zbc (zlt n m f g) w):=by
 obtain ⟨ao,cap,rfl,hm,hc⟩:=r1;obtain ⟨ao2,cap2,rfl,hm2,hc2⟩:=r2;unfold maxLen at hm hm2
 by_cases hnm:n=m
 ·subst hnm
  go_enter Tryz.func199,Tryz.ntmps199
  go_wp2
  go_loopw [5] (fun i wr=>∃ k:Nat,k≤n∧i=.int .i64 k∧(∀ i,i<k→f i=g i)∧∃ m,wr=w.drewN m) (fun i _=>n-(intOf i).toNat)
  case atStart=>exact ⟨0,Nat.zero_le _,rfl,fun i hi=>by omega,0,rfl⟩
  case round=>
   obtain ⟨k,hk,rfl,hall,q,rfl⟩:=hrel;have HALL:=hid hall;clear hall
   by_cases hlt:k<n
   ·obtain ⟨b,off,rfl,hblt,hcell⟩:=hc (by omega)
    obtain ⟨b2,off2,rfl,hblt2,hcell2⟩:=hc2 (by omega);have hck:w.cell? ⟨b,off+k,none⟩=some (.int .i64 (f k)):=hcell k hlt;have hck2:w.cell? ⟨b2,off2+k,none⟩=some (.int .i64 (g k)):=hcell2 k hlt;obtain ⟨x,hx⟩:∃ x,x=f k:=⟨_,rfl⟩;obtain ⟨y,hy⟩:∃ y,y=g k:=⟨_,rfl⟩;have HX:=hid hx;have HY:=hid hy;rw [← hx] at hck;rw [← hy] at hck2;clear hc hc2 hcell hcell2 hx hy
    by_cases heq:x=y
    ·subst heq
     go_wp2
     go_quiet (fail)
     go_wp2
     go_roundw
     case rel=>exact ⟨k+1,by omega,by go_num,fun i hi=>by
      by_cases c:i=k
      ·rw [c,← HX.out,← HY.out]
      ·exact HALL.out i (by omega),_,rfl⟩
     case measure=>simp [intOf];omega
    ·have tn:(x != y)=true:=by simp;omega
     go_wp2
     go_quiet (fail)
     go_wp2;go_ret;exact zak rfl (fun h=>absurd (h.2 k hlt) (by rw [← HX.out,← HY.out];exact heq)) (below_drewN (below_drewN (Below.refl _ _) _) _)
   ·have hkn:k=n:=by omega
    subst hkn;go_wp2;go_ret;exact zaB rfl ⟨rfl,HALL.out⟩ (below_drewN (Below.refl _ _) _)
 ·have tn:((n:Int) != (m:Int))=true:=by simp;omega
  clear hc hc2
  go_enter Tryz.func199,Tryz.ntmps199
  go_wp2;go_ret;exact zak rfl (fun h=>hnm h.1) (Below.refl _ _)
theorem zg3 (v1 v2:Value) (n m:Nat) (f g:Nat→Nat) (h1 h2:Nat) (w:World) (r1:Rd w h1 v1 n f) (r2:Rd w h2 v2 m g) :
 Calls Tryz.prog 239 #[v1,v2] w (zbc (zgG n m f g) w):=by
 obtain ⟨ao,cap,rfl,hm,hc⟩:=r1;obtain ⟨ao2,cap2,rfl,hm2,hc2⟩:=r2;unfold maxLen at hm hm2
 by_cases hnm:n=m
 ·subst hnm
  go_enter Tryz.func239,Tryz.ntmps239
  go_wp2
  go_loopw [13] (fun i wr=>∃ k:Nat,k≤n∧i=.int .i64 k∧(∀ i,i<k→f i=g i)∧∃ m,wr=w.drewN m) (fun i _=>n-(intOf i).toNat)
  case atStart=>exact ⟨0,Nat.zero_le _,rfl,fun i hi=>by omega,0,rfl⟩
  case round=>
   obtain ⟨k,hk,rfl,hall,q,rfl⟩:=hrel;have HALL:=hid hall;clear hall
   by_cases hlt:k<n
   ·obtain ⟨b,off,rfl,hblt,hcell⟩:=hc (by omega)
    obtain ⟨b2,off2,rfl,hblt2,hcell2⟩:=hc2 (by omega);have hck:w.cell? ⟨b,off+k,none⟩=some (.int .u8 (f k)):=hcell k hlt;have hck2:w.cell? ⟨b2,off2+k,none⟩=some (.int .u8 (g k)):=hcell2 k hlt;obtain ⟨x,hx⟩:∃ x,x=f k:=⟨_,rfl⟩;obtain ⟨y,hy⟩:∃ y,y=g k:=⟨_,rfl⟩;have HX:=hid hx;have HY:=hid hy;rw [← hx] at hck;rw [← hy] at hck2;clear hc hc2 hcell hcell2 hx hy
    by_cases heq:x=y
    ·subst heq
     go_wp2
     go_quiet (fail)
     go_wp2
     go_roundw
     case rel=>exact ⟨k+1,by omega,by go_num,fun i hi=>by
      by_cases c:i=k
      ·rw [c,← HX.out,← HY.out]
      ·exact HALL.out i (by omega),_,rfl⟩
     case measure=>simp [intOf];omega
    ·have tn:((x:Int) != (y:Int))=true:=by simp;omega
     go_wp2
     go_quiet (fail)
     go_wp2;go_ret;exact zak rfl (fun h=>absurd (h.2 k hlt) (by rw [← HX.out,← HY.out];exact heq)) (below_drewN (below_drewN (Below.refl _ _) _) _)
   ·have hkn:k=n:=by omega
    subst hkn;go_wp2;go_ret;exact zaB rfl ⟨rfl,HALL.out⟩ (below_drewN (Below.refl _ _) _)
 ·have tn:((n:Int) != (m:Int))=true:=by simp;omega
  clear hc hc2
  go_enter Tryz.func239,Tryz.ntmps239
  go_wp2;go_ret;exact zak rfl (fun h=>hnm h.1) (Below.refl _ _)
theorem zlv (v1 v2:Value) (n m:Nat) (f g:Nat→Int) (h1 h2:Nat) (w:World) (r1:RdI w h1 v1 n f) (r2:RdI w h2 v2 m g) :
 Calls Tryz.prog 238 #[v1,v2] w (zbc (zlt n m f g) w):=by
 obtain ⟨ao,cap,rfl,hm,hc⟩:=r1;obtain ⟨ao2,cap2,rfl,hm2,hc2⟩:=r2;unfold maxLen at hm hm2
 by_cases hnm:n=m
 ·subst hnm
  go_enter Tryz.func238,Tryz.ntmps238
  go_wp2
  go_loopw [13] (fun i wr=>∃ k:Nat,k≤n∧i=.int .i64 k∧(∀ i,i<k→f i=g i)∧∃ m,wr=w.drewN m) (fun i _=>n-(intOf i).toNat)
  case atStart=>exact ⟨0,Nat.zero_le _,rfl,fun i hi=>by omega,0,rfl⟩
  case round=>
   obtain ⟨k,hk,rfl,hall,q,rfl⟩:=hrel;have HALL:=hid hall;clear hall
   by_cases hlt:k<n
   ·obtain ⟨b,off,rfl,hblt,hcell⟩:=hc (by omega)
    obtain ⟨b2,off2,rfl,hblt2,hcell2⟩:=hc2 (by omega);have hck:w.cell? ⟨b,off+k,none⟩=some (.int .i64 (f k)):=hcell k hlt;have hck2:w.cell? ⟨b2,off2+k,none⟩=some (.int .i64 (g k)):=hcell2 k hlt;obtain ⟨x,hx⟩:∃ x,x=f k:=⟨_,rfl⟩;obtain ⟨y,hy⟩:∃ y,y=g k:=⟨_,rfl⟩;have HX:=hid hx;have HY:=hid hy;rw [← hx] at hck;rw [← hy] at hck2;clear hc hc2 hcell hcell2 hx hy
    by_cases heq:x=y
    ·subst heq
     go_wp2
     go_quiet (fail)
     go_wp2
     go_roundw
     case rel=>exact ⟨k+1,by omega,by go_num,fun i hi=>by
      by_cases c:i=k
      ·rw [c,← HX.out,← HY.out]
      ·exact HALL.out i (by omega),_,rfl⟩
     case measure=>simp [intOf];omega
    ·have tn:(x != y)=true:=by simp;omega
     go_wp2
     go_quiet (fail)
     go_wp2;go_ret;exact zak rfl (fun h=>absurd (h.2 k hlt) (by rw [← HX.out,← HY.out];exact heq)) (below_drewN (below_drewN (Below.refl _ _) _) _)
   ·have hkn:k=n:=by omega
    subst hkn;go_wp2;go_ret;exact zaB rfl ⟨rfl,HALL.out⟩ (below_drewN (Below.refl _ _) _)
 ·have tn:((n:Int) != (m:Int))=true:=by simp;omega
  clear hc hc2
  go_enter Tryz.func238,Tryz.ntmps238
  go_wp2;go_ret;exact zak rfl (fun h=>hnm h.1) (Below.refl _ _)
theorem toList_inj {a b:ByteArray}:a.toList=b.toList↔a=b:=by
 constructor
 ·intro h
  rw [ByteArray.toList_eq,ByteArray.toList_eq] at h
  cases a
  cases b
  congr
  exact Array.toList_inj.1 h
 ·intro h;rw [h]
structure SameR (a b:RecD):Prop where
 kind:a.kind=b.kind
 seq:a.seq=b.seq
 name:a.name=b.name
 length:a.length=b.length
 group:a.group=b.group
 row:a.row=b.row
 rows:zlt a.rows.1 b.rows.1 a.rows.2 b.rows.2
 data:zgG a.data.1 b.data.1 a.data.2 b.data.2
 delta:zgG a.delta.1 b.delta.1 a.delta.2 b.delta.2
set_option maxRecDepth 20000 in
theorem ziB (a b:RecD) (c1 c2:List Value) (h1 h2:Nat) (w:World) (r1:zab.rd w h1 a c1) (r2:zab.rd w h2 b c2) (u1:h1≤w.heap.size) (u2:h2≤w.heap.size) :
 Calls Tryz.prog 161 #[.agg c1.toArray,.agg c2.toArray] w (zbc (SameR a b) w):=by
 obtain ⟨xo6,xc6,xo7,xc7,xo8,xc8,rfl,p6,p7,p8,-⟩:=zaP r1;obtain ⟨yo6,yc6,yo7,yc7,yo8,yc8,rfl,q6,q7,q8,-⟩:=zaP r2;obtain ⟨_,e,⟨p6,_⟩,_⟩:=p6
 cases e
 obtain ⟨_,e,⟨q6,_⟩,_⟩:=q6
 cases e
 obtain ⟨_,e,p7,_⟩:=p7
 cases e
 obtain ⟨_,e,q7,_⟩:=q7
 cases e
 obtain ⟨_,e,p8,_⟩:=p8
 cases e
 obtain ⟨_,e,q8,_⟩:=q8
 cases e
 clear r1 r2;have T0:=zaJ w (rwR a xo6 xc6 xo7 xc7 xo8 xc8).toArray (rwR b yo6 yc6 yo7 yc7 yo8 yc8).toArray 72 72;have HT0:=hid T0;obtain ⟨e0,he0⟩:∃ t,(a.kind==b.kind)=t:=⟨_,rfl⟩
 have HE0:Hid (e0=true↔a.kind=b.kind):=by show _↔_;rw [← he0];exact beq_iff_eq
 obtain ⟨e1,he1⟩:∃ t,(a.seq==b.seq)=t:=⟨_,rfl⟩
 have HE1:Hid (e1=true↔a.seq=b.seq):=by show _↔_;rw [← he1];exact beq_iff_eq
 obtain ⟨e2,he2⟩:∃ t,(a.name.toList==b.name.toList)=t:=⟨_,rfl⟩
 have HE2:Hid (e2=true↔a.name=b.name):=by show _↔_;rw [← he2,beq_iff_eq];exact toList_inj
 have he2':decide (a.name.toList=b.name.toList)=e2:=by rw [← he2,Bool.eq_iff_iff];simp
 obtain ⟨e3,he3⟩:∃ t,(a.length==b.length)=t:=⟨_,rfl⟩
 have HE3:Hid (e3=true↔a.length=b.length):=by show _↔_;rw [← he3];exact beq_iff_eq
 obtain ⟨e4,he4⟩:∃ t,(a.group==b.group)=t:=⟨_,rfl⟩
 have HE4:Hid (e4=true↔a.group=b.group):=by show _↔_;rw [← he4];exact beq_iff_eq
 obtain ⟨e5,he5⟩:∃ t,(a.row==b.row)=t:=⟨_,rfl⟩
 have HE5:Hid (e5=true↔a.row=b.row):=by show _↔_;rw [← he5];exact beq_iff_eq
 obtain ⟨t6,ht6⟩:=exB (zlt a.rows.1 b.rows.1 a.rows.2 b.rows.2);obtain ⟨t7,ht7⟩:=exB (zgG a.data.1 b.data.1 a.data.2 b.data.2);obtain ⟨t8,ht8⟩:=exB (zgG a.delta.1 b.delta.1 a.delta.2 b.delta.2);have C6:=fun (w':World) (hb:Below w.heap.size w w')=>zbG (zlu _ _ a.rows.1 b.rows.1 a.rows.2 b.rows.2 h1 h2 w' (p6.below hb u1) (q6.below hb u2)) ht6;have C7:=fun (w':World) (hb:Below w.heap.size w w')=>zbG (zgX _ _ a.data.1 b.data.1 a.data.2 b.data.2 h1 h2 w' (p7.below hb u1) (q7.below hb u2)) ht7;have C8:=fun (w':World) (hb:Below w.heap.size w w')=>zbG (zgX _ _ a.delta.1 b.delta.1 a.delta.2 b.delta.2 h1 h2 w' (p8.below hb u1) (q8.below hb u2)) ht8;have HT6:=hid ht6;have HT7:=hid ht7;have HT8:=hid ht8;clear p6 p7 p8 q6 q7 q8 ht6 ht7 ht8
 go_enter Tryz.func161,Tryz.ntmps161
 cases e0 with
 | false=>
  go_wp2;go_ret;exact zak rfl (fun h=>by have:=HE0.out.2 h.kind;simp at this) HT0.out.bel
 | true=>
 cases e1 with
 | false=>
  go_wp2;go_ret;exact zak rfl (fun h=>by have:=HE1.out.2 h.seq;simp at this) HT0.out.bel
 | true=>
 cases e2 with
 | false=>
  go_wp2;go_ret;exact zak rfl (fun h=>by have:=HE2.out.2 h.name;simp at this) HT0.out.bel
 | true=>
 cases e3 with
 | false=>
  go_wp2;go_ret;exact zak rfl (fun h=>by have:=HE3.out.2 h.length;simp at this) HT0.out.bel
 | true=>
 cases e4 with
 | false=>
  go_wp2;go_ret;exact zak rfl (fun h=>by have:=HE4.out.2 h.group;simp at this) HT0.out.bel
 | true=>
 cases e5 with
 | false=>
  go_wp2;go_ret;exact zak rfl (fun h=>by have:=HE5.out.2 h.row;simp at this) HT0.out.bel
 | true=>
 go_wp2_with fail
 refine (C6 _ HT0.out.bel).mono ?_;rintro e w6 ⟨rfl,b6⟩;have T6:=HT0.out.call b6
 cases t6 with
 | false=>
  have HB:=hid T6.bel;clear T6 b6;go_wp2;go_ret;exact zak rfl (fun h=>by have:=HT6.out.2 h.rows;simp at this) HB.out
 | true=>
 have x7:w6.cell? ⟨w.heap.size,7,none⟩=some (.slice xo7 a.data.1 xc7):=T6.b1.cell 7;have y7:w6.cell? ⟨w.heap.size+1,7,none⟩=some (.slice yo7 b.data.1 yc7):=T6.b2.cell 7
 go_wp2_with fail
 refine (C7 _ T6.bel).mono ?_;rintro e w7 ⟨rfl,b7⟩;have T7:=T6.call b7
 cases t7 with
 | false=>
  have HB:=hid T7.bel;clear T7 b7;go_wp2;go_ret;exact zak rfl (fun h=>by have:=HT7.out.2 h.data;simp at this) HB.out
 | true=>
 have x8:w7.cell? ⟨w.heap.size,8,none⟩=some (.slice xo8 a.delta.1 xc8):=T7.b1.cell 8;have y8:w7.cell? ⟨w.heap.size+1,8,none⟩=some (.slice yo8 b.delta.1 yc8):=T7.b2.cell 8
 go_wp2_with fail
 refine (C8 _ T7.bel).mono ?_;rintro e w8 ⟨rfl,b8⟩;have T8:=T7.call b8
 cases t8 with
 | false=>
  have HB:=hid T8.bel;clear T8 b8;go_wp2;go_ret;exact zak rfl (fun h=>by have:=HT8.out.2 h.delta;simp at this) HB.out
 | true=>
 have HB:=hid T8.bel;clear T6 T7 T8 b6 b7 b8;go_wp2;go_ret;exact zaB rfl ⟨HE0.out.1 (by simp),HE1.out.1 (by simp),HE2.out.1 (by simp),HE3.out.1 (by simp),HE4.out.1 (by simp),HE5.out.1 (by simp),HT6.out.1 (by simp),HT7.out.1 (by simp),HT8.out.1 (by simp)⟩ HB.out
set_option maxRecDepth 20000 in
theorem ziC (a b:RecD) (c1 c2:List Value) (h1 h2:Nat) (w:World) (r1:zab.rd w h1 a c1) (r2:zab.rd w h2 b c2) (u1:h1≤w.heap.size) (u2:h2≤w.heap.size) :
 Calls Tryz.prog 216 #[.agg c1.toArray,.agg c2.toArray] w (zbc (SameR a b) w):=by
 obtain ⟨xo6,xc6,xo7,xc7,xo8,xc8,rfl,p6,p7,p8,-⟩:=zaP r1;obtain ⟨yo6,yc6,yo7,yc7,yo8,yc8,rfl,q6,q7,q8,-⟩:=zaP r2;obtain ⟨_,e,⟨p6,_⟩,_⟩:=p6
 cases e
 obtain ⟨_,e,⟨q6,_⟩,_⟩:=q6
 cases e
 obtain ⟨_,e,p7,_⟩:=p7
 cases e
 obtain ⟨_,e,q7,_⟩:=q7
 cases e
 obtain ⟨_,e,p8,_⟩:=p8
 cases e
 obtain ⟨_,e,q8,_⟩:=q8
 cases e
 clear r1 r2;have T0:=zaJ w (rwR a xo6 xc6 xo7 xc7 xo8 xc8).toArray (rwR b yo6 yc6 yo7 yc7 yo8 yc8).toArray 72 72;have HT0:=hid T0;obtain ⟨e0,he0⟩:∃ t,(a.kind==b.kind)=t:=⟨_,rfl⟩
 have HE0:Hid (e0=true↔a.kind=b.kind):=by show _↔_;rw [← he0];exact beq_iff_eq
 obtain ⟨e1,he1⟩:∃ t,(a.seq==b.seq)=t:=⟨_,rfl⟩
 have HE1:Hid (e1=true↔a.seq=b.seq):=by show _↔_;rw [← he1];exact beq_iff_eq
 obtain ⟨e2,he2⟩:∃ t,(a.name.toList==b.name.toList)=t:=⟨_,rfl⟩
 have HE2:Hid (e2=true↔a.name=b.name):=by show _↔_;rw [← he2,beq_iff_eq];exact toList_inj
 have he2':decide (a.name.toList=b.name.toList)=e2:=by rw [← he2,Bool.eq_iff_iff];simp
 obtain ⟨e3,he3⟩:∃ t,(a.length==b.length)=t:=⟨_,rfl⟩
 have HE3:Hid (e3=true↔a.length=b.length):=by show _↔_;rw [← he3];exact beq_iff_eq
 obtain ⟨e4,he4⟩:∃ t,(a.group==b.group)=t:=⟨_,rfl⟩
 have HE4:Hid (e4=true↔a.group=b.group):=by show _↔_;rw [← he4];exact beq_iff_eq
 obtain ⟨e5,he5⟩:∃ t,(a.row==b.row)=t:=⟨_,rfl⟩
 have HE5:Hid (e5=true↔a.row=b.row):=by show _↔_;rw [← he5];exact beq_iff_eq
 obtain ⟨t6,ht6⟩:=exB (zlt a.rows.1 b.rows.1 a.rows.2 b.rows.2);obtain ⟨t7,ht7⟩:=exB (zgG a.data.1 b.data.1 a.data.2 b.data.2);obtain ⟨t8,ht8⟩:=exB (zgG a.delta.1 b.delta.1 a.delta.2 b.delta.2);have C6:=fun (w':World) (hb:Below w.heap.size w w')=>zbG (zlv _ _ a.rows.1 b.rows.1 a.rows.2 b.rows.2 h1 h2 w' (p6.below hb u1) (q6.below hb u2)) ht6;have C7:=fun (w':World) (hb:Below w.heap.size w w')=>zbG (zg3 _ _ a.data.1 b.data.1 a.data.2 b.data.2 h1 h2 w' (p7.below hb u1) (q7.below hb u2)) ht7;have C8:=fun (w':World) (hb:Below w.heap.size w w')=>zbG (zg3 _ _ a.delta.1 b.delta.1 a.delta.2 b.delta.2 h1 h2 w' (p8.below hb u1) (q8.below hb u2)) ht8;have HT6:=hid ht6;have HT7:=hid ht7;have HT8:=hid ht8;clear p6 p7 p8 q6 q7 q8 ht6 ht7 ht8;obtain ⟨nb,hnb⟩:∃ t,t=(e0&&(e1&&(e3&&(e4&&e5)))):=⟨_,rfl⟩;have HNB:=hid hnb;obtain ⟨lb,hlb⟩:∃ t,t=(t6&&(t7&&t8)):=⟨_,rfl⟩;have HLB:=hid hlb
 have HN:Hid (nb=true↔(a.kind=b.kind∧a.seq=b.seq∧a.length=b.length∧a.group=b.group∧a.row=b.row)):=by
  show _↔_
  rw [HNB.out,Bool.and_eq_true,Bool.and_eq_true,Bool.and_eq_true,Bool.and_eq_true,HE0.out,HE1.out,HE3.out,HE4.out,HE5.out]
 have HL:Hid (lb=true↔(zlt a.rows.1 b.rows.1 a.rows.2 b.rows.2∧zgG a.data.1 b.data.1 a.data.2 b.data.2∧zgG a.delta.1 b.delta.1 a.delta.2 b.delta.2)):=by
  show _↔_
  rw [HLB.out,Bool.and_eq_true,Bool.and_eq_true,HT6.out,HT7.out,HT8.out]
 clear hnb hlb
 go_enter Tryz.func216,Tryz.ntmps216
 go_upto_region 1 with fail
 obtain ⟨W0,hW0⟩:∃ x,x=(w.alloc (.cells (rwR a xo6 xc6 xo7 xc7 xo8 xc8).toArray 72)).alloc (.cells (rwR b yo6 yc6 yo7 yc7 yo8 yc8).toArray 72):=⟨_,rfl⟩;rw [← hW0] at T0 HT0 ⊢;clear hW0;have x_0:W0.cell? ⟨w.heap.size,0,none⟩=some (.int .i64 a.kind):=T0.b1.cell 0;have x_1:W0.cell? ⟨w.heap.size,1,none⟩=some (.int .i64 a.seq):=T0.b1.cell 1;have x_2:W0.cell? ⟨w.heap.size,2,none⟩=some (.string a.name):=T0.b1.cell 2;have x_3:W0.cell? ⟨w.heap.size,3,none⟩=some (.int .i64 a.length):=T0.b1.cell 3;have x_4:W0.cell? ⟨w.heap.size,4,none⟩=some (.int .i64 a.group):=T0.b1.cell 4;have x_5:W0.cell? ⟨w.heap.size,5,none⟩=some (.int .i64 a.row):=T0.b1.cell 5;have x_6:W0.cell? ⟨w.heap.size,6,none⟩=some (.slice xo6 a.rows.1 xc6):=T0.b1.cell 6;have x_7:W0.cell? ⟨w.heap.size,7,none⟩=some (.slice xo7 a.data.1 xc7):=T0.b1.cell 7;have x_8:W0.cell? ⟨w.heap.size,8,none⟩=some (.slice xo8 a.delta.1 xc8):=T0.b1.cell 8;have y_0:W0.cell? ⟨w.heap.size+1,0,none⟩=some (.int .i64 b.kind):=T0.b2.cell 0;have y_1:W0.cell? ⟨w.heap.size+1,1,none⟩=some (.int .i64 b.seq):=T0.b2.cell 1;have y_2:W0.cell? ⟨w.heap.size+1,2,none⟩=some (.string b.name):=T0.b2.cell 2;have y_3:W0.cell? ⟨w.heap.size+1,3,none⟩=some (.int .i64 b.length):=T0.b2.cell 3;have y_4:W0.cell? ⟨w.heap.size+1,4,none⟩=some (.int .i64 b.group):=T0.b2.cell 4;have y_5:W0.cell? ⟨w.heap.size+1,5,none⟩=some (.int .i64 b.row):=T0.b2.cell 5;have y_6:W0.cell? ⟨w.heap.size+1,6,none⟩=some (.slice yo6 b.rows.1 yc6):=T0.b2.cell 6;have y_7:W0.cell? ⟨w.heap.size+1,7,none⟩=some (.slice yo7 b.data.1 yc7):=T0.b2.cell 7;have y_8:W0.cell? ⟨w.heap.size+1,8,none⟩=some (.slice yo8 b.delta.1 yc8):=T0.b2.cell 8;clear T0
 go_cut [5] (fun v wx=>v=.bool nb∧wx=W0)
 case first=>
  cases e0 with
  | false=>
   go_wp2
   go_meet
   exact ⟨by rw [HNB.out];simp,rfl⟩
  | true=>
  cases e1 with
  | false=>
   go_wp2
   go_meet
   exact ⟨by rw [HNB.out];simp,rfl⟩
  | true=>
  cases e3 with
  | false=>
   go_wp2
   go_meet
   exact ⟨by rw [HNB.out];simp,rfl⟩
  | true=>
  cases e4 with
  | false=>
   go_wp2
   go_meet
   exact ⟨by rw [HNB.out];simp,rfl⟩
  | true=>
  cases e5 with
  | false=>
   go_wp2
   go_meet
   exact ⟨by rw [HNB.out];simp,rfl⟩
  | true=>
  go_wp2
  go_meet
  exact ⟨by rw [HNB.out];simp,rfl⟩
 case rest=>
  obtain ⟨rfl,rfl⟩:=hcut;clear he0 he1 he3 he4 he5
  go_upto_region 2 with fail
  go_cut [6] (fun v wx=>v=.bool lb∧Below wc.heap.size wc wx)
  case first=>
   go_wp2_with fail
   refine (C6 _ HT0.out.bel).mono ?_;rintro e w6 ⟨rfl,b6⟩;have T6:=HT0.out.call b6;have B6:=hid b6
   cases t6 with
   | false=>
    clear T6 b6;go_wp2
    go_meet
    exact ⟨by rw [HLB.out];simp,B6.out⟩
   | true=>
   have x7':w6.cell? ⟨w.heap.size,7,none⟩=some (.slice xo7 a.data.1 xc7):=T6.b1.cell 7;have y7':w6.cell? ⟨w.heap.size+1,7,none⟩=some (.slice yo7 b.data.1 yc7):=T6.b2.cell 7
   go_wp2_with fail
   refine (C7 _ T6.bel).mono ?_;rintro e w7 ⟨rfl,b7⟩;have T7:=T6.call b7;have B7:=hid (B6.out.trans (b7.mono B6.out.size))
   cases t7 with
   | false=>
    clear T7 b7;go_wp2
    go_meet
    exact ⟨by rw [HLB.out];simp,B7.out⟩
   | true=>
   have x8':w7.cell? ⟨w.heap.size,8,none⟩=some (.slice xo8 a.delta.1 xc8):=T7.b1.cell 8;have y8':w7.cell? ⟨w.heap.size+1,8,none⟩=some (.slice yo8 b.delta.1 yc8):=T7.b2.cell 8
   go_wp2_with fail
   refine (C8 _ T7.bel).mono ?_;rintro e w8 ⟨rfl,b8⟩;have T8:=T7.call b8;have B8:=hid (B7.out.trans (b8.mono B7.out.size))
   cases t8 with
   | false=>
    clear T8 b8;go_wp2
    go_meet
    exact ⟨by rw [HLB.out];simp,B8.out⟩
   | true=>
   clear T6 T7 T8 b6 b7 b8;go_wp2
   go_meet
   exact ⟨by rw [HLB.out];simp,B8.out⟩
  case rest=>
   obtain ⟨rfl,b9⟩:=hcut;obtain ⟨w9,rfl⟩:∃ x,x=wc:=⟨_,rfl⟩;have T9:=HT0.out.call b9;have x2':w9.cell? ⟨w.heap.size,2,none⟩=some (.string a.name):=T9.b1.cell 2;have y2':w9.cell? ⟨w.heap.size+1,2,none⟩=some (.string b.name):=T9.b2.cell 2;have HB:=hid T9.bel;clear T9 b9
   cases nb with
   | false=>
    go_wp2;go_ret;exact zak rfl (fun h=>by have:=HN.out.2 ⟨h.kind,h.seq,h.length,h.group,h.row⟩;simp at this) HB.out
   | true=>
   cases e2 with
   | false=>
    go_wp2;go_ret;exact zak rfl (fun h=>by have:=HE2.out.2 h.name;simp at this) HB.out
   | true=>
   cases lb with
   | false=>
    go_wp2;go_ret;exact zak rfl (fun h=>by have:=HL.out.2 ⟨h.rows,h.data,h.delta⟩;simp at this) HB.out
   | true=>
    have N:=HN.out.1 (by simp);have M:=HL.out.1 (by simp);have HY:Hid (SameR a b):=⟨N.1,N.2.1,HE2.out.1 (by simp),N.2.2.1,N.2.2.2.1,N.2.2.2.2,M.1,M.2.1,M.2.2⟩;clear N M;go_wp2;go_ret;exact zaB rfl HY.out HB.out
end Go.Proofs.YtclclojenogpbaaGreat
namespace Go.Proofs.YtclclojenogpbaaGreat
open Go.RowKit
section
variable {P:Program} {ops:Array Oper} {Q:Exit→Act→World→Prop} {md:Region.Mode} {S:World→Prop} {L:Nat}
theorem zhs {i:Nat} {oi:Oper} {v:Value} (hi:ops[i]?=some oi) (hsel:∀ (j:Nat) (o:Oper) cs b,ops[j]?=some o→o.op≠.select cs b)
 (hQ:∀ c a w,Q (.panic c) (a.put oi.dst v) w→Q (.panic c) a w) (hN:ops.size≤L) :
 ∀ (fuel:Nat) (listed:Array Bool) (a:Act) (w:World),zdn md ops listed→listed.size=ops.size→
  (∀ j oj,ops[j]?=some oj→j≠i→listed.getD j true=false→(∀ e∈oj.after,Region.binds md e=true→e.on≠i)→oi.apart ops oj=true)→
  i∈Region.ready md ops listed→YieldsIf P ops S oi v a→S w→
  zaS P md ops Q S L fuel (listed.setIfInBounds i true) (a.put oi.dst v) w→zaS P md ops Q S L (fuel+1) listed a w:=by
 intro fuel;have hil:i<ops.size:=(Array.getElem?_eq_some_iff.1 hi).1
 have hLi:L≠i:=by omega
 induction fuel with
 | zero=>
  intro listed a w _ _ _ hr hy hS H;refine ⟨fun h=>(by rw [h] at hr;cases hr),fun j hj=>?_⟩
  by_cases hji:j=i
  ·subst hji;exact hy.wpOp hi hS ⟨fun _=>hS,H⟩
  ·have:=ready_mono hj hji
   rw [H.1] at this
   cases this
 | succ fuel ih=>
  intro listed a w hcl hls hfree hr hy hS H;refine ⟨fun h=>(by rw [h] at hr;cases hr),fun j hj=>?_⟩
  by_cases hji:j=i
  ·subst hji;exact hy.wpOp hi hS ⟨fun _=>hS,H⟩
  ·have hjL:j≠L:=fun h=>by
    obtain ⟨_,oj,hoj,_⟩:=mem_ready.1 hj;have:=(Array.getElem?_eq_some_iff.1 hoj).1;omega
   have h1:=H.2 j (ready_mono hj hji);obtain ⟨hjun,oj,hoj,hall⟩:=mem_ready.1 hj
   have hnot:∀ e∈oj.after,Region.binds md e=true→e.on≠i:=fun e he hb heq=>by
    have h1:=hall e he hb;have h0:=zbi (mem_ready.1 hr).1;rw [heq,h0] at h1
    cases h1
   have h2:=wpOp_putIf hoj (hfree j oj hoj hji hjun hnot) (fun cs b=>hsel i oi cs b hi) (fun cs b=>hsel j oj cs b hoj) hQ hy h1
   have hfree':∀ k ok,ops[k]?=some ok→k≠i→(listed.setIfInBounds j true).getD k true=false→
    (∀ e∈ok.after,Region.binds md e=true→e.on≠i)→oi.apart ops ok=true:=fun k ok hk hki hun hno=>by
    refine hfree k ok hk hki ?_ hno
    by_cases hjk:j=k
    ·subst hjk;exact hjun
    ·rw [getD_set_ne true hjk] at hun;exact hun
   have hLn:(listed.setIfInBounds j true).getD L false=false:=by
    rw [getD_set_ne false hjL];rw [Array.getD_eq_getD_getElem?,Array.getElem?_eq_none (by omega)];rfl
   have hLn2:((listed.setIfInBounds i true).setIfInBounds j true).getD L false=false:=by
    rw [← Array.setIfInBounds_comm _ _ hji,getD_set_ne false (Ne.symm hLi)];exact hLn
   refine wpOp_mono (fun a' w' h3=>⟨fun _=>h3.2.1 hLn2,ih (listed.setIfInBounds j true) a' w' (zdo hcl hj) (by simp [hls]) hfree' (ready_mono hr (Ne.symm hji)) h3.1 (h3.2.1 hLn2) ?_⟩) h2;rw [Array.setIfInBounds_comm _ _ hji];exact h3.2.2
theorem zdX {i:Nat} {oi:Oper} {v:Value} {fuel:Nat} {listed:Array Bool} {a:Act} {w:World} (hi:ops[i]?=some oi)
 (hs:(Region.noSelect ops&&Region.free md ops listed i&&(Region.ready md ops listed).contains i&&decide (ops.size≤L)&&decide (listed.size=ops.size)&&zbT md ops listed)=true)
 (hQ:∀ c a w,Q (.panic c) (a.put oi.dst v) w→Q (.panic c) a w) (hy:YieldsIf P ops S oi v a) (hS:S w)
 (h:zaS P md ops Q S L fuel (listed.setIfInBounds i true) (a.put oi.dst v) w):zaS P md ops Q S L (fuel+1) listed a w:=by
 simp only [Bool.and_eq_true,decide_eq_true_eq] at hs
 obtain ⟨⟨⟨⟨⟨h1,h2⟩,h3⟩,h4⟩,h5⟩,h6⟩:=hs;exact zhs hi (Region.noSelect_spec h1) hQ h4 fuel listed a w (zdW h6) h5 (Region.free_spec hi h2) (by simpa using h3) hy hS h
end
end Go.Proofs.YtclclojenogpbaaGreat
namespace Go.Proofs.YtclclojenogpbaaGreat
open Go.RowKit F256
noncomputable def zdc (p:Nat→Prop):Nat→Int
 | 0=>-1
 | k+1=>@ite _ (p k) (Classical.propDecidable _) (k:Int) (zdc p k)
theorem zdd {p:Nat→Prop} {k:Nat} (h:¬ p k):zdc p (k+1)=zdc p k:=if_neg h
theorem zgf {p:Nat→Prop} {k:Nat} (h:p k):zdc p (k+1)=(k:Int):=if_pos h
theorem zcl (p:Nat→Prop):∀ k,zdc p k=-1∨∃ i:Nat,i<k∧zdc p k=(i:Int)∧p i
 | 0=>.inl rfl
 | k+1=>by
  by_cases h:p k
  ·exact .inr ⟨k,by omega,zgf h,h⟩
  ·rw [zdd h]
   rcases zcl p k with e | ⟨i,h1,h2,h3⟩
   ·exact .inl e
   ·exact .inr ⟨i,by omega,h2,h3⟩
def itm (x:Nat→RecD) (nm:ByteArray) (i:Nat):Prop:=(x i).kind=1∧(x i).name=nm
theorem zjO (x:Nat→RecD) (ce:Nat→List Value) (nm:ByteArray):∀ N,(zdc (itm x nm) N=-1→newF x ce N (.string nm)=none)∧∀ i:Nat,zdc (itm x nm) N=(i:Int)→newF x ce N (.string nm)=some (.agg (ce i).toArray)
 | 0=>⟨fun _=>rfl,fun i h=>by have h':(-1:Int)=(i:Int):=h;omega⟩
 | N+1=>by
  have ih:=zjO x ce nm N;unfold newF at ih ⊢
  by_cases hk:(x N).kind=1
  ·rw [zga hk]
   by_cases hn:(x N).name=nm
   ·rw [zgf (show itm x nm N from ⟨hk,hn⟩),hn,zeS]
    exact ⟨fun h=>by omega,fun i h=>by
     obtain rfl:N=i:=by omega
     rfl⟩
   ·rw [zdd (fun h:itm x nm N=>hn h.2),zfi _ _ (fun h=>hn (by cases h;rfl))]
    exact ih
  ·rw [zdd (fun h:itm x nm N=>hk h.1),zcj hk]
   exact ih
set_option maxRecDepth 20000 in
theorem ziD (v:Value) (n:Nat) (x:Nat→RecD) (nm:ByteArray) (hi:Nat) (w:World) (h:(zab.slice 72).rd w hi (n,x) [v]) (hhi:hi≤w.heap.size) (hn:n≤1048576) :
 Calls Tryz.prog 61 #[v,.string nm] w (fun e w'=>e=.returned (.int .i64 (zdc (itm x nm) n))∧Below w.heap.size w w'):=by
 obtain ⟨ao,cap,e,hmm,hc⟩:=h
 obtain rfl:v=.slice ao n cap:=by simpa using e
 have HC:=hid hc;clear e hmm hc
 go_enter Tryz.func61,Tryz.ntmps61
 go_wp2
 go_loopw [5,6] (fun a z wr=>∃ k:Nat,k≤n∧z=.int .i64 k∧a=.int .i64 (zdc (itm x nm) k)∧Below w.heap.size w wr) (fun _ z _=>n-(intOf z).toNat)
 case atStart=>exact ⟨0,Nat.zero_le _,rfl,rfl,Below.refl _ _⟩
 case round=>
  obtain ⟨k,hk,rfl,rfl,hbl⟩:=hrel;have HB:=hid hbl;obtain ⟨at_,hat⟩:∃ a,a=zdc (itm x nm) k:=⟨_,rfl⟩;have HAT:=hid hat;rw [← hat];clear hat
  by_cases hlt:k<n
  ·obtain ⟨b,off,rfl,hbh,hel⟩:=HC.out (by omega)
   obtain ⟨ce,hy,hcell⟩:=zaG (t:=72) hel hbl hhi hbh hlt;obtain ⟨ao6,cap6,ao7,cap7,ao8,cap8,rfl,-,-,-,-⟩:=zaP hy;obtain ⟨r,hr⟩:∃ r,r=x k:=⟨_,rfl⟩;have HRR:=hid hr;rw [← hr] at hcell
   have y0:wr.cell? ⟨b,off+k*9,none⟩=some (.int .i64 r.kind):=by have:=hcell 0 (by decide);exact this
   have y2:wr.cell? ⟨b,off+k*9+2,none⟩=some (.string r.name):=by have:=hcell 2 (by decide);exact this
   have i1:(0:Int)≤(k:Int):=by omega
   have i2:(k:Int)<(n:Int):=by omega
   clear hcell hel hy hr hbl
   by_cases c1:r.kind=1
   ·have d1:(r.kind==1)=true:=by simp [c1]
    have HC1:=hid c1;clear c1
    by_cases c2:r.name=nm
    ·have d2:(r.name.toList==nm.toList)=true:=by rw [beq_iff_eq,c2]
     have d3:decide (r.name.toList=nm.toList)=true:=decide_eq_true (by rw [c2])
     have d4:r.name.toList=nm.toList:=by rw [c2]
     have HC2:=hid c2;clear c2;go_wp2
     go_roundw
     case rel=>exact ⟨k+1,by omega,by go_num,(by rw [zgf (show itm x nm k from ⟨by rw [← HRR.out];exact HC1.out,by rw [← HRR.out];exact HC2.out⟩)]),HB.out⟩
     case measure=>simp [intOf];omega
    ·have d2:(r.name.toList==nm.toList)=false:=by rw [beq_eq_false_iff_ne];exact fun h=>c2 (toList_inj.1 h)
     have d3:decide (r.name.toList=nm.toList)=false:=decide_eq_false (fun h=>c2 (toList_inj.1 h));have d4:¬ r.name.toList=nm.toList:=fun h=>c2 (toList_inj.1 h);have HC2:=hid c2;clear c2;go_wp2
     go_roundw
     case rel=>exact ⟨k+1,by omega,by go_num,(by rw [zdd (fun h:itm x nm k=>HC2.out (by rw [HRR.out];exact h.2)),← HAT.out]),HB.out⟩
     case measure=>simp [intOf];omega
   ·have d1:(r.kind==1)=false:=by simp [c1]
    have HC1:=hid c1;clear c1;go_wp2
    go_roundw
    case rel=>exact ⟨k+1,by omega,by go_num,(by rw [zdd (fun h:itm x nm k=>HC1.out (by rw [HRR.out];exact h.1)),← HAT.out]),HB.out⟩
    case measure=>simp [intOf];omega
  ·obtain rfl:k=n:=by omega
   rw [HAT.out];go_wp2;go_ret;exact ⟨rfl,HB.out⟩
theorem zee {w:World} {hi:Nat} {r:RecD} {cs:List Value} (h:zab.rd w hi r cs):∀ v,v∈cs→v.oneCell'=true:=by
 obtain ⟨ao6,cap6,ao7,cap7,ao8,cap8,rfl,-⟩:=zaP h;intro v hv
 simp only [List.mem_cons,List.not_mem_nil,or_false] at hv
 rcases hv with rfl | rfl | rfl | rfl | rfl | rfl | rfl | rfl | rfl<;>rfl
theorem zmQ:(Tryz.prog.info? 212).map (fun i=>(i.zero.map (·.cells),i.size))=some (some #[.int .i64 0,.int .i64 0,.string ⟨#[]⟩,.int .i64 0,.int .i64 0,.int .i64 0,.slice none 0 0,.slice none 0 0,.slice none 0 0],9):=by kernel_rfl
theorem zgg:(Tryz.prog.info? 72).map (·.size)=some 9:=by kernel_rfl
theorem zpm (u:World):(zeroValue 212).run Tryz.prog u=.ok (.agg #[.int .i64 0,.int .i64 0,.string ⟨#[]⟩,.int .i64 0,.int .i64 0,.int .i64 0,.slice none 0 0,.slice none 0 0,.slice none 0 0]) u:=by kernel_rfl
theorem zkN {w:World} {b:Nat} {t:TypeId} {c:List Value} (h:Box w b c.toArray t):w.rangeAt b 0 c:=fun j v hv=>by
 rw [Nat.zero_add,h.cell j]
 simp only [List.getElem?_toArray]
 exact hv
theorem ziE {w:World} (b:Nat) (cs:Array Value):ChgL [b] w (w.setRow b cs):=
 ⟨rfl,rfl,rfl,by simp,fun k _ hn=>setRow_other w b k cs (fun h=>hn (by simp [h]))⟩
theorem zel {ops:Array Oper} {o:Oper} {a:Act} {w:World} {K:Act→World→Prop} {Q:Exit→Act→World→Prop} {F:Prop} (T:TypeId) (x y:Operand) (ho:o.op=.store T x y) (hgd:o.guard=none) (b:Nat) (hx:a.eval x=.pointer (some ⟨b,0,none⟩)) {cs old:List Value} (hy:a.eval y=.agg cs.toArray) (hB:Box w b old.toArray T) {n:Nat} (hi:(Tryz.prog.info? T).map (·.size)=some n) (hl:cs.length=n) (hol:old.length=n) (h1:∀ v,v∈cs→v.oneCell'=true)
 (h:∀ w',Box w' b cs.toArray T→ChgL [b] w w'→w'.heap.size=w.heap.size→K (a.put o.dst undef) w'):if Region.wanted o (yielded ops a.tmps)=true then Oper.wp Tryz.prog o a w K Q else F:=by
 have hw:Region.wanted o (yielded ops a.tmps)=true:=by simp [Region.wanted,hgd]
 rw [if_pos hw];refine wp_store_row T x y ho b cs.toArray hx hy T old.toArray hB (by rw [hi];simp [hl]) (by simp [hl,hol]) (by simp;exact h1) ?_;exact h _ (setRow_heap w b _ cs.toArray T (0,0) hB) (ziE b _) (by simp)
set_option maxRecDepth 20000 in
theorem ziF {w:World} {B b1:Nat} (nm:ByteArray) (c0 c1 c2 c4 c5 c6 c7 c8:Value) (L:Int) (b:Bool) (hone:∀ v,v∈([c0,c1,c2,.int .i64 L,c4,c5,c6,c7,c8]:List Value)→v.oneCell'=true) (hcell:w.cell? ⟨B,10,none⟩=some (.map (some b1))) (hlook:∀ w',Below w.heap.size w w'→(Instr.lookup 188 (.map (some b1)) (.string nm) true).run Tryz.prog w'=.ok (.tuple #[.agg #[c0,c1,c2,.int .i64 L,c4,c5,c6,c7,c8],.bool b]) w') :
 Calls Tryz.prog 111 #[.pointer (some ⟨B,0,none⟩),.string nm] w (fun e w'=>e=.returned (.tuple #[.agg #[c0,c1,c2,.int .i64 L,c4,c5,c6,c7,c8],.bool (b&&decide (L≠-1))])∧Below w.heap.size w w'):=by
 have T2:=zaJ w #[.int .i64 0,.int .i64 0,.string ⟨#[]⟩,.int .i64 0,.int .i64 0,.int .i64 0,.slice none 0 0,.slice none 0 0,.slice none 0 0] #[c0,c1,c2,.int .i64 L,c4,c5,c6,c7,c8] 72 212;have T1:=zaD w #[.int .i64 0,.int .i64 0,.string ⟨#[]⟩,.int .i64 0,.int .i64 0,.int .i64 0,.slice none 0 0,.slice none 0 0,.slice none 0 0] 72;have hlk:=hlook _ T1.bel
 have hc1:(w.alloc (.cells #[.int .i64 0,.int .i64 0,.string ⟨#[]⟩,.int .i64 0,.int .i64 0,.int .i64 0,.slice none 0 0,.slice none 0 0,.slice none 0 0] 72)).cell? ⟨B,10,none⟩=some (.map (some b1)):=by rw [T1.bel.cell (block_lt_of_cell hcell)];exact hcell
 clear hcell T1
 cases b
 ·go_enter Tryz.func111,Tryz.ntmps111
  go_upto_region 2 with (refine zaI 212 6 (.tmp 14) _ _ 9 rfl rfl rfl rfl rfl rfl (by simp [Act.eval,Act.put]) (by simp [Act.eval,Act.put]) zmQ rfl rfl hone ?_)
  obtain ⟨W2,hW2⟩:∃ y,y=(w.alloc (.cells #[.int .i64 0,.int .i64 0,.string ⟨#[]⟩,.int .i64 0,.int .i64 0,.int .i64 0,.slice none 0 0,.slice none 0 0,.slice none 0 0] 72)).alloc (.cells #[c0,c1,c2,.int .i64 L,c4,c5,c6,c7,c8] 212):=⟨_,rfl⟩;rw [← hW2] at T2 ⊢;have bD:Below W2.heap.size W2 W2.drew:=⟨rfl,rfl,rfl,Nat.le_refl _,fun _ _=>rfl⟩;have HTD:=hid (T2.call bD);have rS:W2.drew.rangeAt (w.heap.size+1) 0 [c0,c1,c2,.int .i64 L,c4,c5,c6,c7,c8]∧W2.drew.cell? ⟨w.heap.size+1,3,none⟩=some (.int .i64 L):=⟨zkN HTD.out.b2,HTD.out.b2.cell 3⟩;clear T2 hW2 bD hlook hlk;refine zaz 13 (fun w'=>w'.rangeAt (w.heap.size+1) 0 [c0,c1,c2,.int .i64 L,c4,c5,c6,c7,c8]∧w'.cell? ⟨w.heap.size+1,3,none⟩=some (.int .i64 L)) zmO rS (fun hHeld=>?_);refine zpi 0 rfl ?_
  try simp only [Act.put,SL]
  refine zpi 1 rfl ?_
  try simp only [Act.put,SL]
  refine zdX (i:=2) (oi:=_) (v:=.agg #[c0,c1,c2,.int .i64 L,c4,c5,c6,c7,c8]) rfl (by kernel_rfl) (fun _ _ _ h=>h) (yieldsIf_load_mid (by kernel_rfl) 72 (.tmp 17) rfl (w.heap.size+1) 0 (by simp [Act.eval,Act.put]) [c0,c1,c2,.int .i64 L,c4,c5,c6,c7,c8] _ (fun w h=>h.1) Tryz.underlying72 rfl (by kernel_rfl)) (by assumption) ?_
  try simp only [Act.put,SL]
  refine zpi 3 rfl ?_
  try simp only [Act.put,SL]
  refine zpi 4 rfl ?_
  try simp only [Act.put,SL]
  refine zpk 5 rfl ?_
  try simp only [Act.put,SL]
  refine zpk 6 rfl ?_
  try simp only [Act.put,SL]
  refine zpk 7 rfl ?_
  try simp only [Act.put,SL]
  refine zpk 8 rfl ?_
  try simp only [Act.put,SL]
  refine zpk 9 rfl ?_
  try simp only [Act.put,SL]
  refine zpi 10 rfl ?_
  try simp only [Act.put,SL]
  refine zbb (i:=11) (o:=_) rfl (by kernel_rfl) (fun KC hKC=>?_);refine zel 72 _ _ rfl rfl (w.heap.size) (by simp [Act.eval,Act.put]) (cs:=[c0,c1,c2,.int .i64 L,c4,c5,c6,c7,c8]) (old:=[.int .i64 0,.int .i64 0,.string ⟨#[]⟩,.int .i64 0,.int .i64 0,.int .i64 0,.slice none 0 0,.slice none 0 0,.slice none 0 0]) (by simp [Act.eval,Act.put]) (HTD.out.b1) zgg rfl rfl hone ?_;intro w9 X9 C9 z9;have X8:Box w9 (w.heap.size+1) #[c0,c1,c2,.int .i64 L,c4,c5,c6,c7,c8] 212:=HTD.out.b2.chgl C9 (by simp);have r8:w9.rangeAt (w.heap.size+1) 0 [c0,c1,c2,.int .i64 L,c4,c5,c6,c7,c8]∧w9.cell? ⟨w.heap.size+1,3,none⟩=some (.int .i64 L):=⟨zkN X8,X8.cell 3⟩;refine hKC _ _ r8 ?_;clear hKC KC X8
  try simp only [Act.put,SL]
  refine zpi 12 rfl ?_
  try simp only [Act.put,SL]
  refine zat (by kernel_rfl) ?_ _;go_wp2;have y0:w9.cell? ⟨w.heap.size,0,none⟩=some (c0):=X9.cell 0;have y1:w9.cell? ⟨w.heap.size,1,none⟩=some (c1):=X9.cell 1;have y2:w9.cell? ⟨w.heap.size,2,none⟩=some (c2):=X9.cell 2;have y3:w9.cell? ⟨w.heap.size,3,none⟩=some (.int .i64 L):=X9.cell 3;have y4:w9.cell? ⟨w.heap.size,4,none⟩=some (c4):=X9.cell 4;have y5:w9.cell? ⟨w.heap.size,5,none⟩=some (c5):=X9.cell 5;have y6:w9.cell? ⟨w.heap.size,6,none⟩=some (c6):=X9.cell 6;have y7:w9.cell? ⟨w.heap.size,7,none⟩=some (c7):=X9.cell 7;have y8:w9.cell? ⟨w.heap.size,8,none⟩=some (c8):=X9.cell 8;have HB9:Hid (Below w.heap.size w w9):=HTD.out.bel.trans (C9.bel (fun b hb=>by simp at hb;omega) HTD.out.bel.size);refine bodyPost_ret (v:=.tuple #[.agg #[c0,c1,c2,.int .i64 L,c4,c5,c6,c7,c8],.bool false]) (by simp [results,Tryz.results111,go_sem,y0,y1,y2,y3,y4,y5,y6,y7,y8]) rfl ⟨rfl,HB9.out⟩
 ·go_enter Tryz.func111,Tryz.ntmps111
  go_upto_region 2 with (refine zaI 212 6 (.tmp 14) _ _ 9 rfl rfl rfl rfl rfl rfl (by simp [Act.eval,Act.put]) (by simp [Act.eval,Act.put]) zmQ rfl rfl hone ?_)
  obtain ⟨W2,hW2⟩:∃ y,y=(w.alloc (.cells #[.int .i64 0,.int .i64 0,.string ⟨#[]⟩,.int .i64 0,.int .i64 0,.int .i64 0,.slice none 0 0,.slice none 0 0,.slice none 0 0] 72)).alloc (.cells #[c0,c1,c2,.int .i64 L,c4,c5,c6,c7,c8] 212):=⟨_,rfl⟩;rw [← hW2] at T2 ⊢;have bD:Below W2.heap.size W2 W2.drew:=⟨rfl,rfl,rfl,Nat.le_refl _,fun _ _=>rfl⟩;have HTD:=hid (T2.call bD);have rS:W2.drew.rangeAt (w.heap.size+1) 0 [c0,c1,c2,.int .i64 L,c4,c5,c6,c7,c8]∧W2.drew.cell? ⟨w.heap.size+1,3,none⟩=some (.int .i64 L):=⟨zkN HTD.out.b2,HTD.out.b2.cell 3⟩;clear T2 hW2 bD hlook hlk;refine zaz 13 (fun w'=>w'.rangeAt (w.heap.size+1) 0 [c0,c1,c2,.int .i64 L,c4,c5,c6,c7,c8]∧w'.cell? ⟨w.heap.size+1,3,none⟩=some (.int .i64 L)) zmO rS (fun hHeld=>?_);refine zpi 0 rfl ?_
  try simp only [Act.put,SL]
  refine zpi 1 rfl ?_
  try simp only [Act.put,SL]
  refine zdX (i:=2) (oi:=_) (v:=.agg #[c0,c1,c2,.int .i64 L,c4,c5,c6,c7,c8]) rfl (by kernel_rfl) (fun _ _ _ h=>h) (yieldsIf_load_mid (by kernel_rfl) 72 (.tmp 17) rfl (w.heap.size+1) 0 (by simp [Act.eval,Act.put]) [c0,c1,c2,.int .i64 L,c4,c5,c6,c7,c8] _ (fun w h=>h.1) Tryz.underlying72 rfl (by kernel_rfl)) (by assumption) ?_
  try simp only [Act.put,SL]
  refine zpi 3 rfl ?_
  try simp only [Act.put,SL]
  refine zpi 4 rfl ?_
  try simp only [Act.put,SL]
  refine zpi 5 rfl ?_
  try simp only [Act.put,SL]
  refine zpi 6 rfl ?_
  try simp only [Act.put,SL]
  refine zpi 7 rfl ?_
  try simp only [Act.put,SL]
  refine zdX (i:=8) (oi:=_) (v:=?_) rfl (by kernel_rfl) (fun _ _ _ h=>h) (Or.inl ⟨by kernel_rfl,?_⟩) (by assumption) ?_
  rotate_left
  ·intro w' hSw
   try dsimp only at hSw
   obtain ⟨q1,q2⟩:=hSw;go_simp
   try with_reducible rfl
  try simp only [Act.put,SL]
  refine zpi 9 rfl ?_
  try simp only [Act.put,SL]
  refine zpi 10 rfl ?_
  try simp only [Act.put,SL]
  refine zbb (i:=11) (o:=_) rfl (by kernel_rfl) (fun KC hKC=>?_);refine zel 72 _ _ rfl rfl (w.heap.size) (by simp [Act.eval,Act.put]) (cs:=[c0,c1,c2,.int .i64 L,c4,c5,c6,c7,c8]) (old:=[.int .i64 0,.int .i64 0,.string ⟨#[]⟩,.int .i64 0,.int .i64 0,.int .i64 0,.slice none 0 0,.slice none 0 0,.slice none 0 0]) (by simp [Act.eval,Act.put]) (HTD.out.b1) zgg rfl rfl hone ?_;intro w9 X9 C9 z9;have X8:Box w9 (w.heap.size+1) #[c0,c1,c2,.int .i64 L,c4,c5,c6,c7,c8] 212:=HTD.out.b2.chgl C9 (by simp);have r8:w9.rangeAt (w.heap.size+1) 0 [c0,c1,c2,.int .i64 L,c4,c5,c6,c7,c8]∧w9.cell? ⟨w.heap.size+1,3,none⟩=some (.int .i64 L):=⟨zkN X8,X8.cell 3⟩;refine hKC _ _ r8 ?_;clear hKC KC X8
  try simp only [Act.put,SL]
  refine zpi 12 rfl ?_
  try simp only [Act.put,SL]
  refine zat (by kernel_rfl) ?_ _;go_wp2;have y0:w9.cell? ⟨w.heap.size,0,none⟩=some (c0):=X9.cell 0;have y1:w9.cell? ⟨w.heap.size,1,none⟩=some (c1):=X9.cell 1;have y2:w9.cell? ⟨w.heap.size,2,none⟩=some (c2):=X9.cell 2;have y3:w9.cell? ⟨w.heap.size,3,none⟩=some (.int .i64 L):=X9.cell 3;have y4:w9.cell? ⟨w.heap.size,4,none⟩=some (c4):=X9.cell 4;have y5:w9.cell? ⟨w.heap.size,5,none⟩=some (c5):=X9.cell 5;have y6:w9.cell? ⟨w.heap.size,6,none⟩=some (c6):=X9.cell 6;have y7:w9.cell? ⟨w.heap.size,7,none⟩=some (c7):=X9.cell 7;have y8:w9.cell? ⟨w.heap.size,8,none⟩=some (c8):=X9.cell 8
  have hd:(L==-1)=decide (L=-1):=by cases h:decide (L=-1)<;>simp_all
  have HB9:Hid (Below w.heap.size w w9):=HTD.out.bel.trans (C9.bel (fun b hb=>by simp at hb;omega) HTD.out.bel.size);refine bodyPost_ret (v:=.tuple #[.agg #[c0,c1,c2,.int .i64 L,c4,c5,c6,c7,c8],.bool (decide (L≠-1))]) (by simp [results,Tryz.results111,go_sem,y0,y1,y2,y3,y4,y5,y6,y7,y8,bne,hd]) rfl ⟨by simp,HB9.out⟩
theorem znN {w:World} {lo B hi:Nat} {s:Nat→Int} {m N:Nat} {x:Nat→RecD} {ce:Nat→List Value} {v:Value} {b1 b2 b3 b4 b5:Nat} (h:Ldg w lo B s m N x ce v b1 b2 b3 b4 b5) (hr:∀ i,i<N→zab.rd w hi (x i) (ce i)) (nm:ByteArray) (hnm:nm.size≤maxLen) :
 Calls Tryz.prog 111 #[.pointer (some ⟨B,0,none⟩),.string nm] w (fun e w'=>((zdc (itm x nm) N=-1∧e=.returned (.tuple #[.agg #[.int .i64 0,.int .i64 0,.string ⟨#[]⟩,.int .i64 0,.int .i64 0,.int .i64 0,.slice none 0 0,.slice none 0 0,.slice none 0 0],.bool false]))∨∃ i:Nat,i<N∧zdc (itm x nm) N=(i:Int)∧e=.returned (.tuple #[.agg (ce i).toArray,.bool (decide ((x i).length≠-1))]))∧Below w.heap.size w w'):=by
 obtain ⟨kl,hkl⟩:=zmL hnm;have d4:w.cell? ⟨B,10,none⟩=some (.map (some b1)):=h.box.cell 10
 have hlook:∀ w',Below w.heap.size w w'→(Instr.lookup 188 (.map (some b1)) (.string nm) true).run Tryz.prog w'=.ok (.tuple #[((newF x ce N) (.string nm)).getD (.agg #[.int .i64 0,.int .i64 0,.string ⟨#[]⟩,.int .i64 0,.int .i64 0,.int .i64 0,.slice none 0 0,.slice none 0 0,.slice none 0 0]),.bool ((newF x ce N) (.string nm)).isSome]) w':=fun w' hb=>
  (h.m1.block (hb.block _ h.m1.lt)).lookOk keyS Tryz.underlying188 (zpm _) hkl
 rcases zcl (itm x nm) N with e | ⟨i,h1,h2,h3⟩
 ·rw [(zjO x ce nm N).1 e] at hlook
  have:=ziF nm (.int .i64 0) (.int .i64 0) (.string ⟨#[]⟩) (.int .i64 0) (.int .i64 0) (.slice none 0 0) (.slice none 0 0) (.slice none 0 0) 0 false (by decide) d4 hlook;exact this.mono fun e' w' ⟨h1,h2⟩=>⟨.inl ⟨e,h1⟩,h2⟩
 ·rw [(zjO x ce nm N).2 i h2] at hlook
  have hr':=hr i h1;have ho:=zee hr';obtain ⟨ao6,cap6,ao7,cap7,ao8,cap8,hcs,-⟩:=zaP hr';rw [hcs] at hlook ho;have:=ziF nm _ _ _ _ _ _ _ _ (x i).length true ho d4 hlook;refine this.mono fun e' w' ⟨h1',h2'⟩=>⟨.inr ⟨i,h1,h2,?_⟩,h2'⟩;rw [hcs]
  simpa using h1'
end Go.Proofs.YtclclojenogpbaaGreat
namespace Go.Proofs.YtclclojenogpbaaGreat.Sym
def Re (a b:Nat) (p q:Nat→Nat):Prop:=∃ s t:Nat→Nat,(∀ i,q i=p (s i))∧(∀ i,t (s i)=i)∧(∀ i,s (t i)=i)∧∀ i,(i<a∨b≤i)→s i=i
theorem Re.refl (a b:Nat) (p:Nat→Nat):Re a b p p:=⟨id,id,fun _=>rfl,fun _=>rfl,fun _=>rfl,fun _ _=>rfl⟩
theorem Re.trans {a b:Nat} {p q r:Nat→Nat} (h:Re a b p q) (k:Re a b q r):Re a b p r:=by
 obtain ⟨s,t,h1,h2,h3,h4⟩:=h;obtain ⟨s',t',k1,k2,k3,k4⟩:=k;refine ⟨fun i=>s (s' i),fun i=>t' (t i),fun i=>by rw [k1,h1],fun i=>?_,fun i=>?_,fun i hi=>?_⟩
 ·show t' (t (s (s' i)))=i
  rw [h2,k2]
 ·show s (s' (t' (t i)))=i
  rw [k3,h3]
 ·show s (s' i)=i
  rw [k4 i hi,h4 i hi]
theorem Re.mono {a b a' b':Nat} {p q:Nat→Nat} (h:Re a b p q) (ha:a'≤a) (hb:b≤b'):Re a' b' p q:=by
 obtain ⟨s,t,h1,h2,h3,h4⟩:=h;exact ⟨s,t,h1,h2,h3,fun i hi=>h4 i (by omega)⟩
theorem Re.out {a b:Nat} {p q:Nat→Nat} (h:Re a b p q) {i:Nat} (hi:i<a∨b≤i):q i=p i:=by
 obtain ⟨s,t,h1,h2,h3,h4⟩:=h;rw [h1,h4 i hi]
theorem Re.from {a b:Nat} {p q:Nat→Nat} (h:Re a b p q) {i:Nat} (hi:a≤i∧i<b):∃ j,(a≤j∧j<b)∧q i=p j:=by
 obtain ⟨s,t,h1,h2,h3,h4⟩:=h;refine ⟨s i,?_,h1 i⟩
 by_cases c:a≤s i∧s i<b
 ·exact c
 ·have:=h4 (s i) (by omega)
  have e:s i=i:=by rw [← h2 (s i),this,h2]
  omega
def swp (i j:Nat):Nat→Nat:=fun k=>if k=i then j else if k=j then i else k
theorem zmR (i j k:Nat):swp i j (swp i j k)=k:=by unfold swp;split<;>split<;>simp_all<;>split<;>simp_all
theorem Re.swaps {a b i j:Nat} (p:Nat→Nat) (hi:a≤i∧i<b) (hj:a≤j∧j<b):Re a b p (fun k=>p (swp i j k)):=
 ⟨swp i j,swp i j,fun _=>rfl,zmR i j,zmR i j,fun k hk=>by unfold swp;rw [if_neg (by omega),if_neg (by omega)]⟩
def swr (a b n:Nat):Nat→Nat:=fun k=>if a≤k∧k<a+n then b+(k-a) else if b≤k∧k<b+n then a+(k-b) else k
theorem swr_zero (a b k:Nat):swr a b 0 k=k:=by unfold swr;rw [if_neg (by omega),if_neg (by omega)]
theorem swr_succ {a b n:Nat} (h:a+(n+1)≤b) (k:Nat):swr a b n (swp (a+n) (b+n) k)=swr a b (n+1) k:=by
 unfold swr swp
 by_cases c1:k=a+n
 ·rw [if_pos c1,if_neg (by omega),if_neg (by omega),if_pos (by omega)];omega
 ·rw [if_neg c1]
  by_cases c2:k=b+n
  ·rw [if_pos c2,if_neg (by omega),if_neg (by omega),if_neg (by omega),if_pos (by omega)];omega
  ·rw [if_neg c2]
   by_cases c3:a≤k∧k<a+n
   ·rw [if_pos c3,if_pos (by omega)]
   ·rw [if_neg c3,if_neg (show ¬ (a≤k∧k<a+(n+1)) by omega)]
    by_cases c4:b≤k∧k<b+n
    ·rw [if_pos c4,if_pos (by omega)]
    ·rw [if_neg c4,if_neg (by omega)]
def rot (lo m hi:Nat):Nat→Nat:=fun k=>if k<lo∨hi≤k then k else if k<lo+(hi-m) then m+(k-lo) else k-(hi-m)
theorem rot_more {m i j:Nat} (hij:j<i) (him:i≤m) (k:Nat):swr (m-i) m j (rot (m-(i-j)) m (m+j) k)=rot (m-i) m (m+j) k:=by
 unfold rot
 by_cases c1:k<m-i∨m+j≤k
 ·rw [if_pos (show k<m-i∨m+j≤k from c1),if_pos (by omega)]
  unfold swr;rw [if_neg (by omega),if_neg (by omega)]
 ·rw [if_neg c1]
  by_cases c2:k<m-i+(m+j-m)
  ·rw [if_pos c2,if_pos (by omega)]
   unfold swr;rw [if_pos (by omega)]
  ·rw [if_neg c2,if_neg (by omega)]
   by_cases c3:k<m-(i-j)+(m+j-m)
   ·rw [if_pos c3]
    unfold swr;rw [if_neg (by omega),if_pos (by omega)];omega
   ·rw [if_neg c3]
    unfold swr;rw [if_neg (by omega),if_neg (by omega)]
theorem rot_less {m i j:Nat} (hij:i<j) (him:i≤m) (k:Nat):swr (m-i) (m+j-i) i (rot (m-i) m (m+(j-i)) k)=rot (m-i) m (m+j) k:=by
 unfold rot
 by_cases c1:k<m-i∨m+j≤k
 ·rw [if_pos (show k<m-i∨m+j≤k from c1),if_pos (by omega)]
  unfold swr;rw [if_neg (by omega),if_neg (by omega)]
 ·rw [if_neg c1]
  by_cases c4:m+(j-i)≤k
  ·rw [if_pos (by omega),if_neg (by omega)]
   unfold swr;rw [if_neg (by omega),if_pos (by omega)];omega
  ·rw [if_neg (by omega)]
   by_cases c2:k<m-i+(m+(j-i)-m)
   ·rw [if_pos c2,if_pos (by omega)]
    unfold swr;rw [if_neg (by omega),if_neg (by omega)]
   ·rw [if_neg c2,if_pos (by omega)]
    unfold swr;rw [if_pos (by omega)];omega
theorem rot_same {m i:Nat} (him:i≤m) (k:Nat):swr (m-i) m i k=rot (m-i) m (m+i) k:=by
 unfold rot swr
 by_cases c1:k<m-i∨m+i≤k
 ·rw [if_pos c1,if_neg (by omega),if_neg (by omega)]
 ·rw [if_neg c1]
  by_cases c2:k<m-i+(m+i-m)
  ·rw [if_pos c2,if_pos (by omega)]
  ·rw [if_neg c2,if_neg (by omega),if_pos (by omega)];omega
theorem zkO {lo m hi:Nat} (h1:lo≤m) (h2:m≤hi) (k:Nat):rot lo (lo+(hi-m)) hi (rot lo m hi k)=k:=by
 unfold rot
 by_cases c1:k<lo∨hi≤k
 ·rw [if_pos c1,if_pos c1]
 ·rw [if_neg c1]
  by_cases c2:k<lo+(hi-m)
  ·rw [if_pos c2,if_neg (by omega),if_neg (by omega)];omega
  ·rw [if_neg c2,if_neg (by omega),if_pos (by omega)];omega
theorem Re.rots {lo m hi:Nat} (p:Nat→Nat) (h1:lo≤m) (h2:m≤hi):Re lo hi p (fun k=>p (rot lo m hi k)):=
 ⟨rot lo m hi,rot lo (lo+(hi-m)) hi,fun _=>rfl,zkO h1 h2,fun k=>by
  have:=zkO (lo:=lo) (m:=lo+(hi-m)) (hi:=hi) (by omega) (by omega) k
  rwa [show lo+(hi-(lo+(hi-m)))=m by omega] at this,fun k hk=>by unfold rot;rw [if_pos hk]⟩
structure Ord (lt:Nat→Nat→Prop):Prop where
 trans:∀ {i j k},lt i j→lt j k→lt i k
 irr:∀ i,¬ lt i i
def Srt (lt:Nat→Nat→Prop) (p:Nat→Nat) (a b:Nat):Prop:=∀ i j,a≤i→i<j→j<b→lt (p i) (p j)
theorem Srt.sub {lt:Nat→Nat→Prop} {p:Nat→Nat} {a b a' b':Nat} (h:Srt lt p a b) (h1:a≤a') (h2:b'≤b):Srt lt p a' b':=fun i j h3 h4 h5=>h i j (by omega) h4 (by omega)
theorem Srt.congr {lt:Nat→Nat→Prop} {p q:Nat→Nat} {a b:Nat} (h:Srt lt p a b) (e:∀ i,a≤i→i<b→q i=p i):Srt lt q a b:=fun i j h3 h4 h5=>by
 rw [e i h3 (by omega),e j (by omega) h5];exact h i j h3 h4 h5
theorem Srt.join {lt:Nat→Nat→Prop} {p:Nat→Nat} {a m b:Nat} (h1:Srt lt p a m) (h2:Srt lt p m b) (h:∀ i j,a≤i→i<m→m≤j→j<b→lt (p i) (p j)):Srt lt p a b:=fun i j h3 h4 h5=>by
 by_cases c1:j<m
 ·exact h1 i j h3 h4 c1
 ·by_cases c2:i<m
  ·exact h i j h3 c2 (by omega) h5
  ·exact h2 i j (by omega) h4 h5
theorem split {lt:Nat→Nat→Prop} (O:Ord lt) {p:Nat→Nat} {a m b s e mid:Nat} (h1:Srt lt p a m) (h2:Srt lt p m b) (hm:mid+m=s+e) (ha:a≤s) (sm:s≤m) (me:m≤e) (eb:e≤b)
 (q1:s≠a→e≠b→lt (p (s-1)) (p e)) (q2:s≠m→e≠m→lt (p (e-1)) (p s)) :
 Srt lt (fun k=>p (rot s m e k)) a s∧Srt lt (fun k=>p (rot s m e k)) s mid∧Srt lt (fun k=>p (rot s m e k)) mid e∧Srt lt (fun k=>p (rot s m e k)) e b∧
  ∀ i j,a≤i→i<mid→mid≤j→j<b→lt (p (rot s m e i)) (p (rot s m e j)):=by
 have r1:∀ i,i<s→rot s m e i=i:=fun i hi=>by unfold rot;rw [if_pos (by omega)]
 have r2:∀ i,s≤i→i<mid→rot s m e i=m+(i-s):=fun i h3 h4=>by unfold rot;rw [if_neg (by omega),if_pos (by omega)]
 have r3:∀ i,mid≤i→i<e→rot s m e i=s+(i-mid):=fun i h3 h4=>by unfold rot;rw [if_neg (by omega),if_neg (by omega)];omega
 have r4:∀ i,e≤i→rot s m e i=i:=fun i hi=>by unfold rot;rw [if_pos (by omega)]
 refine ⟨fun i j x y z=>?_,fun i j x y z=>?_,fun i j x y z=>?_,fun i j x y z=>?_,fun i j x y z u=>?_⟩
 ·show lt (p (rot s m e i)) (p (rot s m e j))
  rw [r1 i (by omega),r1 j z];exact h1 i j x y (by omega)
 ·show lt (p (rot s m e i)) (p (rot s m e j))
  rw [r2 i x (by omega),r2 j (by omega) z];exact h2 _ _ (by omega) (by omega) (by omega)
 ·show lt (p (rot s m e i)) (p (rot s m e j))
  rw [r3 i x (by omega),r3 j (by omega) z];exact h1 _ _ (by omega) (by omega) (by omega)
 ·show lt (p (rot s m e i)) (p (rot s m e j))
  rw [r4 i x,r4 j (by omega)];exact h2 _ _ (by omega) (by omega) (by omega)
 ·have le1:∀ {i j},a≤i→i≤j→j<m→p i=p j∨lt (p i) (p j):=fun {i j} x y z=>by
   by_cases c:i=j
   ·exact .inl (by rw [c])
   ·exact .inr (h1 i j x (by omega) z)
  have le2:∀ {i j},m≤i→i≤j→j<b→p i=p j∨lt (p i) (p j):=fun {i j} x y z=>by
   by_cases c:i=j
   ·exact .inl (by rw [c])
   ·exact .inr (h2 i j x (by omega) z)
  have tl:∀ {i j k},(i=j∨lt i j)→lt j k→lt i k:=fun {i j k} x y=>by
   rcases x with rfl | x
   ·exact y
   ·exact O.trans x y
  have tr:∀ {i j k},lt i j→(j=k∨lt j k)→lt i k:=fun {i j k} x y=>by
   rcases y with rfl | y
   ·exact x
   ·exact O.trans x y
  by_cases c1:i<s
  ·rw [r1 i c1]
   by_cases c2:j<e
   ·rw [r3 j z c2]
    exact h1 _ _ x (by omega) (by omega)
   ·rw [r4 j (by omega)]
    have q:=q1 (by omega) (by omega);exact tr (tl (le1 x (show i≤s-1 by omega) (by omega)) q) (le2 me (by omega) u)
  ·rw [r2 i (by omega) y]
   by_cases c2:j<e
   ·rw [r3 j z c2]
    have q:=q2 (by omega) (by omega);exact tr (tl (le2 (by omega) (show m+(i-s)≤e-1 by omega) (by omega)) q) (le1 ha (by omega) (by omega))
   ·rw [r4 j (by omega)]
    exact h2 _ _ (by omega) (by omega) u
theorem halves {lt:Nat→Nat→Prop} {p q r:Nat→Nat} {a mid b:Nat} (am:a≤mid) (mb:mid≤b) (h:∀ i j,a≤i→i<mid→mid≤j→j<b→lt (p i) (p j)) (k1:Re a mid p q) (k2:Re mid b q r) (s1:Srt lt q a mid) (s2:Srt lt r mid b):Srt lt r a b∧Re a b p r:=by
 refine ⟨Srt.join (m:=mid) (s1.congr fun i x y=>k2.out (.inl y)) s2 (fun i j x y z u=>?_),(k1.mono (Nat.le_refl _) mb).trans (k2.mono am (Nat.le_refl _))⟩
 obtain ⟨i',hi,e1⟩:=k1.from ⟨x,y⟩
 obtain ⟨j',hj,e2⟩:=k2.from ⟨z,u⟩
 rw [k2.out (.inl y),e1,e2,k1.out (.inr hj.1)];exact h i' j' hi.1 hi.2 hj.1 hj.2
end Go.Proofs.YtclclojenogpbaaGreat.Sym
namespace Go.Proofs.YtclclojenogpbaaGreat
open Go.RowKit F256
def zgH {α:Type} (E:Lay α):Prop:=∀ (w:World) (hi:Nat) (a:α) (cs:List Value),E.rd w hi a cs→∀ u,u∈cs→u.oneCell'=true
theorem zcm {α:Type} (enc:α→Value) (ok:α→Prop) (one:∀ a,(enc a).oneCell'=true):zgH (Lay.plain enc ok one):=fun w hi a cs h u hu=>by
 obtain ⟨rfl,_⟩:=h
 simp at hu
 subst hu;exact one a
theorem zcx {α β:Type} {A:Lay α} {B:Lay β} (ha:zgH A) (hb:zgH B):zgH (A.two B):=fun w hi p cs h u hu=>by
 obtain ⟨c,d,rfl,h1,h2⟩:=h
 rcases List.mem_append.1 hu with h | h
 ·exact ha _ _ _ _ h1 u h
 ·exact hb _ _ _ _ h2 u h
theorem znO {α β:Type} {A:Lay α} (ha:zgH A) (f:β→α):zgH (A.as f):=fun w hi p cs h u hu=>ha w hi (f p) cs h u hu
theorem zdr:zgH zad:=fun w hi p cs h u hu=>by
 obtain ⟨v,rfl,⟨ao,cap,rfl,_⟩,_⟩:=h
 simp at hu
 subst hu;rfl
theorem zlw:zgH zau:=fun w hi p cs h u hu=>by
 obtain ⟨v,rfl,⟨⟨ao,cap,rfl,_⟩,_⟩,_⟩:=h
 simp at hu
 subst hu;rfl
theorem za0:zgH zab:=znO (zcx (zcm _ _ _) (zcx (zcm _ _ _) (zcx (zcm _ _ _) (zcx (zcm _ _ _) (zcx (zcm _ _ _) (zcx (zcm _ _ _) (zcx zlw (zcx zdr zdr)))))))) _
def cat2 {β:Type} (x:Nat→β) (n:Nat) (y:Nat→β):Nat→β:=fun i=>if i<n then x i else y (i-n)
theorem zcn {β:Type} (x:Nat→β) {n i:Nat} (y:Nat→β) (h:i<n):cat2 x n y i=x i:=if_pos h
theorem zcB {β:Type} (x:Nat→β) (n:Nat) (y:Nat→β) (i:Nat):cat2 x n y (n+i)=y i:=by
 unfold cat2;rw [if_neg (by omega)]
 congr 1
 omega
theorem zgh {β:Type} (x:Nat→List β) (n:Nat) (y:Nat→List β):∀ m,catN (n+m) (cat2 x n y)=catN n x++catN m y
 | 0=>by rw [zb1,List.append_nil];exact zd4 (fun i hi=>zcn x y hi)
 | m+1=>by rw [← Nat.add_assoc,zbq,zgh x n y m,zbq,zcB,List.append_assoc]
structure View {α:Type} (E:Lay α) (t:TypeId) (w:World) (lo hi:Nat) (v:Value) (n:Nat) (x:Nat→α) (ce:Nat→List Value):Prop where
 row:w.ownsRow lo t E.sz v n (catN n ce)
 each:∀ i,i<n→E.rd w hi (x i) (ce i)
section
variable {α:Type} {E:Lay α} {t:TypeId} {w w':World} {lo hi n:Nat} {v:Value} {x:Nat→α} {ce:Nat→List Value}
theorem View.nil (x:Nat→α) (ce:Nat→List Value) (w:World) (lo hi:Nat):View E t w lo hi (.slice none 0 0) 0 x ce:=⟨World.ownsRow_nil w lo t E.sz,fun i hi=>by omega⟩
theorem View.lit0 (x:Nat→α) (ce:Nat→List Value) (w:World) (hi:Nat):View E t (w.alloc (.cells #[] t)) w.heap.size hi (.slice (some ⟨w.heap.size,0,none⟩) 0 0) 0 x ce:=by
 have h:=World.ownsRow_lit (base:=w.heap.size) (e:=t) (size:=E.sz) w #[] 0 (Nat.le_refl _) (Nat.zero_le _) (by simp);exact ⟨by simpa [zb1] using h,fun i hi=>by omega⟩
theorem View.form (h:View E t w lo hi v n x ce):∃ ao cap,v=.slice ao n cap:=by
 rcases h.row.2 with ⟨hv,hn⟩ | ⟨g,cap,cur,rfl,_⟩
 ·exact ⟨none,0,by rw [hv,hn]⟩
 ·exact ⟨_,_,rfl⟩
theorem View.form0 (h:View E t w lo hi v n x ce) (h0:n≠0):∃ g cap,v=.slice (some ⟨g,0,none⟩) n cap:=by
 rcases h.row.2 with ⟨hv,hn⟩ | ⟨g,cap,cur,rfl,_⟩
 ·exact absurd hn h0
 ·exact ⟨_,_,rfl⟩
theorem View.len (h:View E t w lo hi v n x ce):n≤maxLen:=by
 rcases h.row.2 with ⟨hv,hn⟩ | ⟨g,cap,cur,rfl,hbg,hgg,hnc,hcm,rest⟩
 ·omega
 ·omega
theorem View.kept (h:View E t w lo hi v n x ce) (hk:∀ b,v.ownBlock=some b→w'.heap[b]?=w.heap[b]?) (hb:Below hi w w'):View E t w' lo hi v n x ce:=by
 refine ⟨⟨h.row.1,?_⟩,fun i hi=>E.rd_below (h.each i hi) hb (Nat.le_refl _)⟩
 rcases h.row.2 with hn | ⟨g,cap,cur,rfl,hbg,hgg,rest⟩
 ·exact .inl hn
 ·exact .inr ⟨g,cap,cur,rfl,hbg,(hk g (by simp [Value.ownBlock])).trans hgg,rest⟩
theorem View.below (h:View E t w lo hi v n x ce) (hb:Below w.heap.size w w') (hh:hi≤w.heap.size):View E t w' lo hi v n x ce:=
 h.kept (fun b hv=>hb.block b (h.row.lt b hv).2) (hb.mono hh)
theorem View.congr {y:Nat→α} (h:View E t w lo hi v n x ce) (hy:∀ i,i<n→x i=y i):View E t w lo hi v n y ce:=⟨h.row,fun i hi=>by rw [← hy i hi];exact h.each i hi⟩
theorem View.lens (h:View E t w lo hi v n x ce):∀ i,i<n→(ce i).length=E.sz:=fun i hi=>E.rd_len (h.each i hi)
theorem View.cell {g cap:Nat} (h:View E t w lo hi (.slice (some ⟨g,0,none⟩) n cap) n x ce) {i j:Nat} (hi:i<n) (hj:j<E.sz):w.cell? ⟨g,i*E.sz+j,none⟩=(ce i)[j]?:=by
 rw [h.row.cellAt _ (zmj hi hj),zcp h.lens hi hj]
theorem View.rd (h:View E t w lo hi v n x ce) (hh:hi≤w.heap.size):(E.slice t).rd w w.heap.size (n,x) [v]:=by
 have hlt:=fun b hb=>(h.row.lt b hb).2;obtain ⟨ao,cap,rfl⟩:=h.form;refine ⟨ao,cap,rfl,h.len,fun h0=>?_⟩;obtain ⟨g,cap',e⟩:=h.form0 h0
 cases e
 refine ⟨g,0,rfl,hlt g (by simp [Value.ownBlock]),fun i hi=>⟨ce i,E.rd_mono (h.each i hi) hh,fun j hj=>?_⟩⟩;rw [Nat.zero_add];exact h.cell hi hj
theorem View.store1 {g cap:Nat} (h:View E t w lo hi (.slice (some ⟨g,0,none⟩) n cap) n x ce) (h1:E.sz=1) (hlo:hi≤lo) {i:Nat} (hi':i<n) {u:Value} {a:α} (ha:E.rd w hi a [u]) :
 View E t (w.setCell ⟨g,i,none⟩ u) lo hi (.slice (some ⟨g,0,none⟩) n cap) n (upd x i a) (upd ce i [u])∧Below lo w (w.setCell ⟨g,i,none⟩ u):=by
 have hg:=h.row.lt g rfl;have hb:Below lo w (w.setCell ⟨g,i,none⟩ u):=(Below.refl _ _).setCell hg.1 _;refine ⟨⟨?_,fun m hm=>?_⟩,hb⟩
 ·have:=(h.row.stored (i*E.sz+0) u).1
  rw [zkx h.lens hi' (by omega)] at this;rw [show i*E.sz+0=i by rw [h1];omega] at this;have hl:=h.lens i hi';rw [h1] at hl;obtain ⟨c,hc⟩:=List.length_eq_one_iff.1 hl;rw [hc] at this;exact this
 ·by_cases c:m=i
  ·subst c
   rw [zbf,zbf];exact E.rd_below ha hb hlo
  ·rw [zbx x a c,zbx ce _ c]
   exact E.rd_below (h.each m hm) hb hlo
def Src (E:Lay α) (w:World) (hi:Nat) (ao:Option Addr) (m:Nat) (y:Nat→α) (cy:Nat→List Value):Prop:=
 (m≠0→∃ b off,ao=some ⟨b,off,none⟩∧∀ j,j<m→∀ k,k<E.sz→w.cell? ⟨b,off+(j*E.sz+k),none⟩=(cy j)[k]?)∧∀ j,j<m→E.rd w hi (y j) (cy j)
theorem zfk {b:Nat} {y:α} {cs:List Value} (hc:∀ k,k<E.sz→w.cell? ⟨b,k,none⟩=cs[k]?) (hy:E.rd w hi y cs):Src E w hi (some ⟨b,0,none⟩) 1 (fun _=>y) (fun _=>cs):=
 ⟨fun _=>⟨b,0,rfl,fun j hj k hk=>by
  obtain rfl:j=0:=by omega
  rw [← hc k hk]
  congr 2
  omega⟩,fun _ _=>hy⟩
theorem zpn (b o j:Nat):(⟨b,o,none⟩:Addr).add j=⟨b,o+j,none⟩:=by unfold Addr.add;split<;>simp_all
end
theorem zbj {α:Type} {E:Lay α} {T e:TypeId} {by_:Nat} {zs:List Value} (I:ElInfo E T e by_ zs) (R1:zgH E) (ty:TypeId) {W:World} {lo hi n:Nat} {v:Value} {x:Nat→α} {ce:Nat→List Value} (h:View E e W lo hi v n x ce)
 {ao:Option Addr} {m:Nat} (c:Nat) {y:Nat→α} {cy:Nat→List Value} (hs:Src E W hi ao m y cy) (hlo:lo≤W.heap.size) (hhi:hi≤lo) (hn:n+m≤10000000) (hc0:ao=none→c=0∨m=0) :
 ∃ v' w',(Builtin.append_ #[T,T] ty #[v,.slice ao m c]).run Tryz.prog W=.ok v' w'∧View E e w' lo hi v' (n+m) (cat2 x n y) (cat2 ce n cy)∧W.grownBy w' v.ownBlock∧Below lo W w':=by
 obtain ⟨hz,hzs,hu,hinf,few⟩:=I
 obtain ⟨i0,hi0⟩:∃ i0,Tryz.prog.info? e=some i0:=by
  cases h:Tryz.prog.info? e with
  | none=>rw [h] at hinf;cases hinf
  | some i0=>exact ⟨i0,rfl⟩
 rw [hi0] at hinf
 simp only [Option.map_some,Option.some.injEq,Prod.mk.injEq] at hinf
 obtain ⟨h1,h2,h3⟩:=hinf
 obtain ⟨z,hz0,hzc⟩:∃ z,i0.zero=some z∧z.cells=zs.toArray:=by
  cases h:i0.zero with
  | none=>rw [h] at h1;cases h1
  | some z=>rw [h] at h1;exact ⟨z,rfl,by simpa using h1⟩
 obtain ⟨hcell,hrd⟩:=hs;have hlen:(catN m cy).length=m*E.sz:=zcI (fun j hj=>E.rd_len (hrd j hj))
 have big:∀ ad,ao=some ad→(∀ j u,(catN m cy)[j]?=some u→W.cell? (ad.add j)=some u)→∃ v' w',(Builtin.append_ #[T,T] ty #[v,.slice ao m c]).run Tryz.prog W=.ok v' w'∧View E e w' lo hi v' (n+m) (cat2 x n y) (cat2 ce n cy)∧W.grownBy w' v.ownBlock∧Below lo W w':=fun ad ha hc=>by
  subst ha
  obtain ⟨v',w',hr,r1,r2,r3,r4⟩:=run_append_own_at (P:=Tryz.prog) W lo T ty e i0 z E.sz by_ hu hi0 hz0 h2 h3 (by rw [hzc];simpa using hzs) hz v n (catN n ce) h.row ad m c (catN m cy) hlen hc
   (fun u hu=>by
    obtain ⟨i,hi,hm⟩:=zbw.1 hu
    exact R1 _ _ _ _ (hrd i hi) u hm) (by unfold maxLen;omega) (by
    have:(n+m)*by_≤10000000*1000:=Nat.mul_le_mul hn few
    omega) hlo
  have hb:Below lo W w':=(Below.refl _ _).grown r2 hlo (fun k hk=>(h.row.lt k hk).1);refine ⟨v',w',hr,⟨by rw [zgh];exact r1,fun i hi=>?_⟩,r2,hb⟩
  by_cases c1:i<n
  ·rw [zcn x y c1,zcn ce cy c1]
   exact E.rd_below (h.each i c1) hb hhi
  ·obtain ⟨k,rfl⟩:∃ k,i=n+k:=⟨i-n,by omega⟩
   rw [zcB,zcB];exact E.rd_below (hrd k (by omega)) hb hhi
 by_cases hm:m=0
 ·subst hm
  cases ao with
  | some ad=>exact big ad rfl (fun j u hj=>by rw [zb1] at hj;simp at hj)
  | none=>
   refine ⟨v,W,run_append_none' W lo T ty e i0 E.sz hu hi0 v n c _ h.row,⟨by rw [zgh,zb1,List.append_nil];exact h.row,fun i hi=>?_⟩,⟨rfl,rfl,rfl,Nat.le_refl _,fun _ _ _=>rfl⟩,Below.refl _ _⟩
   have hi':i<n:=by omega
   rw [zcn x y hi',zcn ce cy hi'];exact h.each i hi'
 ·obtain ⟨b,off,rfl,hcc⟩:=hcell hm
  refine big _ rfl (fun j u hj=>?_)
  have hj':j<m*E.sz:=by rw [← hlen];exact (List.getElem?_eq_some_iff.1 hj).1
  have e1:j/E.sz<m:=Nat.div_lt_of_lt_mul (by rw [Nat.mul_comm];exact hj');have e2:j%E.sz<E.sz:=Nat.mod_lt _ hz
  have e3:j/E.sz*E.sz+j%E.sz=j:=by rw [Nat.mul_comm];exact Nat.div_add_mod j E.sz
  rw [zpn,← e3,hcc _ e1 _ e2,← zcp (fun j hj=>E.rd_len (hrd j hj)) e1 e2,e3];exact hj
def spl (xs:List Value):Nat→List Value→List Value
 | _,[]=>xs
 | o,v::r=>spl (xs.set o v) (o+1) r
theorem zoJ (cs:List Value):∀ (xs:List Value) (o j:Nat),o+cs.length≤xs.length→(spl xs o cs)[j]?=if o≤j∧j<o+cs.length then cs[j-o]? else xs[j]?:=by
 induction cs with
 | nil=>intro xs o j h;rw [if_neg (by simp)];rfl
 | cons v r ih=>
  intro xs o j h
  simp only [List.length_cons] at h
  show (spl (xs.set o v) (o+1) r)[j]?=_
  rw [ih (xs.set o v) (o+1) j (by rw [List.length_set];omega)]
  by_cases c1:o=j
  ·subst c1
   rw [if_neg (by omega),if_pos (by simp),List.getElem?_set]
   simp
   omega
  ·by_cases c2:o+1≤j∧j<o+1+r.length
   ·rw [if_pos c2,if_pos (by simp;omega)]
    obtain ⟨i,rfl⟩:∃ i,j=o+1+i:=⟨j-(o+1),by omega⟩;rw [show o+1+i-(o+1)=i by omega,show o+1+i-o=i+1 by omega]
    simp
   ·rw [if_neg c2,if_neg (by simp;omega),List.getElem?_set,if_neg c1]
theorem znP {n s i:Nat} {ce:Nat→List Value} {cs:List Value} (hs:0<s) (hl:∀ k,k<n→(ce k).length=s) (hc:cs.length=s) (hi:i<n):spl (catN n ce) (i*s) cs=catN n (upd ce i cs):=by
 have hl':∀ k,k<n→(upd ce i cs k).length=s:=fun k hk=>by
  by_cases c:k=i
  ·subst c;rw [zbf];exact hc
  ·rw [zbx ce cs c];exact hl k hk
 have hb:i*s+s≤n*s:=by
  have:=Nat.mul_le_mul_right s (show i+1≤n from hi);rw [Nat.succ_mul] at this;exact this
 apply List.ext_getElem?
 intro j;rw [zoJ _ _ _ _ (by rw [zcI hl,hc];exact hb)]
 by_cases hj:j<n*s
 ·have e3:j/s*s+j%s=j:=by rw [Nat.mul_comm];exact Nat.div_add_mod j s
  have e1:j/s<n:=Nat.div_lt_of_lt_mul (by rw [Nat.mul_comm];exact hj);have e2:j%s<s:=Nat.mod_lt _ hs;have g1:=zcp hl e1 e2;have g2:=zcp hl' e1 e2;rw [e3] at g1 g2;rw [g1,g2]
  by_cases c:j/s=i
  ·have h5:i*s≤j∧j<i*s+cs.length:=by rw [← c,hc];omega
   rw [if_pos h5,c,zbf]
   congr 1
   rw [← c];omega
  ·rw [zbx ce cs c,if_neg]
   rw [hc];intro hh
   apply c
   have:=Nat.div_eq_of_lt_le (m:=j) (n:=s) (k:=i) (by rw [Nat.mul_comm] at *;omega) (by rw [Nat.succ_mul];omega);exact this
 ·rw [if_neg (by rw [hc];omega),List.getElem?_eq_none (l:=catN n ce) (by rw [zcI hl];omega),List.getElem?_eq_none (l:=catN n (upd ce i cs)) (by rw [zcI hl'];omega)]
theorem ziG {lo:Nat} {t:TypeId} {s g cap n:Nat} (cs:List Value):∀ (w:World) (xs:List Value) (o:Nat),w.ownsRow lo t s (.slice (some ⟨g,0,none⟩) n cap) n xs→(w.setCells g o cs).ownsRow lo t s (.slice (some ⟨g,0,none⟩) n cap) n (spl xs o cs):=by
 induction cs with
 | nil=>intro w xs o h;exact h
 | cons v r ih=>intro w xs o h;exact ih _ _ _ (h.stored o v).1
theorem zds (g:Nat) (cs:List Value):∀ (w:World) (o:Nat),ChgL [g] w (w.setCells g o cs):=by
 induction cs with
 | nil=>intro w o;exact ChgL.refl _ _
 | cons v r ih=>intro w o;exact (ChgL.store [g] w g o v (by simp)).trans (ih _ _)
section
variable {α:Type} {E:Lay α} {t:TypeId} {w:World} {lo hi n g cap:Nat} {x:Nat→α} {ce:Nat→List Value}
theorem View.drew {v:Value} (h:View E t w lo hi v n x ce):View E t w.drew lo hi v n x ce:=h.kept (fun _ _=>rfl) ⟨rfl,rfl,rfl,Nat.le_refl _,fun _ _=>rfl⟩
theorem View.congr2 {v:Value} {y:Nat→α} {cy:Nat→List Value} (h:View E t w lo hi v n x ce) (hy:∀ i,i<n→x i=y i) (hc:∀ i,i<n→ce i=cy i):View E t w lo hi v n y cy:=⟨by rw [← zd4 hc];exact h.row,fun i hi=>by rw [← hy i hi,← hc i hi];exact h.each i hi⟩
theorem View.range (h:View E t w lo hi (.slice (some ⟨g,0,none⟩) n cap) n x ce) {i:Nat} (hi':i<n):w.rangeAt g (i*E.sz) (ce i):=fun j v hv=>by
 have hj:j<E.sz:=by rw [← h.lens i hi'];exact (List.getElem?_eq_some_iff.1 hv).1
 rw [h.cell hi' hj];exact hv
theorem View.there (h:View E t w lo hi (.slice (some ⟨g,0,none⟩) n cap) n x ce) {i:Nat} (hi':i<n):w.there g (i*E.sz) E.sz:=fun j hj=>by
 refine ⟨?_,h.row.frozenAt _⟩;rw [h.cell hi' hj,List.getElem?_eq_getElem (by rw [h.lens i hi'];exact hj)];rfl
theorem View.put (h:View E t w lo hi (.slice (some ⟨g,0,none⟩) n cap) n x ce) (hs:0<E.sz) (hlo:hi≤lo) {i:Nat} (hi':i<n) {a:α} {cs:List Value} (ha:E.rd w hi a cs) :
 View E t (w.setCells g (i*E.sz) cs) lo hi (.slice (some ⟨g,0,none⟩) n cap) n (upd x i a) (upd ce i cs):=by
 have hg:=h.row.lt g rfl;have hb:Below lo w (w.setCells g (i*E.sz) cs):=(zds g cs w _).bel (fun b hb=>by simp at hb;omega) (by omega);refine ⟨?_,fun m hm=>?_⟩
 ·have:=ziG cs w _ (i*E.sz) h.row
  rw [znP hs h.lens (E.rd_len ha) hi'] at this;exact this
 ·by_cases c:m=i
  ·subst c
   rw [zbf,zbf];exact E.rd_below ha hb hlo
  ·rw [zbx x a c,zbx ce _ c]
   exact E.rd_below (h.each m hm) hb hlo
end
theorem zb6:Tryz.prog.follows Departure.mixedOrders=true:=by kernel_rfl
theorem zap {cs:List Value} (h:cs.length=9):(Tryz.prog.info? 72).map (·.size)=some cs.length:=by rw [h];kernel_rfl
def RowsV (x0:Nat→RecD) (enc:Nat→List Value) (N blk cap lo hi:Nat) (w:World) (p:Nat→Nat):Prop:=View zab 72 w lo hi (.slice (some ⟨blk,0,none⟩) N cap) N (fun i=>x0 (p i)) (fun i=>enc (p i))
theorem RowsV.same {x0:Nat→RecD} {enc:Nat→List Value} {N blk cap lo hi:Nat} {w:World} {p q:Nat→Nat} (h:RowsV x0 enc N blk cap lo hi w p) (e:∀ i,i<N→p i=q i):RowsV x0 enc N blk cap lo hi w q:=View.congr2 h (fun i hi=>by rw [e i hi]) (fun i hi=>by rw [e i hi])
theorem zmS {β:Type} (f:Nat→β) (p:Nat→Nat) (A B i:Nat):upd (upd (fun k=>f (p k)) A (f (p B))) B (f (p A)) i=f (p (Sym.swp A B i)):=by
 unfold Sym.swp
 by_cases c1:i=B
 ·subst c1
  rw [zbf]
  by_cases c2:i=A
  ·subst c2;simp
  ·rw [if_neg c2,if_pos rfl]
 ·rw [zbx _ _ c1]
  by_cases c2:i=A
  ·subst c2;rw [zbf,if_pos rfl]
  ·rw [zbx _ _ c2,if_neg c2,if_neg c1]
theorem zeT {x0:Nat→RecD} {enc:Nat→List Value} {p:Nat→Nat} {w:World} {lo hi N blk cap A B:Nat} (V:RowsV x0 enc N blk cap lo hi w p) (hlo:hi≤lo) (hA:A<N) (hB:B<N) :
 RowsV x0 enc N blk cap lo hi ((w.setCells blk (A*9) (enc (p B))).setCells blk (B*9) (enc (p A))) (fun k=>p (Sym.swp A B k))∧ChgL [blk] w ((w.setCells blk (A*9) (enc (p B))).setCells blk (B*9) (enc (p A))):=by
 unfold RowsV at V ⊢;have hg:=V.row.lt blk rfl;have C1:=zds blk (enc (p B)) w (A*9);have V1:=V.put (by decide) hlo hA (V.each B hB);have V2:=V1.put (by decide) hlo hB (zab.rd_below (V.each A hA) (C1.bel (B:=hi) (fun b hb=>by simp at hb;omega) (by omega)) (Nat.le_refl _));refine ⟨V2.congr2 (fun i _=>?_) (fun i _=>?_),C1.trans (zds blk _ _ _)⟩
 ·exact zmS x0 p A B i
 ·exact zmS enc p A B i
set_option maxRecDepth 1000000 in
theorem zdt (x0:Nat→RecD) (enc:Nat→List Value) (p:Nat→Nat) (N blk cap lo hi:Nat) (w:World) (V:RowsV x0 enc N blk cap lo hi w p) (hlo:hi≤lo) (hN:N<1000000000) (a b n:Nat) (fv:Value) (hab:a+n≤b) (hb:b+n≤N) :
 Calls Tryz.prog 281 #[.slice (some ⟨blk,0,none⟩) N cap,.int .i64 a,.int .i64 b,.int .i64 n,fv] w (fun e w'=>e=.returned (.tuple #[])∧RowsV x0 enc N blk cap lo hi w' (fun k=>p (Sym.swr a b n k))∧ChgL [blk] w w'):=by
 have HV0:=hid V;clear V
 go_enter Tryz.func281,Tryz.ntmps281
 go_wp2
 go_loopw [10] (fun i wr=>∃ t:Nat,t≤n∧i=.int .i64 t∧RowsV x0 enc N blk cap lo hi wr (fun k=>p (Sym.swr a b t k))∧ChgL [blk] w wr) (fun i _=>n-(intOf i).toNat)
 case atStart=>exact ⟨0,Nat.zero_le _,rfl,HV0.out.same (fun i _=>by rw [Sym.swr_zero]),ChgL.refl _ _⟩
 case round=>
  obtain ⟨t,ht,rfl,V,C⟩:=hrel;have HC:=hid C;clear C
  by_cases hlt:t<n
  ·have t1:(t:Int)<(n:Int):=by omega
   obtain ⟨q,hq⟩:∃ q:Nat→Nat,q=fun k=>p (Sym.swr a b t k):=⟨_,rfl⟩;have HQ:=hid hq
   have VQ:RowsV x0 enc N blk cap lo hi wr q:=by rw [hq];exact V
   obtain ⟨A,hA⟩:∃ A,A=a+t:=⟨_,rfl⟩;obtain ⟨B,hB⟩:∃ B,B=b+t:=⟨_,rfl⟩
   have hAN:A<N:=by omega
   have hBN:B<N:=by omega
   have HAB:Hid (A=a+t∧B=b+t):=⟨hA,hB⟩
   have w1:IntKind.i64.wrap ((a:Int)+(t:Int))=(A:Int):=by rw [IntKind.wrap_i64];omega
   have w2:IntKind.i64.wrap ((b:Int)+(t:Int))=(B:Int):=by rw [IntKind.wrap_i64];omega
   have i1:(A:Int)<(N:Int):=by omega
   have i2:(B:Int)<(N:Int):=by omega
   have i3:(0:Int)≤(A:Int):=by omega
   have i4:(0:Int)≤(B:Int):=by omega
   have VD:=View.drew VQ;have rgA:wr.drew.rangeAt blk (A*9) (enc (q A)):=VD.range hAN;have rgB:wr.drew.rangeAt blk (B*9) (enc (q B)):=VD.range hBN;have hsA:(enc (q A)).length=9:=VD.lens A hAN;have hsB:(enc (q B)).length=9:=VD.lens B hBN
   have th1:wr.drew.there blk (A*9) (enc (q B)).length:=by rw [hsB];exact VD.there hAN
   have th2:(wr.drew.setCells blk (A*9) (enc (q B))).there blk (B*9) (enc (q A)).length:=by rw [hsA];exact (VD.put (by decide) hlo hAN (VD.each B hBN)).there hBN
   have oneA:=za0 _ _ _ _ (VD.each A hAN);have oneB:=za0 _ _ _ _ (VD.each B hBN);have SW:=zeT VD hlo hAN hBN;have HSW:=hid SW.1;have HSC:Hid (ChgL [blk] wr ((wr.drew.setCells blk (A*9) (enc (q B))).setCells blk (B*9) (enc (q A)))):=(ChgL.of_below ⟨rfl,rfl,rfl,Nat.le_refl _,fun _ _=>rfl⟩:ChgL [blk] wr wr.drew).trans SW.2;obtain ⟨cA,hcA⟩:∃ c,c=enc (q A):=⟨_,rfl⟩;obtain ⟨cB,hcB⟩:∃ c,c=enc (q B):=⟨_,rfl⟩;rw [← hcA] at rgA th2 hsA oneA HSW HSC;rw [← hcB] at rgB th1 th2 hsB oneB HSW HSC;clear hcA hcB VD SW;clear hq hA hB V VQ
   go_upto_region 3 with fail
   refine zaz 21 (fun w'=>w'.rangeAt blk (A*9) cA∧w'.rangeAt blk (B*9) cB) zb6 ⟨rgA,rgB⟩ (fun hHeld=>?_);refine zaa (i:=0) (oi:=_) (v:=?_) rfl (by kernel_rfl) (fun _ _ _ h=>h) (Or.inl ⟨by rfl,?_⟩) (by assumption) ?_
   rotate_left
   ·intro w' hSw;go_simp;try with_reducible rfl
   try simp only [Act.put,SL]
   refine zaa (i:=1) (oi:=_) (v:=?_) rfl (by kernel_rfl) (fun _ _ _ h=>h) (Or.inl ⟨by rfl,?_⟩) (by assumption) ?_
   rotate_left
   ·intro w' hSw;go_simp;try with_reducible rfl
   try simp only [Act.put,SL]
   refine zaa (i:=2) (oi:=_) (v:=?_) rfl (by kernel_rfl) (fun _ _ _ h=>h) (Or.inl ⟨by rfl,?_⟩) (by assumption) ?_
   rotate_left
   ·intro w' hSw;go_simp;try with_reducible rfl
   try simp only [Act.put,SL]
   refine zaa (i:=3) (oi:=_) (v:=?_) rfl (by kernel_rfl) (fun _ _ _ h=>h) (Or.inl ⟨by rfl,?_⟩) (by assumption) ?_
   rotate_left
   ·intro w' hSw;go_simp;try with_reducible rfl
   try simp only [Act.put,SL]
   refine zaa (i:=4) (oi:=_) (v:=?_) rfl (by kernel_rfl) (fun _ _ _ h=>h) (Or.inl ⟨by rfl,?_⟩) (by assumption) ?_
   rotate_left
   ·intro w' hSw;go_simp;try with_reducible rfl
   try simp only [Act.put,SL]
   refine zaa (i:=5) (oi:=_) (v:=?_) rfl (by kernel_rfl) (fun _ _ _ h=>h) (Or.inl ⟨by rfl,?_⟩) (by assumption) ?_
   rotate_left
   ·intro w' hSw;go_simp;try with_reducible rfl
   try simp only [Act.put,SL]
   refine zaa (i:=6) (oi:=_) (v:=?_) rfl (by kernel_rfl) (fun _ _ _ h=>h) (Or.inl ⟨by rfl,?_⟩) (by assumption) ?_
   rotate_left
   ·intro w' hSw;go_simp;try with_reducible rfl
   try simp only [Act.put,SL]
   refine zaa (i:=7) (oi:=_) (v:=?_) rfl (by kernel_rfl) (fun _ _ _ h=>h) (Or.inl ⟨by rfl,?_⟩) (by assumption) ?_
   rotate_left
   ·intro w' hSw;go_simp;try with_reducible rfl
   try simp only [Act.put,SL]
   refine zaa (i:=8) (oi:=_) (v:=?_) rfl (by kernel_rfl) (fun _ _ _ h=>h) (Or.inl ⟨by rfl,?_⟩) (by assumption) ?_
   rotate_left
   ·intro w' hSw;go_simp;try with_reducible rfl
   try simp only [Act.put,SL]
   refine zaa (i:=9) (oi:=_) (v:=?_) rfl (by kernel_rfl) (fun _ _ _ h=>h) (Or.inl ⟨by rfl,?_⟩) (by assumption) ?_
   rotate_left
   ·intro w' hSw;go_simp;try with_reducible rfl
   try simp only [Act.put,SL]
   refine zaa (i:=10) (oi:=_) (v:=?_) rfl (by kernel_rfl) (fun _ _ _ h=>h) (Or.inl ⟨by rfl,?_⟩) (by assumption) ?_
   rotate_left
   ·intro w' hSw;go_simp;try with_reducible rfl
   try simp only [Act.put,SL]
   refine zaa (i:=11) (oi:=_) (v:=?_) rfl (by kernel_rfl) (fun _ _ _ h=>h) (Or.inl ⟨by rfl,?_⟩) (by assumption) ?_
   rotate_left
   ·intro w' hSw;go_simp;try with_reducible rfl
   try simp only [Act.put,SL]
   refine zaa (i:=12) (oi:=_) (v:=?_) rfl (by kernel_rfl) (fun _ _ _ h=>h) (Or.inl ⟨by rfl,?_⟩) (by assumption) ?_
   rotate_left
   ·intro w' hSw;go_simp;try with_reducible rfl
   try simp only [Act.put,SL]
   refine zaj (i:=13) (oi:=_) 16 rfl (by kernel_rfl) (fun _ _ _ h=>h) (yieldsIf_load_mid (by rfl) 72 (.tmp 28) rfl blk (B*9) (by simp [Act.eval,Act.put]) cB _ (fun w h=>h.2) Tryz.underlying72 rfl (zap hsB)) (by assumption) ?_
   try simp only [Act.put,SL]
   refine zaa (i:=14) (oi:=_) (v:=?_) rfl (by kernel_rfl) (fun _ _ _ h=>h) (Or.inl ⟨by rfl,?_⟩) (by assumption) ?_
   rotate_left
   ·intro w' hSw;go_simp;try with_reducible rfl
   try simp only [Act.put,SL]
   refine zaa (i:=15) (oi:=_) (v:=?_) rfl (by kernel_rfl) (fun _ _ _ h=>h) (Or.inl ⟨by rfl,?_⟩) (by assumption) ?_
   rotate_left
   ·intro w' hSw;go_simp;try with_reducible rfl
   try simp only [Act.put,SL]
   refine zaa (i:=16) (oi:=_) (v:=?_) rfl (by kernel_rfl) (fun _ _ _ h=>h) (Or.inl ⟨by rfl,?_⟩) (by assumption) ?_
   rotate_left
   ·intro w' hSw;go_simp;try with_reducible rfl
   try simp only [Act.put,SL]
   refine zaa (i:=17) (oi:=_) (v:=?_) rfl (by kernel_rfl) (fun _ _ _ h=>h) (Or.inl ⟨by rfl,?_⟩) (by assumption) ?_
   rotate_left
   ·intro w' hSw;go_simp;try with_reducible rfl
   try simp only [Act.put,SL]
   refine zaa (i:=18) (oi:=_) (v:=?_) rfl (by kernel_rfl) (fun _ _ _ h=>h) (Or.inl ⟨by rfl,?_⟩) (by assumption) ?_
   rotate_left
   ·intro w' hSw;go_simp;try with_reducible rfl
   try simp only [Act.put,SL]
   refine zaj (i:=19) (oi:=_) 16 rfl (by kernel_rfl) (fun _ _ _ h=>h) (yieldsIf_load_mid (by rfl) 72 (.tmp 34) rfl blk (A*9) (by simp [Act.eval,Act.put]) cA _ (fun w h=>h.1) Tryz.underlying72 rfl (zap hsA)) (by assumption) ?_
   try simp only [Act.put,SL]
   refine zaa (i:=20) (oi:=_) (v:=?_) rfl (by kernel_rfl) (fun _ _ _ h=>h) (Or.inl ⟨by rfl,?_⟩) (by assumption) ?_
   rotate_left
   ·intro w' hSw;go_simp;try with_reducible rfl
   try simp only [Act.put,SL]
   refine zbp (i:=21) rfl (by kernel_rfl) (by kernel_rfl) rfl rfl 72 (.tmp 36) (.tmp 29) rfl blk (A*9) cB (by simp [Act.eval]) (by simp [Act.eval]) th1 (zap hsB) oneB ?_;refine zai (i:=22) (oi:=_) (v:=?_) rfl (by kernel_rfl) (fun _ _ _ h=>h) (Or.inl ⟨by rfl,?_⟩) ?_
   rotate_left
   ·intro w' hSw;go_simp;try with_reducible rfl
   try simp only [Act.put,SL]
   refine zbp (i:=23) rfl (by kernel_rfl) (by kernel_rfl) rfl rfl 72 (.tmp 37) (.tmp 35) rfl blk (B*9) cA (by simp [Act.eval]) (by simp [Act.eval]) th2 (zap hsA) oneA ?_;refine zat (by kernel_rfl) ?_ _;go_wp2
   go_roundw
   case rel=>
    have e:∀ i,q (Sym.swp A B i)=p (Sym.swr a b (t+1) i):=fun i=>by
     rw [HQ.out,HAB.out.1,HAB.out.2]
     show p (Sym.swr a b t (Sym.swp (a+t) (b+t) i))=_
     rw [Sym.swr_succ (by omega)]
    exact ⟨t+1,by omega,by go_num,HSW.out.same (fun i _=>e i),HC.out.trans HSC.out⟩
   case measure=>simp [intOf];omega
  ·obtain rfl:t=n:=by omega
   have HV:=hid V;clear V;go_wp2
   go_end0
   exact ⟨rfl,HV.out,HC.out⟩
set_option maxRecDepth 1000000 in
theorem zlx (x0:Nat→RecD) (enc:Nat→List Value) (p:Nat→Nat) (N blk cap lo hi:Nat) (w:World) (V:RowsV x0 enc N blk cap lo hi w p) (hlo:hi≤lo) (hN:N<1000000000) (a m b:Nat) (fv:Value) (ham:a<m) (hmb:m<b) (hb:b≤N) :
 Calls Tryz.prog 260 #[.slice (some ⟨blk,0,none⟩) N cap,.int .i64 a,.int .i64 m,.int .i64 b,fv] w (fun e w'=>e=.returned (.tuple #[])∧RowsV x0 enc N blk cap lo hi w' (fun k=>p (Sym.rot a m b k))∧ChgL [blk] w w'):=by
 have HV0:=hid V;clear V
 go_enter Tryz.func260,Tryz.ntmps260
 go_wp2
 go_loopw [10,11] (fun vi vj wr=>∃ (i j:Nat) (q:Nat→Nat),0<i∧0<j∧i≤m-a∧j≤b-m∧vi=.int .i64 i∧vj=.int .i64 j∧(∀ k,q (Sym.rot (m-i) m (m+j) k)=p (Sym.rot a m b k))∧RowsV x0 enc N blk cap lo hi wr q∧ChgL [blk] w wr) (fun vi vj _=>(intOf vi).toNat+(intOf vj).toNat)
 case atStart=>exact ⟨m-a,b-m,p,by omega,by omega,by omega,by omega,by go_num,by go_num,fun k=>by rw [show m-(m-a)=a by omega,show m+(b-m)=b by omega],HV0.out,ChgL.refl _ _⟩
 case round=>
  obtain ⟨i,j,q,hi0,hj0,him,hjb,rfl,rfl,hq,V,C⟩:=hrel;have HC:=hid C;have HQ:=hid hq;clear C hq
  have w1:IntKind.i64.wrap ((m:Int)-(i:Int))=((m-i:Nat):Int):=by rw [IntKind.wrap_i64];omega
  obtain ⟨M,hM⟩:∃ M,M=m-i:=⟨_,rfl⟩;have HM:=hid hM;rw [← hM] at w1
  by_cases hij:i=j
  ·subst hij
   have hne:((i:Int) != (i:Int))=false:=by simp
   have CS:=zdt x0 enc q N blk cap lo hi wr V hlo hN M m i fv (by omega) (by omega);clear V hM
   go_wp2_with fail
   refine CS.mono ?_;rintro e w2 ⟨rfl,V2,C2⟩;go_wp2
   go_end0
   refine ⟨rfl,V2.same (fun k _=>?_),HC.out.trans C2⟩
   show q (Sym.swr M m i k)=p (Sym.rot a m b k)
   rw [← HQ.out,HM.out,Sym.rot_same (by omega)]
  ·have hne:((i:Int) != (j:Int))=true:=by simp;omega
   by_cases hlt:j<i
   ·have hgt:(j:Int)<(i:Int):=by omega
    have w3:IntKind.i64.wrap ((i:Int)-(j:Int))=((i-j:Nat):Int):=by rw [IntKind.wrap_i64];omega
    have CS:=zdt x0 enc q N blk cap lo hi wr V hlo hN M m j fv (by omega) (by omega);clear V hM
    go_wp2_with fail
    refine CS.mono ?_;rintro e w2 ⟨rfl,V2,C2⟩;have HV2:=hid V2;clear V2 CS;go_wp2
    go_roundw
    case rel=>exact ⟨i-j,j,fun k=>q (Sym.swr M m j k),by omega,by omega,by omega,by omega,by go_num,by go_num,fun k=>by
     show q (Sym.swr M m j (Sym.rot (m-(i-j)) m (m+j) k))=_
     rw [HM.out,Sym.rot_more (by omega) (by omega),HQ.out],HV2.out,HC.out.trans C2⟩
    case measure=>simp [intOf];omega
   ·have hgt:decide ((j:Int)<(i:Int))=false:=decide_eq_false (by omega)
    have w3:IntKind.i64.wrap ((j:Int)-(i:Int))=((j-i:Nat):Int):=by rw [IntKind.wrap_i64];omega
    have w4:IntKind.i64.wrap ((m:Int)+(j:Int))=((m+j:Nat):Int):=by rw [IntKind.wrap_i64];omega
    have w5:IntKind.i64.wrap (((m+j:Nat):Int)-(i:Int))=((m+j-i:Nat):Int):=by rw [IntKind.wrap_i64];omega
    have CS:=zdt x0 enc q N blk cap lo hi wr V hlo hN M (m+j-i) i fv (by omega) (by omega);obtain ⟨MJ,hMJ⟩:∃ x,x=m+j:=⟨_,rfl⟩;obtain ⟨MI,hMI⟩:∃ x,x=m+j-i:=⟨_,rfl⟩;have HMI:=hid hMI;rw [← hMI] at CS w5;rw [← hMJ] at w4 w5;clear V hM hMI hMJ
    go_wp2_with fail
    refine CS.mono ?_;rintro e w2 ⟨rfl,V2,C2⟩;have HV2:=hid V2;clear V2 CS;go_wp2
    go_roundw
    case rel=>exact ⟨i,j-i,fun k=>q (Sym.swr M MI i k),by omega,by omega,by omega,by omega,by go_num,by go_num,fun k=>by
     show q (Sym.swr M MI i (Sym.rot (m-i) m (m+(j-i)) k))=_
     rw [HM.out,HMI.out,Sym.rot_less (by omega) (by omega),HQ.out],HV2.out,HC.out.trans C2⟩
    case measure=>simp [intOf];omega
end Go.Proofs.YtclclojenogpbaaGreat
namespace Go.Proofs.YtclclojenogpbaaGreat
open Go.RowKit
theorem zbn {ops:Array Oper} {o:Oper} {a:Act} {w:World} {K:Act→World→Prop} {Q:Exit→Act→World→Prop} {E:Prop}
 (hw:Region.wanted o (yielded ops a.tmps)=true) (x:Operand) (n:Nat) (caps:Array Value) (args:Array Operand) (ty:Array TypeId) (hop:o.op=Op.call { callee:=Callee.value x,args:=args,argTypes:=ty }) (hx:a.eval x=.func (.func n) #[] caps) (vals:Array Value) (hv:args.map a.eval=vals)
 {fn : Func} (hfn : Tryz.prog.funcs[n]? = some fn) (hnm : (fn.name == "runtime.NumGoroutine") = false) (hbd : fn.body.isSome = true)
 {R:Ending→World→Prop} (hc:Calls Tryz.prog n (vals++caps) w R) (hK:∀ e w',R e w'→∃ v,e=.returned v∧K (a.put o.dst v) w') :
 if Region.wanted o (yielded ops a.tmps)=true then Oper.wp Tryz.prog o a w K Q else E:=by
 have hn' : ¬ fn.name = "runtime.NumGoroutine" := by simpa using hnm
 have hb':¬ fn.body=none:=by intro h;rw [h] at hbd;cases hbd
 rw [if_pos hw];unfold Oper.wp
 simp [execOp,hop,hx,resolve,invoke,Result.andThen,Deferred.ofValue,callFunc,Oper.upon,hv,hfn,hn',hb']
 refine hc.mono fun e w' h=>?_;obtain ⟨v,rfl,hk⟩:=hK e w' h;exact hk
end Go.Proofs.YtclclojenogpbaaGreat
namespace Go.Proofs.YtclclojenogpbaaGreat
open Go.RowKit F256
def cmpI (a b:Int):Int:=if a<b then -1 else if b<a then 1 else 0
def numC (r s:RecD):Int:=if cmpI r.seq s.seq≠0 then cmpI r.seq s.seq else if cmpI r.kind s.kind≠0 then cmpI r.kind s.kind else cmpI r.group s.group
theorem zkP (a:Int) (w:World):Calls Tryz.prog 237 #[.int .i64 a] w fun e w'=>e=.returned (.bool false)∧w'=w:=by
 have h:(a != a)=false:=by simp
 go_enter Tryz.func237,Tryz.ntmps237
 go_wp2;go_ret;exact ⟨rfl,rfl⟩
theorem zfl (a b:Int) (w:World):Calls Tryz.prog 213 #[.int .i64 a,.int .i64 b] w fun e w'=>e=.returned (.int .i64 (cmpI a b))∧w'=w:=by
 have C1:=zkP a w;have C2:=zkP b w
 by_cases h1:a<b
 ·rw [show cmpI a b=-1 by unfold cmpI;rw [if_pos h1]]
  go_enter Tryz.func213,Tryz.ntmps213
  go_wp2_with fail
  refine C1.mono ?_;rintro e w1 ⟨rfl,e1⟩;obtain rfl:=e1.symm
  go_wp2_with fail
  refine C2.mono ?_;rintro e w1 ⟨rfl,e1⟩;obtain rfl:=e1.symm;clear C1 C2;go_wp2;go_ret;exact ⟨rfl,rfl⟩
 by_cases h2:b<a
 ·rw [show cmpI a b=1 by unfold cmpI;rw [if_neg h1,if_pos h2]]
  have h1:decide (a<b)=false:=decide_eq_false h1
  go_enter Tryz.func213,Tryz.ntmps213
  go_wp2_with fail
  refine C1.mono ?_;rintro e w1 ⟨rfl,e1⟩;obtain rfl:=e1.symm
  go_wp2_with fail
  refine C2.mono ?_;rintro e w1 ⟨rfl,e1⟩;obtain rfl:=e1.symm;clear C1 C2;go_wp2;go_ret;exact ⟨rfl,rfl⟩
 ·rw [show cmpI a b=0 by unfold cmpI;rw [if_neg h1,if_neg h2]]
  have h1:decide (a<b)=false:=decide_eq_false h1;have h2:decide (b<a)=false:=decide_eq_false h2
  go_enter Tryz.func213,Tryz.ntmps213
  go_wp2_with fail
  refine C1.mono ?_;rintro e w1 ⟨rfl,e1⟩;obtain rfl:=e1.symm
  go_wp2_with fail
  refine C2.mono ?_;rintro e w1 ⟨rfl,e1⟩;obtain rfl:=e1.symm;clear C1 C2;go_wp2;go_ret;exact ⟨rfl,rfl⟩
def or3 (a b c:Int):Int:=if a≠0 then a else if b≠0 then b else c
theorem or_is (a b c:Int) (g cap:Nat) (w:World) (h0:w.cell? ⟨g,0,none⟩=some (.int .i64 a)) (h1:w.cell? ⟨g,1,none⟩=some (.int .i64 b)) (h2:w.cell? ⟨g,2,none⟩=some (.int .i64 c)) :
 Calls Tryz.prog 212 #[.slice (some ⟨g,0,none⟩) 3 cap] w fun e w'=>e=.returned (.int .i64 (or3 a b c))∧w'=w:=by
 by_cases ha:a≠0
 ·rw [show or3 a b c=a by unfold or3;rw [if_pos ha]]
  have:(a != 0)=true:=by simpa using ha
  go_enter Tryz.func212,Tryz.ntmps212
  go_wp2
  go_loopw [8] (fun i wr=>wr=w∧(i=.int .i64 0)) (fun i _=>3-(intOf i).toNat)
  case atStart=>simp
  case round=>
   obtain ⟨e,hrel⟩:=hrel;obtain rfl:=e.symm;subst hrel;go_wp2;go_ret;exact ⟨rfl,rfl⟩
 obtain rfl:a=0:=by omega
 by_cases hb:b≠0
 ·rw [show or3 0 b c=b by unfold or3;rw [if_neg (by simp),if_pos hb]]
  have:(b != 0)=true:=by simpa using hb
  go_enter Tryz.func212,Tryz.ntmps212
  go_wp2
  go_loopw [8] (fun i wr=>wr=w∧(i=.int .i64 0∨i=.int .i64 1)) (fun i _=>3-(intOf i).toNat)
  case atStart=>simp
  case round=>
   obtain ⟨e,hrel⟩:=hrel;obtain rfl:=e.symm
   rcases hrel with rfl | rfl
   ·go_wp2
    go_roundw
    case rel=>simp
    case measure=>simp [intOf]
   ·go_wp2
    go_ret;exact ⟨rfl,rfl⟩
 obtain rfl:b=0:=by omega
 rw [show or3 0 0 c=c by unfold or3;rw [if_neg (by simp),if_neg (by simp)]]
 by_cases hc:c≠0
 ·have:(c != 0)=true:=by simpa using hc
  go_enter Tryz.func212,Tryz.ntmps212
  go_wp2
  go_loopw [8] (fun i wr=>wr=w∧(i=.int .i64 0∨i=.int .i64 1∨i=.int .i64 2)) (fun i _=>3-(intOf i).toNat)
  case atStart=>simp
  case round=>
   obtain ⟨e,hrel⟩:=hrel;obtain rfl:=e.symm
   rcases hrel with rfl | rfl | rfl
   ·go_wp2
    go_roundw
    case rel=>simp
    case measure=>simp [intOf]
   ·go_wp2
    go_roundw
    case rel=>simp
    case measure=>simp [intOf]
   ·go_wp2
    go_ret;exact ⟨rfl,rfl⟩
 ·obtain rfl:c=0:=by omega
  go_enter Tryz.func212,Tryz.ntmps212
  go_wp2
  go_loopw [8] (fun i wr=>wr=w∧(i=.int .i64 0∨i=.int .i64 1∨i=.int .i64 2∨i=.int .i64 3)) (fun i _=>3-(intOf i).toNat)
  case atStart=>simp
  case round=>
   obtain ⟨e,hrel⟩:=hrel;obtain rfl:=e.symm
   rcases hrel with rfl | rfl | rfl | rfl
   ·go_wp2
    go_roundw
    case rel=>simp
    case measure=>simp [intOf]
   ·go_wp2
    go_roundw
    case rel=>simp
    case measure=>simp [intOf]
   ·go_wp2
    go_roundw
    case rel=>simp
    case measure=>simp [intOf]
   ·go_wp2
    go_ret;exact ⟨rfl,rfl⟩
set_option maxRecDepth 100000 in
theorem zcy (r s:RecD) (cr cs:List Value) (hi hj:Nat) (w:World) (hr:zab.rd w hi r cr) (hs:zab.rd w hj s cs) :
 Calls Tryz.prog 183 #[.agg cr.toArray,.agg cs.toArray] w fun e w'=>e=.returned (.int .i64 (numC r s))∧Below w.heap.size w w':=by
 obtain ⟨a6,ak6,a7,ak7,a8,ak8,rfl,-⟩:=zaP hr;obtain ⟨b6,bk6,b7,bk7,b8,bk8,rfl,-⟩:=zaP hs;have T0:=zaJ w (rwR r a6 ak6 a7 ak7 a8 ak8).toArray (rwR s b6 bk6 b7 bk7 b8 bk8).toArray 72 72
 go_enter Tryz.func183,Tryz.ntmps183
 go_upto_region 1 with fail
 obtain ⟨W,hW⟩:∃ x,x=(w.alloc (.cells (rwR r a6 ak6 a7 ak7 a8 ak8).toArray 72)).alloc (.cells (rwR s b6 bk6 b7 bk7 b8 bk8).toArray 72):=⟨_,rfl⟩;rw [← hW] at T0 ⊢;clear hW hr hs;have HB:=hid T0.bel;have zW:w.heap.size+1<W.heap.size:=T0.b2.lt;have SW:∀ w',Below W.heap.size W w'→(w'.cell? ⟨w.heap.size,1,none⟩=some (.int .i64 r.seq)∧w'.cell? ⟨w.heap.size,0,none⟩=some (.int .i64 r.kind)∧w'.cell? ⟨w.heap.size,4,none⟩=some (.int .i64 r.group)∧w'.cell? ⟨(w.heap.size+1),1,none⟩=some (.int .i64 s.seq)∧w'.cell? ⟨(w.heap.size+1),0,none⟩=some (.int .i64 s.kind)∧w'.cell? ⟨(w.heap.size+1),4,none⟩=some (.int .i64 s.group)):=fun w' hb=>⟨(hb.cell (p:=⟨w.heap.size,1,none⟩) (by show w.heap.size<_;omega)).trans (T0.b1.cell 1),(hb.cell (p:=⟨w.heap.size,0,none⟩) (by show w.heap.size<_;omega)).trans (T0.b1.cell 0),(hb.cell (p:=⟨w.heap.size,4,none⟩) (by show w.heap.size<_;omega)).trans (T0.b1.cell 4),(hb.cell (p:=⟨w.heap.size+1,1,none⟩) (by show w.heap.size+1<_;omega)).trans (T0.b2.cell 1),(hb.cell (p:=⟨w.heap.size+1,0,none⟩) (by show w.heap.size+1<_;omega)).trans (T0.b2.cell 0),(hb.cell (p:=⟨w.heap.size+1,4,none⟩) (by show w.heap.size+1<_;omega)).trans (T0.b2.cell 4)⟩;have bA:Below W.heap.size W (W.drew.alloc (.cells #[.int .i64 (cmpI r.seq s.seq),.int .i64 (cmpI r.kind s.kind),.int .i64 (cmpI r.group s.group)] 3)):=((⟨rfl,rfl,rfl,Nat.le_refl _,fun _ _=>rfl⟩:Below W.heap.size W W.drew)).alloc (Nat.le_refl _) _;have CC0:=zfl r.seq s.seq W.drew;have CC1:=zfl r.kind s.kind W.drew;have CC2:=zfl r.group s.group W.drew;have XA:Box (W.drew.alloc (.cells #[.int .i64 (cmpI r.seq s.seq),.int .i64 (cmpI r.kind s.kind),.int .i64 (cmpI r.group s.group)] 3)) W.heap.size #[.int .i64 (cmpI r.seq s.seq),.int .i64 (cmpI r.kind s.kind),.int .i64 (cmpI r.group s.group)] 3:=zas W.drew _ _;have CO:=or_is (cmpI r.seq s.seq) (cmpI r.kind s.kind) (cmpI r.group s.group) W.heap.size 3 (W.drew.alloc (.cells #[.int .i64 (cmpI r.seq s.seq),.int .i64 (cmpI r.kind s.kind),.int .i64 (cmpI r.group s.group)] 3)) (XA.cell 0) (XA.cell 1) (XA.cell 2);clear T0;refine zge 17 (fun w'=>w'.cell? ⟨w.heap.size,1,none⟩=some (.int .i64 r.seq)∧w'.cell? ⟨w.heap.size,0,none⟩=some (.int .i64 r.kind)∧w'.cell? ⟨w.heap.size,4,none⟩=some (.int .i64 r.group)∧w'.cell? ⟨(w.heap.size+1),1,none⟩=some (.int .i64 s.seq)∧w'.cell? ⟨(w.heap.size+1),0,none⟩=some (.int .i64 s.kind)∧w'.cell? ⟨(w.heap.size+1),4,none⟩=some (.int .i64 s.group)) (by kernel_rfl) (SW _ ⟨rfl,rfl,rfl,Nat.le_refl _,fun _ _=>rfl⟩) (fun hHeld=>?_)
 refine zpf 0 rfl ?_
 try simp only [Act.put,SL]
 refine zpf 1 rfl ?_
 try simp only [Act.put,SL]
 refine zpf 2 rfl ?_
 try simp only [Act.put,SL]
 refine zpf 3 rfl ?_
 try simp only [Act.put,SL]
 refine zpf 5 rfl ?_
 try simp only [Act.put,SL]
 refine zpf 6 rfl ?_
 try simp only [Act.put,SL]
 refine zpf 7 rfl ?_
 try simp only [Act.put,SL]
 refine zpf 8 rfl ?_
 try simp only [Act.put,SL]
 refine zpf 10 rfl ?_
 try simp only [Act.put,SL]
 refine zpf 11 rfl ?_
 try simp only [Act.put,SL]
 refine zpf 12 rfl ?_
 try simp only [Act.put,SL]
 refine zpf 13 rfl ?_
 try simp only [Act.put,SL]
 refine zck (i:=4) (o:=_) rfl (by kernel_rfl) (fun KC hKC=>?_)
 refine zc6 rfl 213 _ _ rfl #[.int .i64 r.seq,.int .i64 s.seq] ?_ Tryz.func213 (by kernel_rfl) (by kernel_rfl) CC0 ?_;(simp [Act.eval,Act.put]);rintro ee w5 ⟨rfl,e5⟩;subst e5;refine ⟨_,rfl,?_⟩
 refine hKC.out _ _ (hHeld) (fun hHeld=>?_);clear hKC KC
 try simp only [Act.put,SL]
 refine zck (i:=9) (o:=_) rfl (by kernel_rfl) (fun KC hKC=>?_)
 refine zc6 rfl 213 _ _ rfl #[.int .i64 r.kind,.int .i64 s.kind] ?_ Tryz.func213 (by kernel_rfl) (by kernel_rfl) CC1 ?_;(simp [Act.eval,Act.put]);rintro ee w5 ⟨rfl,e5⟩;subst e5;refine ⟨_,rfl,?_⟩
 refine hKC.out _ _ (hHeld) (fun hHeld=>?_);clear hKC KC
 try simp only [Act.put,SL]
 refine zck (i:=14) (o:=_) rfl (by kernel_rfl) (fun KC hKC=>?_)
 refine zc6 rfl 213 _ _ rfl #[.int .i64 r.group,.int .i64 s.group] ?_ Tryz.func213 (by kernel_rfl) (by kernel_rfl) CC2 ?_;(simp [Act.eval,Act.put]);rintro ee w5 ⟨rfl,e5⟩;subst e5;refine ⟨_,rfl,?_⟩
 refine hKC.out _ _ (hHeld) (fun hHeld=>?_);clear hKC KC
 try simp only [Act.put,SL]
 refine zck (i:=15) (o:=_) rfl (by kernel_rfl) (fun KC hKC=>?_);go_simp;refine hKC.out _ _ (SW _ bA) (fun hHeld=>?_);clear hKC KC
 try simp only [Act.put,SL]
 refine zck (i:=16) (o:=_) rfl (by kernel_rfl) (fun KC hKC=>?_)
 refine zc6 rfl 212 _ _ rfl #[.slice (some ⟨W.heap.size,0,none⟩) 3 3] ?_ Tryz.func212 (by kernel_rfl) (by kernel_rfl) CO ?_;(simp [Act.eval,Act.put]);rintro ee w5 ⟨rfl,e5⟩;subst e5;refine ⟨_,rfl,?_⟩
 refine hKC.out _ _ (SW _ bA) (fun hHeld=>?_);clear hKC KC
 try simp only [Act.put,SL]
 refine zgc (o:=_) rfl (by kernel_rfl) (fun KC hKC=>?_);go_simp;refine hKC.out _ _ ?_;clear hKC KC
 try simp only [Act.put,SL]
 refine zgd (by kernel_rfl) ?_ _;go_wp2;go_ret;exact ⟨rfl,HB.out.trans (bA.mono (by omega))⟩
def numL (x0:Nat→RecD) (i j:Nat):Prop:=numC (x0 i) (x0 j)<0∨(numC (x0 i) (x0 j)=0∧i<j)
theorem zjP {a b:Int}:cmpI a b<0↔a<b:=by unfold cmpI;split<;>(try split)<;>omega
theorem zgi {a b:Int}:cmpI a b=0↔a=b:=by unfold cmpI;split<;>(try split)<;>omega
theorem zeA {r s:RecD}:numC r s<0↔r.seq<s.seq∨(r.seq=s.seq∧(r.kind<s.kind∨(r.kind=s.kind∧r.group<s.group))):=by
 unfold numC;have h1:=@zjP r.seq s.seq;have h2:=@zgi r.seq s.seq;have h3:=@zjP r.kind s.kind;have h4:=@zgi r.kind s.kind;have h5:=@zjP r.group s.group
 split
 ·omega
 ·split<;>omega
theorem zdY {r s:RecD}:numC r s=0↔r.seq=s.seq∧r.kind=s.kind∧r.group=s.group:=by
 unfold numC;have h2:=@zgi r.seq s.seq;have h4:=@zgi r.kind s.kind;have h5:=@zgi r.group s.group
 split
 ·omega
 ·split<;>omega
theorem zbB (x0:Nat→RecD):Sym.Ord (numL x0) where
 trans:=fun {i j k} h1 h2=>by
  unfold numL at *
  rw [zeA,zdY] at *
  omega
 irr:=fun i h=>by
  unfold numL at h;rw [zeA] at h;omega
theorem zgj {x0:Nat→RecD} {i j:Nat} (h:numC (x0 j) (x0 i)<0):numL x0 j i:=.inl h
theorem ziH {x0:Nat→RecD} {i j:Nat} (hij:i<j) (h:¬ numC (x0 j) (x0 i)<0):numL x0 i j:=by
 unfold numL;rw [zeA] at h ⊢;rw [zdY];omega
structure Ins (lt:Nat→Nat→Prop) (q:Nat→Nat) (a i j e:Nat):Prop where
 at_:q j=e
 rest:∀ k1 k2,a≤k1→k1<k2→k2≤i→k1≠j→k2≠j→lt (q k1) (q k2)
 behind:∀ k,j<k→k≤i→lt e (q k)
theorem Ins.start {lt:Nat→Nat→Prop} {q:Nat→Nat} {a i:Nat} (h:Sym.Srt lt q a i):Ins lt q a i i (q i):=⟨rfl,fun k1 k2 h1 h2 h3 h4 h5=>h k1 k2 h1 h2 (by omega),fun k h1 h2=>by omega⟩
theorem Ins.stop {lt:Nat→Nat→Prop} {q:Nat→Nat} {a i j e:Nat} (O:Sym.Ord lt) (h:Ins lt q a i j e) (haj:a≤j) (hji:j≤i) (hs:j=a∨lt (q (j-1)) e):Sym.Srt lt q a (i+1):=fun k1 k2 h1 h2 h3=>by
 by_cases c1:k1=j
 ·subst c1
  rw [h.at_];exact h.behind k2 h2 (by omega)
 ·by_cases c2:k2=j
  ·subst c2
   rw [h.at_]
   rcases hs with hs | hs
   ·omega
   ·by_cases c3:k1=k2-1
    ·rw [c3];exact hs
    ·exact O.trans (h.rest k1 (k2-1) h1 (by omega) (by omega) c1 (by omega)) hs
  ·exact h.rest k1 k2 h1 h2 (by omega) c1 c2
theorem Ins.step {lt:Nat→Nat→Prop} {q:Nat→Nat} {a i j e:Nat} (h:Ins lt q a i (j+1) e) (haj:a≤j) (hji:j+1≤i) (hl:lt e (q j)):Ins lt (fun k=>q (Sym.swp (j+1) j k)) a i j e:=by
 have s1:Sym.swp (j+1) j j=j+1:=by unfold Sym.swp;rw [if_neg (by omega),if_pos rfl]
 have s2:Sym.swp (j+1) j (j+1)=j:=by unfold Sym.swp;rw [if_pos rfl]
 have s3:∀ k,k≠j→k≠j+1→Sym.swp (j+1) j k=k:=fun k h1 h2=>by unfold Sym.swp;rw [if_neg h2,if_neg h1]
 refine ⟨?_,fun k1 k2 h1 h2 h3 h4 h5=>?_,fun k h1 h2=>?_⟩
 ·show q (Sym.swp (j+1) j j)=e
  rw [s1,h.at_]
 ·show lt (q (Sym.swp (j+1) j k1)) (q (Sym.swp (j+1) j k2))
  by_cases c1:k1=j+1
  ·rw [c1,s2,s3 k2 h5 (by omega)]
   exact h.rest j k2 haj (by omega) h3 (by omega) (by omega)
  ·by_cases c2:k2=j+1
   ·rw [c2,s2,s3 k1 h4 c1]
    exact h.rest k1 j h1 (by omega) (by omega) (by omega) (by omega)
   ·rw [s3 k1 h4 c1,s3 k2 h5 c2]
    exact h.rest k1 k2 h1 h2 h3 c1 c2
 ·show lt e (q (Sym.swp (j+1) j k))
  by_cases c1:k=j+1
  ·rw [c1,s2];exact hl
  ·rw [s3 k (by omega) c1]
   exact h.behind k (by omega) h2
theorem zeB {l:List Nat} {i:Nat} (h:i<l.length):l.getD i 0=l[i]:=by rw [List.getD_eq_getElem?_getD,List.getElem?_eq_getElem h];rfl
theorem SameR.trans {a b c:RecD} (h:SameR a b) (k:SameR b c):SameR a c:=by
 obtain ⟨h1,h2,h3,h4,h5,h6,⟨e7,h7⟩,⟨e8,h8⟩,⟨e9,h9⟩⟩:=h;obtain ⟨k1,k2,k3,k4,k5,k6,⟨f7,k7⟩,⟨f8,k8⟩,⟨f9,k9⟩⟩:=k;exact ⟨h1.trans k1,h2.trans k2,h3.trans k3,h4.trans k4,h5.trans k5,h6.trans k6,⟨e7.trans f7,fun i hi=>(h7 i hi).trans (k7 i (by omega))⟩,⟨e8.trans f8,fun i hi=>(h8 i hi).trans (k8 i (by omega))⟩,⟨e9.trans f9,fun i hi=>(h9 i hi).trans (k9 i (by omega))⟩⟩
theorem SameR.num {a b:RecD} (h:SameR a b):numC a b=0:=zdY.2 ⟨h.seq,h.kind,h.group⟩
def Fst (x0:Nat→RecD) (i:Nat):Prop:=∀ j,j<i→¬ SameR (x0 j) (x0 i)
theorem zmT {x0:Nat→RecD}:∀ {i j:Nat},j<i→SameR (x0 j) (x0 i)→∃ j0,j0<i∧SameR (x0 j0) (x0 i)∧Fst x0 j0:=by
 intro i j
 induction j using Nat.strongRecOn with
 | _ j ih=>
  intro hj hs
  by_cases c:Fst x0 j
  ·exact ⟨j,hj,hs,c⟩
  ·obtain ⟨k,hk⟩:∃ k,¬ (k<j→¬ SameR (x0 k) (x0 j)):=Classical.not_forall.1 c
   have h1:k<j:=Classical.byContradiction fun h=>hk (fun h'=>absurd h' h);have h2:SameR (x0 k) (x0 j):=Classical.byContradiction fun h=>hk (fun _=>h);exact ih k h1 (by omega) (h2.trans hs)
theorem zpo {lt:Nat→Nat→Prop} (O:Sym.Ord lt):∀ l l':List Nat,l.Pairwise lt→l'.Pairwise lt→(∀ i,i∈l↔i∈l')→l=l'
 | [],[],_,_,_=>rfl
 | [],b::t,_,_,h=>absurd ((h b).2 (by simp)) (by simp)
 | a::t,[],_,_,h=>absurd ((h a).1 (by simp)) (by simp)
 | a::s,b::t,h1,h2,h=>by
  obtain ⟨p1,p2⟩:=List.pairwise_cons.1 h1;obtain ⟨q1,q2⟩:=List.pairwise_cons.1 h2
  have e:a=b:=by
   rcases List.mem_cons.1 ((h a).1 (by simp)) with e | m
   ·exact e
   ·rcases List.mem_cons.1 ((h b).2 (by simp)) with e | m'
    ·exact e.symm
    ·exact absurd (O.trans (q1 a m) (p1 b m')) (O.irr _)
  subst e;rw [zpo O s t p2 q2 (fun i=>⟨fun m=>?_,fun m=>?_⟩)]
  ·rcases List.mem_cons.1 ((h i).1 (List.mem_cons_of_mem _ m)) with e | m'
   ·subst e;exact absurd (p1 _ m) (O.irr _)
   ·exact m'
  ·rcases List.mem_cons.1 ((h i).2 (List.mem_cons_of_mem _ m)) with e | m'
   ·subst e;exact absurd (q1 _ m) (O.irr _)
   ·exact m'
structure Cnt (x0:Nat→RecD) (N:Nat) (l:List Nat):Prop where
 srt:l.Pairwise (numL x0)
 mem:∀ i,i∈l↔(i<N∧Fst x0 i)
theorem Cnt.uniq {x0:Nat→RecD} {N:Nat} {l l':List Nat} (h:Cnt x0 N l) (h':Cnt x0 N l'):l=l':=zpo (zbB x0) l l' h.srt h'.srt fun i=>by rw [h.mem,h'.mem]
theorem Cnt.nil (x0:Nat→RecD):Cnt x0 0 []:=⟨List.Pairwise.nil,fun i=>by simp⟩
theorem Cnt.has {x0:Nat→RecD} {N:Nat} {l:List Nat} (h:Cnt x0 N l):(∃ o,o∈l∧SameR (x0 o) (x0 N))↔¬ Fst x0 N:=by
 constructor
 ·rintro ⟨o,ho,hs⟩ hf
  exact hf o ((h.mem o).1 ho).1 hs
 ·intro hf
  obtain ⟨k,hk⟩:∃ k,¬ (k<N→¬ SameR (x0 k) (x0 N)):=Classical.not_forall.1 hf;have h1:k<N:=Classical.byContradiction fun h=>hk (fun h'=>absurd h' h);have h2:SameR (x0 k) (x0 N):=Classical.byContradiction fun h=>hk (fun _=>h);obtain ⟨j0,a,b,c⟩:=zmT h1 h2;exact ⟨j0,(h.mem j0).2 ⟨a,c⟩,b⟩
theorem Cnt.skip {x0:Nat→RecD} {N:Nat} {l:List Nat} (h:Cnt x0 N l) (hf:¬ Fst x0 N):Cnt x0 (N+1) l:=⟨h.srt,fun i=>by
 rw [h.mem]
 constructor
 ·rintro ⟨a,b⟩;exact ⟨by omega,b⟩
 ·rintro ⟨a,b⟩
  refine ⟨?_,b⟩
  by_cases c:i=N
  ·subst c;exact absurd b hf
  ·omega⟩
theorem Cnt.ins {x0:Nat→RecD} {N:Nat} {l:List Nat} (h:Cnt x0 N l) (hf:Fst x0 N) (at_:Nat) (ha:at_≤l.length)
 (hb:∀ k,at_≤k→k<l.length→numC (x0 N) (x0 (l.getD k 0))<0) (hs:at_=0∨¬ numC (x0 N) (x0 (l.getD (at_-1) 0))<0):Cnt x0 (N+1) (l.take at_++N::l.drop at_):=by
 have hD:∀ o,o∈l.drop at_→numL x0 N o:=fun o ho=>by
  obtain ⟨k,hk,rfl⟩:=List.mem_iff_getElem.1 ho;rw [List.getElem_drop]
  have hk':at_+k<l.length:=by rw [List.length_drop] at hk;omega
  have:=hb (at_+k) (by omega) hk';rw [zeB hk'] at this;exact zgj this
 have hT:∀ o,o∈l.take at_→numL x0 o N:=fun o ho=>by
  obtain ⟨k,hk,rfl⟩:=List.mem_iff_getElem.1 ho;rw [List.getElem_take];rw [List.length_take] at hk
  have h1:at_-1<l.length:=by omega
  rcases hs with hs | hs
  ·omega
  ·rw [zeB h1] at hs
   have hlt:l[at_-1]<N:=((h.mem _).1 (List.getElem_mem h1)).1;have hl:=ziH hlt hs
   by_cases c:k=at_-1
   ·subst c;exact hl
   ·exact (zbB x0).trans (List.pairwise_iff_getElem.1 h.srt k (at_-1) (by omega) h1 (by omega)) hl
 refine ⟨?_,fun i=>?_⟩
 ·rw [List.pairwise_append]
  refine ⟨h.srt.sublist (List.take_sublist _ _),List.pairwise_cons.2 ⟨hD,h.srt.sublist (List.drop_sublist _ _)⟩,fun a ha b hb=>?_⟩
  rcases List.mem_cons.1 hb with rfl | hb
  ·exact hT a ha
  ·exact (zbB x0).trans (hT a ha) (hD b hb)
 ·rw [List.mem_append,List.mem_cons]
  have e:i∈l↔(i∈l.take at_∨i∈l.drop at_):=by
   conv=>lhs;rw [← List.take_append_drop at_ l]
   exact List.mem_append
  have hm:=h.mem i;rw [e] at hm
  constructor
  ·rintro (a | rfl | a)
   ·have:=hm.1 (.inl a);exact ⟨by omega,this.2⟩
   ·exact ⟨by omega,hf⟩
   ·have:=hm.1 (.inr a);exact ⟨by omega,this.2⟩
  ·rintro ⟨a,b⟩
   by_cases c:i=N
   ·exact .inr (.inl c)
   ·rcases hm.2 ⟨by omega,b⟩ with a | a
    ·exact .inl a
    ·exact .inr (.inr a)
structure CntQ (x0:Nat→RecD) (q:Nat→Nat) (k:Nat) (l:List Nat):Prop where
 srt:l.Pairwise (numL x0)
 mem:∀ i,i∈l↔((∃ j,j<k∧q j=i)∧Fst x0 i)
theorem CntQ.nil (x0:Nat→RecD) (q:Nat→Nat):CntQ x0 q 0 []:=⟨List.Pairwise.nil,fun i=>by simp⟩
theorem zmU {N:Nat} {q:Nat→Nat} (h:Sym.Re 0 N (fun i=>i) q) {i:Nat} (hi:i<N):∃ j,j<N∧q j=i:=by
 obtain ⟨s,t,h1,h2,h3,h4⟩:=h;refine ⟨t i,?_,by rw [h1,h3]⟩
 by_cases c:t i<N
 ·exact c
 ·have:=h4 (t i) (by omega)
  rw [h3] at this;omega
theorem zmV {N:Nat} {q:Nat→Nat} (h:Sym.Re 0 N (fun i=>i) q) {i:Nat} (hi:i<N):q i<N:=by
 obtain ⟨j,⟨_,hj⟩,e⟩:=h.from (i:=i) ⟨by omega,hi⟩
 rw [e];exact hj
theorem CntQ.all {x0:Nat→RecD} {q:Nat→Nat} {N:Nat} {l:List Nat} (h:CntQ x0 q N l) (hR:Sym.Re 0 N (fun i=>i) q):Cnt x0 N l:=⟨h.srt,fun i=>by
 rw [h.mem]
 constructor
 ·rintro ⟨⟨j,hj,rfl⟩,b⟩;exact ⟨zmV hR hj,b⟩
 ·rintro ⟨a,b⟩;exact ⟨zmU hR a,b⟩⟩
structure Alk (x0:Nat→RecD) (l:List Nat) (al:Nat):Prop where
 nil:l=[]→al=0
 lt:l≠[]→al<l.length
 before:∀ e,e∈l.take al→∀ f,f∈l.drop al→numC (x0 e) (x0 f)<0
 after:∀ e,e∈l.drop al→∀ f,f∈l.drop al→numC (x0 e) (x0 f)=0
theorem Alk.start (x0:Nat→RecD):Alk x0 [] 0:=⟨fun _=>rfl,fun h=>absurd rfl h,fun e he=>by simp at he,fun e he=>by simp at he⟩
theorem zly {a b c:RecD} (h:numC a b<0) (k:numC b c=0):numC a c<0:=by rw [zeA] at *;rw [zdY] at k;omega
theorem zlz {a b c:RecD} (h:numC a b=0) (k:numC b c<0):numC a c<0:=by rw [zeA] at *;rw [zdY] at h;omega
theorem zlA {a b c:RecD} (h:numC a b<0) (k:numC b c<0):numC a c<0:=by rw [zeA] at *;omega
theorem zlB {a b c:RecD} (h:numC a b=0) (k:numC b c=0):numC a c=0:=by rw [zdY] at *;omega
theorem ziI (a:RecD):numC a a=0:=zdY.2 ⟨rfl,rfl,rfl⟩
theorem znQ {a b:RecD} (h:numC a b=0):numC b a=0:=by rw [zdY] at *;omega
section
variable {x0:Nat→RecD} {q:Nat→Nat} {N k:Nat} {l:List Nat} {al:Nat}
theorem CntQ.behind (h:CntQ x0 q k l) (hS:Sym.Srt (numL x0) q 0 N) (hk:k<N) {o:Nat} (ho:o∈l):numL x0 o (q k):=by
 obtain ⟨⟨j,hj,rfl⟩,_⟩:=(h.mem o).1 ho;exact hS j k (by omega) hj hk
theorem Alk.here (a:Alk x0 l al) (hne:l≠[]):l.getD al 0∈l.drop al:=by
 have:=a.lt hne;rw [zeB this];exact List.mem_iff_getElem.2 ⟨0,by rw [List.length_drop];omega,by rw [List.getElem_drop];simp⟩
theorem Alk.fresh (a:Alk x0 l al) (h:CntQ x0 q k l) (hS:Sym.Srt (numL x0) q 0 N) (hk:k<N) (hne:l≠[]) (hn:numC (x0 (l.getD al 0)) (x0 (q k))≠0):∀ e,e∈l→numC (x0 e) (x0 (q k))<0:=by
 have hh:=a.here hne;have h1:=h.behind hS hk (List.mem_of_mem_drop hh)
 have h2:numC (x0 (l.getD al 0)) (x0 (q k))<0:=by
  rcases h1 with h1 | h1
  ·exact h1
  ·exact absurd h1.1 hn
 intro e he;rw [← List.take_append_drop al l] at he
 rcases List.mem_append.1 he with he | he
 ·exact zlA (a.before e he _ hh) h2
 ·exact zlz (a.after e he _ hh) h2
theorem CntQ.has (h:CntQ x0 q k l) (hS:Sym.Srt (numL x0) q 0 N) (hR:Sym.Re 0 N (fun i=>i) q) (hk:k<N) (hb:∀ e,e∈l.take al→numC (x0 e) (x0 (q k))<0):(∃ o,o∈l.drop al∧SameR (x0 o) (x0 (q k)))↔¬ Fst x0 (q k):=by
 constructor
 ·rintro ⟨o,ho,hs⟩ hf
  have:=h.behind hS hk (List.mem_of_mem_drop ho)
  rcases this with h1 | h1
  ·rw [hs.num] at h1;omega
  ·exact hf o h1.2 hs
 ·intro hf
  obtain ⟨m,hm⟩:∃ m,¬ (m<q k→¬ SameR (x0 m) (x0 (q k))):=Classical.not_forall.1 hf;have h1:m<q k:=Classical.byContradiction fun h=>hm (fun h'=>absurd h' h);have h2:SameR (x0 m) (x0 (q k)):=Classical.byContradiction fun h=>hm (fun _=>h);obtain ⟨j0,a,b,c⟩:=zmT h1 h2;have hqk:=zmV hR hk;obtain ⟨k0,hk0,e0⟩:=zmU hR (i:=j0) (by omega)
  have hlt:k0<k:=by
   by_cases c1:k0<k
   ·exact c1
   ·exfalso
    by_cases c2:k0=k
    ·subst c2;omega
    ·have h3:=hS k k0 (by omega) (by omega) hk0
     rw [e0] at h3;have h4:numL x0 j0 (q k):=.inr ⟨b.num,a⟩;exact (zbB x0).irr _ ((zbB x0).trans h3 h4)
  have hin:j0∈l:=(h.mem j0).2 ⟨⟨k0,hlt,e0⟩,c⟩;rw [← List.take_append_drop al l] at hin
  rcases List.mem_append.1 hin with hin | hin
  ·have:=hb j0 hin
   rw [b.num] at this;omega
  ·exact ⟨j0,hin,b⟩
theorem CntQ.skip (h:CntQ x0 q k l) (hf:¬ Fst x0 (q k)):CntQ x0 q (k+1) l:=⟨h.srt,fun i=>by
 rw [h.mem]
 constructor
 ·rintro ⟨⟨j,hj,e⟩,b⟩;exact ⟨⟨j,by omega,e⟩,b⟩
 ·rintro ⟨⟨j,hj,e⟩,b⟩
  refine ⟨⟨j,?_,e⟩,b⟩
  by_cases c:j=k
  ·subst c;rw [e] at hf;exact absurd b hf
  ·omega⟩
theorem CntQ.more (h:CntQ x0 q k l) (hS:Sym.Srt (numL x0) q 0 N) (hk:k<N) (hf:Fst x0 (q k)):CntQ x0 q (k+1) (l++[q k]):=⟨by
 rw [List.pairwise_append];refine ⟨h.srt,List.pairwise_singleton _ _,fun a ha b hb=>?_⟩;rw [List.mem_singleton] at hb;subst hb
 exact h.behind hS hk ha,fun i=>by
 rw [List.mem_append,List.mem_singleton,h.mem]
 constructor
 ·rintro (⟨⟨j,hj,e⟩,b⟩ | rfl)
  ·exact ⟨⟨j,by omega,e⟩,b⟩
  ·exact ⟨⟨k,by omega,rfl⟩,hf⟩
 ·rintro ⟨⟨j,hj,e⟩,b⟩
  by_cases c:j=k
  ·subst c;exact .inr e.symm
  ·exact .inl ⟨⟨j,by omega,e⟩,b⟩⟩
theorem Alk.stay (a:Alk x0 l al) (hne:l≠[]) {r:Nat} (hn:numC (x0 (l.getD al 0)) (x0 r)=0):(∀ e,e∈l.take al→numC (x0 e) (x0 r)<0)∧Alk x0 (l++[r]) al:=by
 have hh:=a.here hne;have h0:=a.lt hne;have hB:∀ e,e∈l.take al→numC (x0 e) (x0 r)<0:=fun e he=>zly (a.before e he _ hh) hn;have hA:∀ e,e∈l.drop al→numC (x0 e) (x0 r)=0:=fun e he=>zlB (a.after e he _ hh) hn;refine ⟨hB,⟨fun h=>by simp at h,fun _=>by rw [List.length_append];omega,fun e he f hf=>?_,fun e he f hf=>?_⟩⟩
 ·rw [List.take_append_of_le_length (by omega)] at he
  rw [List.drop_append_of_le_length (by omega),List.mem_append,List.mem_singleton] at hf
  rcases hf with hf | rfl
  ·exact a.before e he f hf
  ·exact hB e he
 ·rw [List.drop_append_of_le_length (by omega),List.mem_append,List.mem_singleton] at he hf
  rcases he with he | rfl
  ·rcases hf with hf | rfl
   ·exact a.after e he f hf
   ·exact hA e he
  ·rcases hf with hf | rfl
   ·exact znQ (hA f hf)
   ·exact ziI _
theorem Alk.open_ {r:Nat} (hB:∀ e,e∈l→numC (x0 e) (x0 r)<0):Alk x0 (l++[r]) l.length:=by
 refine ⟨fun h=>by simp at h,fun _=>by rw [List.length_append];simp,fun e he f hf=>?_,fun e he f hf=>?_⟩
 ·rw [List.take_append_of_le_length (by omega),List.take_length] at he
  rw [List.drop_append_of_le_length (by omega),List.drop_length,List.nil_append,List.mem_singleton] at hf;subst hf;exact hB e he
 ·rw [List.drop_append_of_le_length (by omega),List.drop_length,List.nil_append,List.mem_singleton] at he hf
  subst he hf;exact ziI _
end
theorem zht {l:List Nat} {r i:Nat} (c:i<l.length):(l++[r]).getD i 0=l.getD i 0:=by rw [List.getD_eq_getElem?_getD,List.getElem?_append_left c,← List.getD_eq_getElem?_getD]
theorem zeU {l:List Nat} {r:Nat}:(l++[r]).getD l.length 0=r:=by rw [List.getD_eq_getElem?_getD,List.getElem?_append_right (Nat.le_refl _)];simp
theorem zcJ {l:List Nat} {al:Nat} {P:Nat→Prop}:(∃ o,o∈l.drop al∧P o)↔∃ j,j<l.length-al∧P (l.getD (al+j) 0):=by
 constructor
 ·rintro ⟨o,ho,hp⟩
  obtain ⟨k,hk,rfl⟩:=List.mem_iff_getElem.1 ho;rw [List.length_drop] at hk;refine ⟨k,hk,?_⟩;rw [List.getElem_drop] at hp;rw [zeB (show al+k<l.length by omega)];exact hp
 ·rintro ⟨j,hj,hp⟩
  rw [zeB (show al+j<l.length by omega)] at hp;exact ⟨_,List.mem_iff_getElem.2 ⟨j,by rw [List.length_drop];omega,by rw [List.getElem_drop]⟩,hp⟩
theorem zgk (g n cap m:Nat) (hm:m≤n) (w:World):(Instr.slice 67 (.slice (some ⟨g,0,none⟩) n cap) (some (.int .i64 (m:Int))) none none).run Tryz.prog w=.ok (.slice (if cap=m then some ⟨g,0,none⟩ else some ⟨g,m*9,none⟩) (n-m) (cap-m)) w:=by
 have e1:(m:Int)≤(n:Int):=by omega
 by_cases h:cap=m
 ·subst h
  simp [Instr.slice,run_underlying Tryz.underlying67,Instr.sliceBounds,Instr.sliceBound,asIntOf,go_sem,e1,hm]
 ·simp [Instr.slice,run_underlying Tryz.underlying67,Instr.sliceBounds,Instr.sliceBound,asIntOf,go_sem,e1,hm,h]
theorem zgl (g n cap m:Nat) (hm:m≤n) (hc:n≤cap) (w:World):(Instr.slice 67 (.slice (some ⟨g,0,none⟩) n cap) none (some (.int .i64 (m:Int))) none).run Tryz.prog w=.ok (.slice (some ⟨g,0,none⟩) m cap) w:=by
 have e1:(m:Int)≤(cap:Int):=by omega
 have e2:m≤cap:=by omega
 simp [Instr.slice,run_underlying Tryz.underlying67,Instr.sliceBounds,Instr.sliceBound,asIntOf,go_sem,e1,e2]
theorem zgm (w:World):(Instr.slice 67 (.slice none 0 0) (some (.int .i64 ((0:Nat):Int))) none none).run Tryz.prog w=.ok (.slice none 0 0) w:=by
 simp [Instr.slice,run_underlying Tryz.underlying67,Instr.sliceBounds,Instr.sliceBound,asIntOf,go_sem]
theorem zgn (w:World):(Instr.slice 67 (.slice none 0 0) none (some (.int .i64 ((0:Nat):Int))) none).run Tryz.prog w=.ok (.slice none 0 0) w:=by
 simp [Instr.slice,run_underlying Tryz.underlying67,Instr.sliceBounds,Instr.sliceBound,asIntOf,go_sem]
section
variable {w:World} {lo hi n:Nat} {v:Value} {x:Nat→RecD} {ce:Nat→List Value}
theorem View.form2 (h:View zab 72 w lo hi v n x ce):(v=.slice none 0 0∧n=0)∨∃ g cap,v=.slice (some ⟨g,0,none⟩) n cap∧n≤cap∧g<w.heap.size:=by
 have hlt:=fun b hb=>(h.row.lt b hb).2
 rcases h.row.2 with hn | ⟨g,cap,cur,rfl,hbg,hgg,hnc,hcm,rest⟩
 ·exact .inl hn
 ·exact .inr ⟨g,cap,rfl,hnc,hlt g rfl⟩
theorem zon {ao:Option Addr} {m c:Nat} {y:Nat→RecD} {cy:Nat→List Value} (hs:Src zab w hi ao m y cy) (hh:hi≤w.heap.size) (hm:m≤maxLen) (hb:∀ b off,ao=some ⟨b,off,none⟩→b<w.heap.size):(zab.slice 72).rd w w.heap.size (m,y) [.slice ao m c]:=by
 refine ⟨ao,c,rfl,hm,fun h0=>?_⟩;obtain ⟨b,off,e,hc⟩:=hs.1 h0;exact ⟨b,off,e,hb b off e,fun i hi=>⟨cy i,zab.rd_mono (hs.2 i hi) hh,hc i hi⟩⟩
theorem View.from_ (h:View zab 72 w lo hi v n x ce) (hh:hi≤w.heap.size) {al:Nat} (ha:al≤n):∃ ao c,(∀ w',(Instr.slice 67 v (some (.int .i64 (al:Int))) none none).run Tryz.prog w'=.ok (.slice ao (n-al) c) w')∧Src zab w hi ao (n-al) (fun j=>x (al+j)) (fun j=>ce (al+j))∧(zab.slice 72).rd w w.heap.size (n-al,fun j=>x (al+j)) [.slice ao (n-al) c]∧(ao=none→c=0∨n-al=0):=by
 have hl:=h.len
 rcases h.form2 with ⟨rfl,rfl⟩ | ⟨g,cap,rfl,hnc,hg⟩
 ·obtain rfl:al=0:=by omega
  have S:Src zab w hi none 0 (fun j=>x (0+j)) (fun j=>ce (0+j)):=⟨fun h=>absurd rfl h,fun j hj=>by omega⟩;exact ⟨none,0,zgm,S,zon S hh (by omega) (fun b off e=>by cases e),fun _=>.inl rfl⟩
 ·have S:Src zab w hi (if cap=al then some ⟨g,0,none⟩ else some ⟨g,al*9,none⟩) (n-al) (fun j=>x (al+j)) (fun j=>ce (al+j)):=⟨fun h0=>by
   rw [if_neg (by omega)];refine ⟨g,al*9,rfl,fun j hj k hk=>?_⟩;have:=h.cell (i:=al+j) (by omega) hk;rw [← this]
   congr 2
   show al*9+(j*9+k)=(al+j)*9+k
   omega,fun j hj=>h.each _ (by omega)⟩
  refine ⟨_,_,zgk g n cap al ha,S,zon S hh (by omega) (fun b off e=>?_),fun e=>?_⟩
  ·split at e<;>cases e<;>exact hg
  ·split at e<;>cases e
theorem View.upto_ (h:View zab 72 w lo hi v n x ce) (hh:hi≤w.heap.size) {al:Nat} (ha:al≤n):∃ ao c,(∀ w',(Instr.slice 67 v none (some (.int .i64 (al:Int))) none).run Tryz.prog w'=.ok (.slice ao al c) w')∧Src zab w hi ao al x ce∧(ao=none→c=0∨al=0):=by
 rcases h.form2 with ⟨rfl,rfl⟩ | ⟨g,cap,rfl,hnc,hg⟩
 ·obtain rfl:al=0:=by omega
  exact ⟨none,0,zgn,⟨fun h=>absurd rfl h,fun j hj=>by omega⟩,fun _=>.inl rfl⟩
 ·exact ⟨_,_,zgl g n cap al ha hnc,⟨fun h0=>⟨g,0,rfl,fun j hj k hk=>by rw [Nat.zero_add];exact h.cell (by omega) hk⟩,fun j hj=>h.each _ (by omega)⟩,fun e=>by cases e⟩
theorem zoo {ao:Option Addr} {m c:Nat} {y:Nat→RecD} (h:(zab.slice 72).rd w hi (m,y) [.slice ao m c]):∃ cy,Src zab w hi ao m y cy∧(ao=none→c=0∨m=0):=by
 obtain ⟨ao',cap',e,hm,hc⟩:=h
 simp only [List.cons.injEq,Value.slice.injEq,true_and,and_true] at e
 obtain ⟨rfl,rfl⟩:=e
 by_cases h0:m=0
 ·subst h0
  exact ⟨fun _=>[],⟨fun h=>absurd rfl h,fun j hj=>by omega⟩,fun _=>.inr rfl⟩
 ·obtain ⟨b,off,rfl,hb,hel⟩:=hc h0
  have ch:∀ i,∃ ce,i<m→(zab.rd w hi (y i) ce∧∀ j,j<zab.sz→w.cell? ⟨b,off+(i*zab.sz+j),none⟩=ce[j]?):=fun i=>by
   by_cases c:i<m
   ·obtain ⟨ce,h1,h2⟩:=hel i c
    exact ⟨ce,fun _=>⟨h1,h2⟩⟩
   ·exact ⟨[],fun h=>absurd h c⟩
  obtain ⟨cy,hcy⟩:=Classical.axiomOfChoice ch;exact ⟨cy,⟨fun _=>⟨b,off,rfl,fun j hj=>(hcy j hj).2⟩,fun j hj=>(hcy j hj).1⟩,fun e=>by cases e⟩
end
end Go.Proofs.YtclclojenogpbaaGreat
