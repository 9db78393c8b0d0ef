/- The ledger takes a record: enter, by kinds. -/
import Derived.StillTailTactics
import Derived.Test.YtajibninhikdgaaGreatZPspentaf
set_option linter.unusedVariables false
set_option linter.unusedSimpArgs false
set_option maxHeartbeats 16000000
namespace Go.Proofs.YtajibninhikdgaaGreat
open Go.RowKit F256
open Go.Maps (Keyed)
set_option maxRecDepth 20000 in
theorem ziL {w:World} {lo B:Nat} {s:Nat→Int} {k:Nat} {x:Nat→RecD} {ce:Nat→List Value} {v:Value} {b1 b2 b3 b4 b5:Nat} (h:Ldg w lo B s k k x ce v b1 b2 b3 b4 b5) (hk:k≤1000000) (hlo:lo≤w.heap.size)
 {r:RecD} {ao6 ao7 ao8:Option Addr} {cap6 cap7 cap8:Nat} (hx:x k=r) (hc:ce k=[.int .i64 r.kind,.int .i64 r.seq,.string r.name,.int .i64 r.length,.int .i64 r.group,.int .i64 r.row,.slice ao6 r.rows.1 cap6,.slice ao7 r.data.1 cap7,.slice ao8 r.delta.1 cap8]) (hkd:r.kind=1) (hn:r.name.size≤maxLen) (hs:-9223372036854775808≤r.seq∧r.seq≤9223372036854775807) (hg:-9223372036854775808≤r.group∧r.group≤9223372036854775807) (hw:-9223372036854775808≤r.row∧r.row≤9223372036854775807) :
 Calls Tryz.prog 64 #[.pointer (some ⟨B,0,none⟩),.iface 146 (.agg #[.int .i64 r.kind,.int .i64 r.seq,.string r.name,.int .i64 r.length,.int .i64 r.group,.int .i64 r.row,.slice ao6 r.rows.1 cap6,.slice ao7 r.data.1 cap7,.slice ao8 r.delta.1 cap8])] w fun e w'=>e=.returned (.tuple #[])∧(∃ v',Ldg w' lo B s (k+1) (k+1) x ce v' b1 b2 b3 b4 b5∧EntQ w w' v v' [B,b1,b2,b3,b4,b5])∧Below lo w w':=by
 have HX:=hid hx;have HC:=hid hc;have HKD:=hid hkd
 have HEV:Hid (entV (x k).kind (ce k)=.iface 146 (.agg (rwR r ao6 cap6 ao7 cap7 ao8 cap8).toArray)):=by
  show entV (x k).kind (ce k)=.iface 146 (.agg (rwR r ao6 cap6 ao7 cap7 ao8 cap8).toArray)
  unfold entV entT;rw [hx,hc]
  simp [hkd]
 clear hx hc hkd;obtain ⟨i0,hi,hz0,hz1,hz2⟩:=info_parts zdi;have HL:=hid h;obtain ⟨ao,cap,hv⟩:=zbu h.row;subst hv;have x9:w.cell? ⟨B,9,none⟩=some (.slice ao k cap):=h.box.cell 9;have O0:=h.row;clear h;have TA:=ta00;have bA:w.grownBy (w.alloc (.cells #[.iface 146 (.agg (rwR r ao6 cap6 ao7 cap7 ao8 cap8).toArray)] 107)) none:=World.grownBy_alloc _ _ _
 go_enter Tryz.func64,Tryz.ntmps64
 go_upto_region 4 with (at_builtin;refine wpList_append_own_at _ rfl _ _ 101 rfl lo 107 i0 .nilIface 1 16 Tryz.underlying101 hi hz0 hz1 hz2 rfl (by decide) _ _ _ rfl (O0.alloc _) ⟨w.heap.size,0,none⟩ 1 1 [.iface 146 (.agg (rwR r ao6 cap6 ao7 cap7 ao8 cap8).toArray)] rfl rfl (cell_one_new _ _ _) (fun u hu=>by simp at hu;subst hu;rfl) (by unfold maxLen;omega) (by omega) (by simp;omega) ?_;intro v' w1 O1 g1 hnil hloc;obtain ⟨ao',cap',rfl⟩:=zbu O1;have L1:=HL.out.grown bA g1;have z9:=L1.cell 9;have z9f:=L1.frozen 9;clear hnil)
 have L2:Ldg ((w1.setCell ⟨B,9,none⟩ (.slice ao' (k+1) cap')).alloc (.cells (rwR r ao6 cap6 ao7 cap7 ao8 cap8).toArray 146)) lo B s (k+1) k x ce (.slice ao' (k+1) cap') b1 b2 b3 b4 b5:=HL.out.laid g1 (by rw [HEV.out];exact O1) hloc
 have X2:Box ((w1.setCell ⟨B,9,none⟩ (.slice ao' (k+1) cap')).alloc (.cells (rwR r ao6 cap6 ao7 cap7 ao8 cap8).toArray 146)) w1.heap.size (rwR r ao6 cap6 ao7 cap7 ao8 cap8).toArray 146:=by
  have:=zao (w1.setCell ⟨B,9,none⟩ (.slice ao' (k+1) cap')) (rwR r ao6 cap6 ao7 cap7 ao8 cap8).toArray 146;rw [show (w1.setCell ⟨B,9,none⟩ (.slice ao' (k+1) cap')).heap.size=w1.heap.size by simp] at this;exact this
 have B2:Below lo w ((w1.setCell ⟨B,9,none⟩ (.slice ao' (k+1) cap')).alloc (.cells (rwR r ao6 cap6 ao7 cap7 ao8 cap8).toArray 146)):=by
  have q1:Below lo w w1:=zcB HL.out g1 hlo;exact (q1.setCell HL.out.low.1 _).alloc (by have:=q1.size;simp;omega) _
 have A2:∀ b,b<w.heap.size→b≠B→(Value.slice ao k cap).ownBlock≠some b→((w1.setCell ⟨B,9,none⟩ (.slice ao' (k+1) cap')).alloc (.cells (rwR r ao6 cap6 ao7 cap7 ao8 cap8).toArray 146)).heap[b]?=w.heap[b]?:=fun b hb hB hv=>by
  have sz:w.heap.size+1≤w1.heap.size:=by have:=g1.size;simp at this;omega
  rw [Below.heap_alloc _ _ b (by simp;omega),heap_setCell_other w1 ⟨B,9,none⟩ b _ hB];exact zeF bA g1 hb (fun e=>hv e.symm)
 have HLO:Hid ((Value.slice ao' (k+1) cap').ownBlock=(Value.slice ao k cap).ownBlock∨∃ g,w.heap.size≤g∧(Value.slice ao' (k+1) cap').ownBlock=some g):=hloc.imp id (fun e=>⟨_,by simp,e⟩);obtain ⟨W2,hW2⟩:∃ y,y=((w1.setCell ⟨B,9,none⟩ (.slice ao' (k+1) cap')).alloc (.cells (rwR r ao6 cap6 ao7 cap7 ao8 cap8).toArray 146)):=⟨_,rfl⟩;rw [← hW2] at L2 X2 B2 A2 ⊢;clear hW2 TA  O0 O1 g1 hloc bA x9 z9 z9f L1 hi hz0 hz1 hz2;refine wp_region_still_tail 9 (by kernel_rfl) (by kernel_rfl) ?_;obtain ⟨WB,hWB⟩:∃ y:World,y={ W2 with drawn:=W2.drawn+1 }:=⟨_,rfl⟩
 have L3:Ldg WB lo B s (k+1) k x ce (.slice ao' (k+1) cap') b1 b2 b3 b4 b5:=by rw [hWB];exact L2.drawn _
 have X3:Box WB w1.heap.size (rwR r ao6 cap6 ao7 cap7 ao8 cap8).toArray 146:=by rw [hWB];exact X2
 have B3:Below lo w WB:=by rw [hWB];exact ⟨B2.os,B2.tape,B2.output,B2.size,B2.block⟩
 have HA3:Hid (∀ b,b<w.heap.size→b≠B→(Value.slice ao k cap).ownBlock≠some b→WB.heap[b]?=w.heap[b]?):=by rw [hWB];exact A2
 rw [← hWB];clear hWB L2 X2 B2 A2;have HL3:=hid L3;have HZ3:=hid B3.size;have HB3:=hid B3;have c0:WB.cell? ⟨w1.heap.size,0,none⟩=some (.int .i64 r.kind):=X3.cell 0;have c1:WB.cell? ⟨w1.heap.size,1,none⟩=some (.int .i64 r.seq):=X3.cell 1;have c2:WB.cell? ⟨w1.heap.size,2,none⟩=some (.string r.name):=X3.cell 2;have c3:WB.cell? ⟨w1.heap.size,3,none⟩=some (.int .i64 r.length):=X3.cell 3;have c4:WB.cell? ⟨w1.heap.size,4,none⟩=some (.int .i64 r.group):=X3.cell 4;have c5:WB.cell? ⟨w1.heap.size,5,none⟩=some (.int .i64 r.row):=X3.cell 5;have c6:WB.cell? ⟨w1.heap.size,6,none⟩=some (.slice ao6 r.rows.1 cap6):=X3.cell 6;have c7:WB.cell? ⟨w1.heap.size,7,none⟩=some (.slice ao7 r.data.1 cap7):=X3.cell 7;have c8:WB.cell? ⟨w1.heap.size,8,none⟩=some (.slice ao8 r.delta.1 cap8):=X3.cell 8;have d1:WB.cell? ⟨B,10,none⟩=some (.map (some b1)):=L3.box.cell 10;obtain ⟨kl,hkl⟩:=zjM hn;obtain ⟨w',hrun,M,G,S⟩:=L3.m1.put keyS Tryz.underlying97 (by unfold maxLen;omega) hkl (.agg (rwR r ao6 cap6 ao7 cap7 ao8 cap8).toArray);have HM:=hid M;have HE:Hid (∀ b,b<WB.heap.size→b∉[b1]→w'.heap[b]?=WB.heap[b]?):=fun b hb hn=>G.block b hb (fun e=>by cases e;simp at hn);have HBE:Hid (Below lo w w'):=B3.trans ⟨G.os,G.tape,G.output,G.size,fun b hb=>G.block b (by have:=B3.size;omega) (fun e=>by cases e;have:=L3.low;omega)⟩;clear M G L3 X3 B3 hkl
 simp only [List.take_succ_cons,List.take_zero,List.drop_succ_cons,List.drop_zero]
 repeat still_step
 refine wpStill_nil ?_;go_wp2;refine bodyPost_end (v:=.tuple #[]) (by simp [results,Tryz.results64]) rfl ?_
 exact ⟨rfl,⟨_,HL3.out.next (T:=[b1]) HE.out (fun b hb=>by simp at hb ⊢;omega) (by rw [show newF x ce (k+1)=putF (newF x ce k) (.string (x k).name) (.agg (ce k).toArray) from zdD (show (x k).kind=1 by rw [HX.out,HKD.out]),HX.out,HC.out];exact HM.out)
  (by rw [show movF x (k+1)=movF x k from zbv (show ¬ (x k).kind=2 by rw [HX.out,HKD.out];decide)];exact (HL3.out.m2.block (HE.out b2 HL3.out.m2.lt (by have:=HL3.out.nd;simp at this ⊢;omega))).mono (Nat.le_succ k))
  (by rw [show donF x (k+1)=donF x k from zbv (show ¬ (x k).kind=3 by rw [HX.out,HKD.out];decide)];exact (HL3.out.m3.block (HE.out b3 HL3.out.m3.lt (by have:=HL3.out.nd;simp at this ⊢;omega))).mono (Nat.le_succ k))
  (by rw [show endF x (k+1)=endF x k from zbv (show ¬ (x k).kind=3 by rw [HX.out,HKD.out];decide)];exact (HL3.out.m4.block (HE.out b4 HL3.out.m4.lt (by have:=HL3.out.nd;simp at this ⊢;omega))).mono (Nat.le_succ k))
  (by rw [show shaF x (k+1)=shaF x k from zbA (show ¬ (x k).kind=4 by rw [HX.out,HKD.out];decide)];exact (HL3.out.m5.block (HE.out b5 HL3.out.m5.lt (by have:=HL3.out.nd;simp at this ⊢;omega))).mono (Nat.le_succ k)),⟨HLO.out,fun b hb hT hv=>(HE.out b (Nat.lt_of_lt_of_le hb HZ3.out) (fun q=>hT (by simp at q ⊢;omega))).trans (HA3.out b hb (fun e=>hT (by rw [e];simp)) hv)⟩⟩,HBE.out⟩
set_option maxRecDepth 20000 in
theorem ziM {w:World} {lo B:Nat} {s:Nat→Int} {k:Nat} {x:Nat→RecD} {ce:Nat→List Value} {v:Value} {b1 b2 b3 b4 b5:Nat} (h:Ldg w lo B s k k x ce v b1 b2 b3 b4 b5) (hk:k≤1000000) (hlo:lo≤w.heap.size)
 {r:RecD} {ao6 ao7 ao8:Option Addr} {cap6 cap7 cap8:Nat} (hx:x k=r) (hc:ce k=[.int .i64 r.kind,.int .i64 r.seq,.string r.name,.int .i64 r.length,.int .i64 r.group,.int .i64 r.row,.slice ao6 r.rows.1 cap6,.slice ao7 r.data.1 cap7,.slice ao8 r.delta.1 cap8]) (hkd:r.kind=2) (hn:r.name.size≤maxLen) (hs:-9223372036854775808≤r.seq∧r.seq≤9223372036854775807) (hg:-9223372036854775808≤r.group∧r.group≤9223372036854775807) (hw:-9223372036854775808≤r.row∧r.row≤9223372036854775807) :
 Calls Tryz.prog 64 #[.pointer (some ⟨B,0,none⟩),.iface 147 (.agg #[.int .i64 r.kind,.int .i64 r.seq,.string r.name,.int .i64 r.length,.int .i64 r.group,.int .i64 r.row,.slice ao6 r.rows.1 cap6,.slice ao7 r.data.1 cap7,.slice ao8 r.delta.1 cap8])] w fun e w'=>e=.returned (.tuple #[])∧(∃ v',Ldg w' lo B s (k+1) (k+1) x ce v' b1 b2 b3 b4 b5∧EntQ w w' v v' [B,b1,b2,b3,b4,b5])∧Below lo w w':=by
 have HX:=hid hx;have HC:=hid hc;have HKD:=hid hkd
 have HEV:Hid (entV (x k).kind (ce k)=.iface 147 (.agg (rwR r ao6 cap6 ao7 cap7 ao8 cap8).toArray)):=by
  show entV (x k).kind (ce k)=.iface 147 (.agg (rwR r ao6 cap6 ao7 cap7 ao8 cap8).toArray)
  unfold entV entT;rw [hx,hc]
  simp [hkd]
 clear hx hc hkd;obtain ⟨i0,hi,hz0,hz1,hz2⟩:=info_parts zdi;have HL:=hid h;obtain ⟨ao,cap,hv⟩:=zbu h.row;subst hv;have x9:w.cell? ⟨B,9,none⟩=some (.slice ao k cap):=h.box.cell 9;have O0:=h.row;clear h;have TA:=ta11;have TA0:=ta10;have bA:w.grownBy (w.alloc (.cells #[.iface 147 (.agg (rwR r ao6 cap6 ao7 cap7 ao8 cap8).toArray)] 107)) none:=World.grownBy_alloc _ _ _
 go_enter Tryz.func64,Tryz.ntmps64
 go_upto_region 7 with (at_builtin;refine wpList_append_own_at _ rfl _ _ 101 rfl lo 107 i0 .nilIface 1 16 Tryz.underlying101 hi hz0 hz1 hz2 rfl (by decide) _ _ _ rfl (O0.alloc _) ⟨w.heap.size,0,none⟩ 1 1 [.iface 147 (.agg (rwR r ao6 cap6 ao7 cap7 ao8 cap8).toArray)] rfl rfl (cell_one_new _ _ _) (fun u hu=>by simp at hu;subst hu;rfl) (by unfold maxLen;omega) (by omega) (by simp;omega) ?_;intro v' w1 O1 g1 hnil hloc;obtain ⟨ao',cap',rfl⟩:=zbu O1;have L1:=HL.out.grown bA g1;have z9:=L1.cell 9;have z9f:=L1.frozen 9;clear hnil)
 have L2:Ldg ((w1.setCell ⟨B,9,none⟩ (.slice ao' (k+1) cap')).alloc (.cells (rwR r ao6 cap6 ao7 cap7 ao8 cap8).toArray 147)) lo B s (k+1) k x ce (.slice ao' (k+1) cap') b1 b2 b3 b4 b5:=HL.out.laid g1 (by rw [HEV.out];exact O1) hloc
 have X2:Box ((w1.setCell ⟨B,9,none⟩ (.slice ao' (k+1) cap')).alloc (.cells (rwR r ao6 cap6 ao7 cap7 ao8 cap8).toArray 147)) w1.heap.size (rwR r ao6 cap6 ao7 cap7 ao8 cap8).toArray 147:=by
  have:=zao (w1.setCell ⟨B,9,none⟩ (.slice ao' (k+1) cap')) (rwR r ao6 cap6 ao7 cap7 ao8 cap8).toArray 147;rw [show (w1.setCell ⟨B,9,none⟩ (.slice ao' (k+1) cap')).heap.size=w1.heap.size by simp] at this;exact this
 have B2:Below lo w ((w1.setCell ⟨B,9,none⟩ (.slice ao' (k+1) cap')).alloc (.cells (rwR r ao6 cap6 ao7 cap7 ao8 cap8).toArray 147)):=by
  have q1:Below lo w w1:=zcB HL.out g1 hlo;exact (q1.setCell HL.out.low.1 _).alloc (by have:=q1.size;simp;omega) _
 have A2:∀ b,b<w.heap.size→b≠B→(Value.slice ao k cap).ownBlock≠some b→((w1.setCell ⟨B,9,none⟩ (.slice ao' (k+1) cap')).alloc (.cells (rwR r ao6 cap6 ao7 cap7 ao8 cap8).toArray 147)).heap[b]?=w.heap[b]?:=fun b hb hB hv=>by
  have sz:w.heap.size+1≤w1.heap.size:=by have:=g1.size;simp at this;omega
  rw [Below.heap_alloc _ _ b (by simp;omega),heap_setCell_other w1 ⟨B,9,none⟩ b _ hB];exact zeF bA g1 hb (fun e=>hv e.symm)
 have HLO:Hid ((Value.slice ao' (k+1) cap').ownBlock=(Value.slice ao k cap).ownBlock∨∃ g,w.heap.size≤g∧(Value.slice ao' (k+1) cap').ownBlock=some g):=hloc.imp id (fun e=>⟨_,by simp,e⟩);obtain ⟨W2,hW2⟩:∃ y,y=((w1.setCell ⟨B,9,none⟩ (.slice ao' (k+1) cap')).alloc (.cells (rwR r ao6 cap6 ao7 cap7 ao8 cap8).toArray 147)):=⟨_,rfl⟩;rw [← hW2] at L2 X2 B2 A2 ⊢;clear hW2 TA TA0 O0 O1 g1 hloc bA x9 z9 z9f L1 hi hz0 hz1 hz2;refine wp_region_still_tail 10 (by kernel_rfl) (by kernel_rfl) ?_;obtain ⟨WB,hWB⟩:∃ y:World,y={ W2 with drawn:=W2.drawn+1 }:=⟨_,rfl⟩
 have L3:Ldg WB lo B s (k+1) k x ce (.slice ao' (k+1) cap') b1 b2 b3 b4 b5:=by rw [hWB];exact L2.drawn _
 have X3:Box WB w1.heap.size (rwR r ao6 cap6 ao7 cap7 ao8 cap8).toArray 147:=by rw [hWB];exact X2
 have B3:Below lo w WB:=by rw [hWB];exact ⟨B2.os,B2.tape,B2.output,B2.size,B2.block⟩
 have HA3:Hid (∀ b,b<w.heap.size→b≠B→(Value.slice ao k cap).ownBlock≠some b→WB.heap[b]?=w.heap[b]?):=by rw [hWB];exact A2
 rw [← hWB];clear hWB L2 X2 B2 A2;have HL3:=hid L3;have HZ3:=hid B3.size;have HB3:=hid B3;have c0:WB.cell? ⟨w1.heap.size,0,none⟩=some (.int .i64 r.kind):=X3.cell 0;have c1:WB.cell? ⟨w1.heap.size,1,none⟩=some (.int .i64 r.seq):=X3.cell 1;have c2:WB.cell? ⟨w1.heap.size,2,none⟩=some (.string r.name):=X3.cell 2;have c3:WB.cell? ⟨w1.heap.size,3,none⟩=some (.int .i64 r.length):=X3.cell 3;have c4:WB.cell? ⟨w1.heap.size,4,none⟩=some (.int .i64 r.group):=X3.cell 4;have c5:WB.cell? ⟨w1.heap.size,5,none⟩=some (.int .i64 r.row):=X3.cell 5;have c6:WB.cell? ⟨w1.heap.size,6,none⟩=some (.slice ao6 r.rows.1 cap6):=X3.cell 6;have c7:WB.cell? ⟨w1.heap.size,7,none⟩=some (.slice ao7 r.data.1 cap7):=X3.cell 7;have c8:WB.cell? ⟨w1.heap.size,8,none⟩=some (.slice ao8 r.delta.1 cap8):=X3.cell 8;have d2:WB.cell? ⟨B,11,none⟩=some (.map (some b2)):=L3.box.cell 11;obtain ⟨kl,hkl⟩:=zfI hs;have hlook:=L3.m2.look keyI Tryz.underlying98 (zc2 _) hkl;have hcn:=zjN (fun i=>(x i).kind=2) (fun i=>.int .i64 (x i).seq) (.int .i64 r.seq) k;rw [show movF x k (.int .i64 r.seq)=cntF (fun i=>(x i).kind=2) (fun i=>.int .i64 (x i).seq) k (.int .i64 r.seq) from rfl,zcj] at hlook;obtain ⟨cn,hcn2⟩:∃ cn,cn=cN (fun i=>(x i).kind=2) (fun i=>.int .i64 (x i).seq) (.int .i64 r.seq) k:=⟨_,rfl⟩;have HCN:=hid hcn2;rw [← hcn2] at hlook hcn
 have hwr:IntKind.i64.wrap ((cn:Int)+1)=(cn:Int)+1:=by rw [IntKind.wrap_i64];omega
 obtain ⟨w',hrun,M,G,S⟩:=L3.m2.put keyI Tryz.underlying98 (by unfold maxLen;omega) hkl (.int .i64 ((cn:Int)+1));have HM:=hid M;have HE:Hid (∀ b,b<WB.heap.size→b∉[b2]→w'.heap[b]?=WB.heap[b]?):=fun b hb hn=>G.block b hb (fun e=>by cases e;simp at hn);have HBE:Hid (Below lo w w'):=B3.trans ⟨G.os,G.tape,G.output,G.size,fun b hb=>G.block b (by have:=B3.size;omega) (fun e=>by cases e;have:=L3.low;omega)⟩;clear M G L3 X3 B3 hkl hcn2
 simp only [List.take_succ_cons,List.take_zero,List.drop_succ_cons,List.drop_zero]
 repeat still_step
 refine wpStill_nil ?_;go_wp2;refine bodyPost_end (v:=.tuple #[]) (by simp [results,Tryz.results64]) rfl ?_
 exact ⟨rfl,⟨_,HL3.out.next (T:=[b2]) HE.out (fun b hb=>by simp at hb ⊢;omega) (by rw [show newF x ce (k+1)=newF x ce k from zbA (show ¬ (x k).kind=1 by rw [HX.out,HKD.out];decide)];exact (HL3.out.m1.block (HE.out b1 HL3.out.m1.lt (by have:=HL3.out.nd;simp at this ⊢;omega))).mono (Nat.le_succ k))
  (by rw [show movF x (k+1)=putF (movF x k) (.int .i64 (x k).seq) (.int .i64 ((cN (fun i=>(x i).kind=2) (fun i=>.int .i64 (x i).seq) (.int .i64 (x k).seq) k:Int)+1)) from zen (show (x k).kind=2 by rw [HX.out,HKD.out]),HX.out,← HCN.out];exact HM.out)
  (by rw [show donF x (k+1)=donF x k from zbv (show ¬ (x k).kind=3 by rw [HX.out,HKD.out];decide)];exact (HL3.out.m3.block (HE.out b3 HL3.out.m3.lt (by have:=HL3.out.nd;simp at this ⊢;omega))).mono (Nat.le_succ k))
  (by rw [show endF x (k+1)=endF x k from zbv (show ¬ (x k).kind=3 by rw [HX.out,HKD.out];decide)];exact (HL3.out.m4.block (HE.out b4 HL3.out.m4.lt (by have:=HL3.out.nd;simp at this ⊢;omega))).mono (Nat.le_succ k))
  (by rw [show shaF x (k+1)=shaF x k from zbA (show ¬ (x k).kind=4 by rw [HX.out,HKD.out];decide)];exact (HL3.out.m5.block (HE.out b5 HL3.out.m5.lt (by have:=HL3.out.nd;simp at this ⊢;omega))).mono (Nat.le_succ k)),⟨HLO.out,fun b hb hT hv=>(HE.out b (Nat.lt_of_lt_of_le hb HZ3.out) (fun q=>hT (by simp at q ⊢;omega))).trans (HA3.out b hb (fun e=>hT (by rw [e];simp)) hv)⟩⟩,HBE.out⟩
set_option maxRecDepth 20000 in
theorem zhB {w:World} {lo B:Nat} {s:Nat→Int} {k:Nat} {x:Nat→RecD} {ce:Nat→List Value} {v:Value} {b1 b2 b3 b4 b5:Nat} (h:Ldg w lo B s k k x ce v b1 b2 b3 b4 b5) (hk:k≤1000000) (hlo:lo≤w.heap.size)
 {r:RecD} {ao6 ao7 ao8:Option Addr} {cap6 cap7 cap8:Nat} (hx:x k=r) (hc:ce k=[.int .i64 r.kind,.int .i64 r.seq,.string r.name,.int .i64 r.length,.int .i64 r.group,.int .i64 r.row,.slice ao6 r.rows.1 cap6,.slice ao7 r.data.1 cap7,.slice ao8 r.delta.1 cap8]) (hkd:r.kind=4) (hn:r.name.size≤maxLen) (hs:-9223372036854775808≤r.seq∧r.seq≤9223372036854775807) (hg:-9223372036854775808≤r.group∧r.group≤9223372036854775807) (hw:-9223372036854775808≤r.row∧r.row≤9223372036854775807) :
 Calls Tryz.prog 64 #[.pointer (some ⟨B,0,none⟩),.iface 151 (.agg #[.int .i64 r.kind,.int .i64 r.seq,.string r.name,.int .i64 r.length,.int .i64 r.group,.int .i64 r.row,.slice ao6 r.rows.1 cap6,.slice ao7 r.data.1 cap7,.slice ao8 r.delta.1 cap8])] w fun e w'=>e=.returned (.tuple #[])∧(∃ v',Ldg w' lo B s (k+1) (k+1) x ce v' b1 b2 b3 b4 b5∧EntQ w w' v v' [B,b1,b2,b3,b4,b5])∧Below lo w w':=by
 have HX:=hid hx;have HC:=hid hc;have HKD:=hid hkd
 have HEV:Hid (entV (x k).kind (ce k)=.iface 151 (.agg (rwR r ao6 cap6 ao7 cap7 ao8 cap8).toArray)):=by
  show entV (x k).kind (ce k)=.iface 151 (.agg (rwR r ao6 cap6 ao7 cap7 ao8 cap8).toArray)
  unfold entV entT;rw [hx,hc]
  simp [hkd]
 clear hx hc hkd;obtain ⟨i0,hi,hz0,hz1,hz2⟩:=info_parts zdi;have HL:=hid h;obtain ⟨ao,cap,hv⟩:=zbu h.row;subst hv;have x9:w.cell? ⟨B,9,none⟩=some (.slice ao k cap):=h.box.cell 9;have O0:=h.row;clear h;have TA:=ta33;have TA0:=ta30;have TA1:=ta31;have TA2:=ta32;have bA:w.grownBy (w.alloc (.cells #[.iface 151 (.agg (rwR r ao6 cap6 ao7 cap7 ao8 cap8).toArray)] 107)) none:=World.grownBy_alloc _ _ _
 go_enter Tryz.func64,Tryz.ntmps64
 go_upto_region 14 with (at_builtin;refine wpList_append_own_at _ rfl _ _ 101 rfl lo 107 i0 .nilIface 1 16 Tryz.underlying101 hi hz0 hz1 hz2 rfl (by decide) _ _ _ rfl (O0.alloc _) ⟨w.heap.size,0,none⟩ 1 1 [.iface 151 (.agg (rwR r ao6 cap6 ao7 cap7 ao8 cap8).toArray)] rfl rfl (cell_one_new _ _ _) (fun u hu=>by simp at hu;subst hu;rfl) (by unfold maxLen;omega) (by omega) (by simp;omega) ?_;intro v' w1 O1 g1 hnil hloc;obtain ⟨ao',cap',rfl⟩:=zbu O1;have L1:=HL.out.grown bA g1;have z9:=L1.cell 9;have z9f:=L1.frozen 9;clear hnil)
 have L2:Ldg ((w1.setCell ⟨B,9,none⟩ (.slice ao' (k+1) cap')).alloc (.cells (rwR r ao6 cap6 ao7 cap7 ao8 cap8).toArray 151)) lo B s (k+1) k x ce (.slice ao' (k+1) cap') b1 b2 b3 b4 b5:=HL.out.laid g1 (by rw [HEV.out];exact O1) hloc
 have X2:Box ((w1.setCell ⟨B,9,none⟩ (.slice ao' (k+1) cap')).alloc (.cells (rwR r ao6 cap6 ao7 cap7 ao8 cap8).toArray 151)) w1.heap.size (rwR r ao6 cap6 ao7 cap7 ao8 cap8).toArray 151:=by
  have:=zao (w1.setCell ⟨B,9,none⟩ (.slice ao' (k+1) cap')) (rwR r ao6 cap6 ao7 cap7 ao8 cap8).toArray 151;rw [show (w1.setCell ⟨B,9,none⟩ (.slice ao' (k+1) cap')).heap.size=w1.heap.size by simp] at this;exact this
 have B2:Below lo w ((w1.setCell ⟨B,9,none⟩ (.slice ao' (k+1) cap')).alloc (.cells (rwR r ao6 cap6 ao7 cap7 ao8 cap8).toArray 151)):=by
  have q1:Below lo w w1:=zcB HL.out g1 hlo;exact (q1.setCell HL.out.low.1 _).alloc (by have:=q1.size;simp;omega) _
 have A2:∀ b,b<w.heap.size→b≠B→(Value.slice ao k cap).ownBlock≠some b→((w1.setCell ⟨B,9,none⟩ (.slice ao' (k+1) cap')).alloc (.cells (rwR r ao6 cap6 ao7 cap7 ao8 cap8).toArray 151)).heap[b]?=w.heap[b]?:=fun b hb hB hv=>by
  have sz:w.heap.size+1≤w1.heap.size:=by have:=g1.size;simp at this;omega
  rw [Below.heap_alloc _ _ b (by simp;omega),heap_setCell_other w1 ⟨B,9,none⟩ b _ hB];exact zeF bA g1 hb (fun e=>hv e.symm)
 have HLO:Hid ((Value.slice ao' (k+1) cap').ownBlock=(Value.slice ao k cap).ownBlock∨∃ g,w.heap.size≤g∧(Value.slice ao' (k+1) cap').ownBlock=some g):=hloc.imp id (fun e=>⟨_,by simp,e⟩);obtain ⟨W2,hW2⟩:∃ y,y=((w1.setCell ⟨B,9,none⟩ (.slice ao' (k+1) cap')).alloc (.cells (rwR r ao6 cap6 ao7 cap7 ao8 cap8).toArray 151)):=⟨_,rfl⟩;rw [← hW2] at L2 X2 B2 A2 ⊢;clear hW2 TA TA0 TA1 TA2 O0 O1 g1 hloc bA x9 z9 z9f L1 hi hz0 hz1 hz2;refine wp_region_still_tail 17 (by kernel_rfl) (by kernel_rfl) ?_;obtain ⟨WB,hWB⟩:∃ y:World,y={ W2 with drawn:=W2.drawn+1 }:=⟨_,rfl⟩
 have L3:Ldg WB lo B s (k+1) k x ce (.slice ao' (k+1) cap') b1 b2 b3 b4 b5:=by rw [hWB];exact L2.drawn _
 have X3:Box WB w1.heap.size (rwR r ao6 cap6 ao7 cap7 ao8 cap8).toArray 151:=by rw [hWB];exact X2
 have B3:Below lo w WB:=by rw [hWB];exact ⟨B2.os,B2.tape,B2.output,B2.size,B2.block⟩
 have HA3:Hid (∀ b,b<w.heap.size→b≠B→(Value.slice ao k cap).ownBlock≠some b→WB.heap[b]?=w.heap[b]?):=by rw [hWB];exact A2
 rw [← hWB];clear hWB L2 X2 B2 A2;have HL3:=hid L3;have HZ3:=hid B3.size;have HB3:=hid B3;have c0:WB.cell? ⟨w1.heap.size,0,none⟩=some (.int .i64 r.kind):=X3.cell 0;have c1:WB.cell? ⟨w1.heap.size,1,none⟩=some (.int .i64 r.seq):=X3.cell 1;have c2:WB.cell? ⟨w1.heap.size,2,none⟩=some (.string r.name):=X3.cell 2;have c3:WB.cell? ⟨w1.heap.size,3,none⟩=some (.int .i64 r.length):=X3.cell 3;have c4:WB.cell? ⟨w1.heap.size,4,none⟩=some (.int .i64 r.group):=X3.cell 4;have c5:WB.cell? ⟨w1.heap.size,5,none⟩=some (.int .i64 r.row):=X3.cell 5;have c6:WB.cell? ⟨w1.heap.size,6,none⟩=some (.slice ao6 r.rows.1 cap6):=X3.cell 6;have c7:WB.cell? ⟨w1.heap.size,7,none⟩=some (.slice ao7 r.data.1 cap7):=X3.cell 7;have c8:WB.cell? ⟨w1.heap.size,8,none⟩=some (.slice ao8 r.delta.1 cap8):=X3.cell 8;have d5:WB.cell? ⟨B,14,none⟩=some (.map (some b5)):=L3.box.cell 14;obtain ⟨kl,hkl⟩:=zeE hg hw;obtain ⟨w',hrun,M,G,S⟩:=L3.m5.put zic Tryz.underlying100 (by unfold maxLen;omega) hkl (.int .i64 r.seq);have HM:=hid M;have HE:Hid (∀ b,b<WB.heap.size→b∉[b5]→w'.heap[b]?=WB.heap[b]?):=fun b hb hn=>G.block b hb (fun e=>by cases e;simp at hn);have HBE:Hid (Below lo w w'):=B3.trans ⟨G.os,G.tape,G.output,G.size,fun b hb=>G.block b (by have:=B3.size;omega) (fun e=>by cases e;have:=L3.low;omega)⟩;clear M G L3 X3 B3 hkl
 simp only [List.take_succ_cons,List.take_zero,List.drop_succ_cons,List.drop_zero]
 repeat still_step
 refine wpStill_nil ?_;go_wp2;refine bodyPost_end (v:=.tuple #[]) (by simp [results,Tryz.results64]) rfl ?_
 exact ⟨rfl,⟨_,HL3.out.next (T:=[b5]) HE.out (fun b hb=>by simp at hb ⊢;omega) (by rw [show newF x ce (k+1)=newF x ce k from zbA (show ¬ (x k).kind=1 by rw [HX.out,HKD.out];decide)];exact (HL3.out.m1.block (HE.out b1 HL3.out.m1.lt (by have:=HL3.out.nd;simp at this ⊢;omega))).mono (Nat.le_succ k))
  (by rw [show movF x (k+1)=movF x k from zbv (show ¬ (x k).kind=2 by rw [HX.out,HKD.out];decide)];exact (HL3.out.m2.block (HE.out b2 HL3.out.m2.lt (by have:=HL3.out.nd;simp at this ⊢;omega))).mono (Nat.le_succ k))
  (by rw [show donF x (k+1)=donF x k from zbv (show ¬ (x k).kind=3 by rw [HX.out,HKD.out];decide)];exact (HL3.out.m3.block (HE.out b3 HL3.out.m3.lt (by have:=HL3.out.nd;simp at this ⊢;omega))).mono (Nat.le_succ k))
  (by rw [show endF x (k+1)=endF x k from zbv (show ¬ (x k).kind=3 by rw [HX.out,HKD.out];decide)];exact (HL3.out.m4.block (HE.out b4 HL3.out.m4.lt (by have:=HL3.out.nd;simp at this ⊢;omega))).mono (Nat.le_succ k))
  (by rw [show shaF x (k+1)=putF (shaF x k) (.agg #[.int .i64 (x k).group,.int .i64 (x k).row]) (.int .i64 (x k).seq) from zdD (show (x k).kind=4 by rw [HX.out,HKD.out]),HX.out];exact HM.out),⟨HLO.out,fun b hb hT hv=>(HE.out b (Nat.lt_of_lt_of_le hb HZ3.out) (fun q=>hT (by simp at q ⊢;omega))).trans (HA3.out b hb (fun e=>hT (by rw [e];simp)) hv)⟩⟩,HBE.out⟩
set_option maxRecDepth 20000 in
theorem ziN {w:World} {lo B:Nat} {s:Nat→Int} {k:Nat} {x:Nat→RecD} {ce:Nat→List Value} {v:Value} {b1 b2 b3 b4 b5:Nat} (h:Ldg w lo B s k k x ce v b1 b2 b3 b4 b5) (hk:k≤1000000) (hlo:lo≤w.heap.size)
 {r:RecD} {ao6 ao7 ao8:Option Addr} {cap6 cap7 cap8:Nat} (hx:x k=r) (hc:ce k=[.int .i64 r.kind,.int .i64 r.seq,.string r.name,.int .i64 r.length,.int .i64 r.group,.int .i64 r.row,.slice ao6 r.rows.1 cap6,.slice ao7 r.data.1 cap7,.slice ao8 r.delta.1 cap8]) (hkd:r.kind=3) (hn:r.name.size≤maxLen) (hs:-9223372036854775808≤r.seq∧r.seq≤9223372036854775807) (hg:-9223372036854775808≤r.group∧r.group≤9223372036854775807) (hw:-9223372036854775808≤r.row∧r.row≤9223372036854775807) :
 Calls Tryz.prog 64 #[.pointer (some ⟨B,0,none⟩),.iface 148 (.agg #[.int .i64 r.kind,.int .i64 r.seq,.string r.name,.int .i64 r.length,.int .i64 r.group,.int .i64 r.row,.slice ao6 r.rows.1 cap6,.slice ao7 r.data.1 cap7,.slice ao8 r.delta.1 cap8])] w fun e w'=>e=.returned (.tuple #[])∧(∃ v',Ldg w' lo B s (k+1) (k+1) x ce v' b1 b2 b3 b4 b5∧EntQ w w' v v' [B,b1,b2,b3,b4,b5])∧Below lo w w':=by
 have HX:=hid hx;have HC:=hid hc;have HKD:=hid hkd
 have HEV:Hid (entV (x k).kind (ce k)=.iface 148 (.agg (rwR r ao6 cap6 ao7 cap7 ao8 cap8).toArray)):=by
  show entV (x k).kind (ce k)=.iface 148 (.agg (rwR r ao6 cap6 ao7 cap7 ao8 cap8).toArray)
  unfold entV entT;rw [hx,hc]
  simp [hkd]
 clear hx hc hkd;obtain ⟨i0,hi,hz0,hz1,hz2⟩:=info_parts zdi;have HL:=hid h;obtain ⟨ao,cap,hv⟩:=zbu h.row;subst hv;have x9:w.cell? ⟨B,9,none⟩=some (.slice ao k cap):=h.box.cell 9;have O0:=h.row;clear h;have TA:=ta22;have TA0:=ta20;have TA1:=ta21;have bA:w.grownBy (w.alloc (.cells #[.iface 148 (.agg (rwR r ao6 cap6 ao7 cap7 ao8 cap8).toArray)] 107)) none:=World.grownBy_alloc _ _ _
 go_enter Tryz.func64,Tryz.ntmps64
 go_upto_region 10 with (at_builtin;refine wpList_append_own_at _ rfl _ _ 101 rfl lo 107 i0 .nilIface 1 16 Tryz.underlying101 hi hz0 hz1 hz2 rfl (by decide) _ _ _ rfl (O0.alloc _) ⟨w.heap.size,0,none⟩ 1 1 [.iface 148 (.agg (rwR r ao6 cap6 ao7 cap7 ao8 cap8).toArray)] rfl rfl (cell_one_new _ _ _) (fun u hu=>by simp at hu;subst hu;rfl) (by unfold maxLen;omega) (by omega) (by simp;omega) ?_;intro v' w1 O1 g1 hnil hloc;obtain ⟨ao',cap',rfl⟩:=zbu O1;have L1:=HL.out.grown bA g1;have z9:=L1.cell 9;have z9f:=L1.frozen 9;clear hnil)
 have L2:Ldg ((w1.setCell ⟨B,9,none⟩ (.slice ao' (k+1) cap')).alloc (.cells (rwR r ao6 cap6 ao7 cap7 ao8 cap8).toArray 148)) lo B s (k+1) k x ce (.slice ao' (k+1) cap') b1 b2 b3 b4 b5:=HL.out.laid g1 (by rw [HEV.out];exact O1) hloc
 have X2:Box ((w1.setCell ⟨B,9,none⟩ (.slice ao' (k+1) cap')).alloc (.cells (rwR r ao6 cap6 ao7 cap7 ao8 cap8).toArray 148)) w1.heap.size (rwR r ao6 cap6 ao7 cap7 ao8 cap8).toArray 148:=by
  have:=zao (w1.setCell ⟨B,9,none⟩ (.slice ao' (k+1) cap')) (rwR r ao6 cap6 ao7 cap7 ao8 cap8).toArray 148;rw [show (w1.setCell ⟨B,9,none⟩ (.slice ao' (k+1) cap')).heap.size=w1.heap.size by simp] at this;exact this
 have B2:Below lo w ((w1.setCell ⟨B,9,none⟩ (.slice ao' (k+1) cap')).alloc (.cells (rwR r ao6 cap6 ao7 cap7 ao8 cap8).toArray 148)):=by
  have q1:Below lo w w1:=zcB HL.out g1 hlo;exact (q1.setCell HL.out.low.1 _).alloc (by have:=q1.size;simp;omega) _
 have A2:∀ b,b<w.heap.size→b≠B→(Value.slice ao k cap).ownBlock≠some b→((w1.setCell ⟨B,9,none⟩ (.slice ao' (k+1) cap')).alloc (.cells (rwR r ao6 cap6 ao7 cap7 ao8 cap8).toArray 148)).heap[b]?=w.heap[b]?:=fun b hb hB hv=>by
  have sz:w.heap.size+1≤w1.heap.size:=by have:=g1.size;simp at this;omega
  rw [Below.heap_alloc _ _ b (by simp;omega),heap_setCell_other w1 ⟨B,9,none⟩ b _ hB];exact zeF bA g1 hb (fun e=>hv e.symm)
 have HLO:Hid ((Value.slice ao' (k+1) cap').ownBlock=(Value.slice ao k cap).ownBlock∨∃ g,w.heap.size≤g∧(Value.slice ao' (k+1) cap').ownBlock=some g):=hloc.imp id (fun e=>⟨_,by simp,e⟩);obtain ⟨W2,hW2⟩:∃ y,y=((w1.setCell ⟨B,9,none⟩ (.slice ao' (k+1) cap')).alloc (.cells (rwR r ao6 cap6 ao7 cap7 ao8 cap8).toArray 148)):=⟨_,rfl⟩;rw [← hW2] at L2 X2 B2 A2 ⊢;clear hW2 TA TA0 TA1 O0 O1 g1 hloc bA x9 z9 z9f L1 hi hz0 hz1 hz2;have L3:Ldg W2.drew lo B s (k+1) k x ce (.slice ao' (k+1) cap') b1 b2 b3 b4 b5:=L2.drawn _;have X3:Box W2.drew w1.heap.size (rwR r ao6 cap6 ao7 cap7 ao8 cap8).toArray 148:=X2;have B3:Below lo w W2.drew:=⟨B2.os,B2.tape,B2.output,B2.size,B2.block⟩;have HA3:=hid A2;obtain ⟨kl,hkl⟩:=zfm hs hg;have hcn:=zjN (fun i=>(x i).kind=3) (fun i=>.agg #[.int .i64 (x i).seq,.int .i64 (x i).group]) (.agg #[.int .i64 r.seq,.int .i64 r.group]) k;have hget:(donF x k (.agg #[.int .i64 r.seq,.int .i64 r.group])).getD (.int .i64 0)=.int .i64 (cN (fun i=>(x i).kind=3) (fun i=>.agg #[.int .i64 (x i).seq,.int .i64 (x i).group]) (.agg #[.int .i64 r.seq,.int .i64 r.group]) k:Int):=zcj _ _ _ _;obtain ⟨cn,hcn2⟩:∃ cn,cn=cN (fun i=>(x i).kind=3) (fun i=>.agg #[.int .i64 (x i).seq,.int .i64 (x i).group]) (.agg #[.int .i64 r.seq,.int .i64 r.group]) k:=⟨_,rfl⟩;have HCN:=hid hcn2;rw [← hcn2] at hcn hget;have hlook:=L3.m3.look zjL Tryz.underlying99 (zc2 _) hkl;obtain ⟨st,w5,hent,z5,G5,hlk5,hst⟩:=L3.m3.entry zjK Tryz.underlying99 (by unfold maxLen;omega) zc2 hkl;rw [hget] at hlook hent hlk5
 have hwr:IntKind.i64.wrap ((cn:Int)+1)=(cn:Int)+1:=by rw [IntKind.wrap_i64];omega
 obtain ⟨w6,hrun6,M6,G6,S6⟩:=hst (.int .i64 ((cn:Int)+1));have S3:(fun w'=>w'.cell? ⟨B,12,none⟩=some (.map (some b3))∧w'.cell? ⟨w1.heap.size,1,none⟩=some (.int .i64 r.seq)∧w'.cell? ⟨w1.heap.size,4,none⟩=some (.int .i64 r.group)∧(Instr.lookup 99 (.map (some b3)) (.agg #[.int .i64 r.seq,.int .i64 r.group]) false).run Tryz.prog w'=.ok (.int .i64 (cn:Int)) w') W2.drew:=⟨L3.box.cell 12,X3.cell 1,X3.cell 4,hlook⟩;have nb:∀ b,b<W2.drew.heap.size→b≠b3→w5.heap[b]?=W2.drew.heap[b]?:=fun b hb hn=>G5.block b hb (fun e=>hn (by cases e;rfl))
 have nB:B≠b3:=fun e=>by have:=L3.nd;simp at this;omega
 have nX:w1.heap.size≠b3:=fun e=>by
  obtain ⟨D,⟨es,clock,q1,_⟩,_⟩:=L3.m3;have:=X3;unfold Box at this;rw [e,q1] at this
  cases this
 have S5:(fun w'=>w'.cell? ⟨B,12,none⟩=some (.map (some b3))∧w'.cell? ⟨w1.heap.size,1,none⟩=some (.int .i64 r.seq)∧w'.cell? ⟨w1.heap.size,4,none⟩=some (.int .i64 r.group)∧(Instr.lookup 99 (.map (some b3)) (.agg #[.int .i64 r.seq,.int .i64 r.group]) false).run Tryz.prog w'=.ok (.int .i64 (cn:Int)) w') w5:=⟨(World.cell?_of_block (w:=W2.drew) (nb B L3.box.lt nB)).trans (L3.box.cell 12),(World.cell?_of_block (w:=W2.drew) (nb _ X3.lt nX)).trans (X3.cell 1),(World.cell?_of_block (w:=W2.drew) (nb _ X3.lt nX)).trans (X3.cell 4),hlk5⟩;have HM3:=hid M6;have HE6:Hid (∀ b,b<W2.drew.heap.size→b≠b3→w6.heap[b]?=W2.drew.heap[b]?):=fun b hb hn=>G6.block b hb (fun e=>hn (by cases e;rfl));have HB6:Hid (Below lo w w6):=B3.trans ⟨G6.os,G6.tape,G6.output,G6.size,fun b hb=>G6.block b (by have:=B3.size;omega) (fun e=>by cases e;have:=L3.low;omega)⟩;have HX6:Hid (Box w6 w1.heap.size (rwR r ao6 cap6 ao7 cap7 ao8 cap8).toArray 148):=(HE6.out _ X3.lt nX).trans X3;have HY6:Hid (w6.cell? ⟨B,13,none⟩=some (.map (some b4))):=(World.cell?_of_block (w:=W2.drew) (HE6.out B L3.box.lt nB)).trans (L3.box.cell 13);have HM4:Hid (MapV w6 2 b4 k (endF x k)):=L3.m4.block (HE6.out b4 L3.m4.lt (fun e=>by have:=L3.nd;simp at this;omega));have HL3:=hid L3;have HZ3:=hid B3.size;clear M6 G6 G5 hst X3 B3 L3 hkl hcn2 hget nb nB nX L2 X2 B2 A2 hlook hlk5;refine zax 17 (fun w'=>w'.cell? ⟨B,12,none⟩=some (.map (some b3))∧w'.cell? ⟨w1.heap.size,1,none⟩=some (.int .i64 r.seq)∧w'.cell? ⟨w1.heap.size,4,none⟩=some (.int .i64 r.group)∧(Instr.lookup 99 (.map (some b3)) (.agg #[.int .i64 r.seq,.int .i64 r.group]) false).run Tryz.prog w'=.ok (.int .i64 (cn:Int)) w') zk0 S3 (fun hHeld=>?_);refine zlN 0 rfl ?_
 try simp only [Act.put,SL]
 refine zlN 1 rfl ?_
 try simp only [Act.put,SL]
 refine zlN 2 rfl ?_
 try simp only [Act.put,SL]
 refine zlO 3 rfl ?_
 try simp only [Act.put,SL]
 refine zlN 4 rfl ?_
 try simp only [Act.put,SL]
 refine zlN 5 rfl ?_
 try simp only [Act.put,SL]
 refine zlN 6 rfl ?_
 try simp only [Act.put,SL]
 refine zlO 7 rfl ?_
 try simp only [Act.put,SL]
 refine zlN 8 rfl ?_
 try simp only [Act.put,SL]
 refine zlN 9 rfl ?_
 try simp only [Act.put,SL]
 refine zlN 10 rfl ?_
 try simp only [Act.put,SL]
 refine zlO 11 rfl ?_
 try simp only [Act.put,SL]
 refine zlN 12 rfl ?_
 try simp only [Act.put,SL]
 refine zlO 13 rfl ?_
 try simp only [Act.put,SL]
 refine zlN 14 rfl ?_
 try simp only [Act.put,SL]
 refine za3 (i:=15) (o:=_) rfl (by kernel_rfl) (fun KC hKC=>?_);refine zfn rfl 99 _ _ rfl b3 _ _ (by simp [Act.eval,Act.put]) (by simp [Act.eval,Act.put]) hent ?_;refine hKC _ _ S5 ?_;clear hKC KC
 try simp only [Act.put,SL]
 refine zaa (i:=16) (oi:=_) (v:=?_) rfl (by kernel_rfl) (fun _ _ _ h=>h) (Or.inl ⟨by kernel_rfl,?_⟩) S5 ?_
 rotate_left
 ·intro w' hSw;go_simp;try with_reducible rfl
 try simp only [Act.put,SL]
 refine zar (i:=17) (o:=_) rfl (by kernel_rfl) (by kernel_rfl) (fun KC hKC=>?_);refine zeG rfl 99 _ _ _ rfl b3 _ _ (by simp [Act.eval,Act.put]) (by simp [Act.eval,Act.put]) (by simp [Act.eval,Act.put]) hrun6 ?_;refine hKC _ _ ?_;clear hKC KC
 try simp only [Act.put,SL]
 refine zas (by kernel_rfl) ?_ _;clear S5 S3 hHeld hent hrun6 z5
 go_upto_region 11 with fail
 refine wp_region_still_tail 10 (by kernel_rfl) (by kernel_rfl) ?_;obtain ⟨WB,hWB⟩:∃ y:World,y={ w6 with drawn:=w6.drawn+1 }:=⟨_,rfl⟩
 have M3:MapV WB 150 b3 (k+1) (putF (donF x k) (.agg #[.int .i64 r.seq,.int .i64 r.group]) (.int .i64 ((cn:Int)+1))):=by rw [hWB];exact HM3.out
 have M4:MapV WB 2 b4 k (endF x k):=by rw [hWB];exact HM4.out
 have X7:Box WB w1.heap.size (rwR r ao6 cap6 ao7 cap7 ao8 cap8).toArray 148:=by rw [hWB];exact HX6.out
 have d4:WB.cell? ⟨B,13,none⟩=some (.map (some b4)):=by rw [hWB];exact HY6.out
 have B7:Below lo w WB:=by rw [hWB];have q:=HB6.out;exact ⟨q.os,q.tape,q.output,q.size,q.block⟩
 have E7:∀ b,b<W2.drew.heap.size→b≠b3→WB.heap[b]?=W2.drew.heap[b]?:=by rw [hWB];exact HE6.out
 have Z7:WB.heap.size=W2.drew.heap.size:=by rw [hWB];exact S6
 rw [← hWB];clear hWB;have c0:WB.cell? ⟨w1.heap.size,0,none⟩=some (.int .i64 r.kind):=X7.cell 0;have c1:WB.cell? ⟨w1.heap.size,1,none⟩=some (.int .i64 r.seq):=X7.cell 1;have c2:WB.cell? ⟨w1.heap.size,2,none⟩=some (.string r.name):=X7.cell 2;have c3:WB.cell? ⟨w1.heap.size,3,none⟩=some (.int .i64 r.length):=X7.cell 3;have c4:WB.cell? ⟨w1.heap.size,4,none⟩=some (.int .i64 r.group):=X7.cell 4;have c5:WB.cell? ⟨w1.heap.size,5,none⟩=some (.int .i64 r.row):=X7.cell 5;have c6:WB.cell? ⟨w1.heap.size,6,none⟩=some (.slice ao6 r.rows.1 cap6):=X7.cell 6;have c7:WB.cell? ⟨w1.heap.size,7,none⟩=some (.slice ao7 r.data.1 cap7):=X7.cell 7;have c8:WB.cell? ⟨w1.heap.size,8,none⟩=some (.slice ao8 r.delta.1 cap8):=X7.cell 8;obtain ⟨kl,hkl⟩:=zfI hs;have hlook:=M4.look keyI Tryz.underlying98 (zc2 _) hkl;have hdn:=zjN (fun i=>(x i).kind=3) (fun i=>.int .i64 (x i).seq) (.int .i64 r.seq) k;rw [show endF x k (.int .i64 r.seq)=cntF (fun i=>(x i).kind=3) (fun i=>.int .i64 (x i).seq) k (.int .i64 r.seq) from rfl,zcj] at hlook;obtain ⟨dn,hdn2⟩:∃ dn,dn=cN (fun i=>(x i).kind=3) (fun i=>.int .i64 (x i).seq) (.int .i64 r.seq) k:=⟨_,rfl⟩;have HDN:=hid hdn2;rw [← hdn2] at hlook hdn
 have hwd:IntKind.i64.wrap ((dn:Int)+1)=(dn:Int)+1:=by rw [IntKind.wrap_i64];omega
 obtain ⟨w',hrun,M,G,S⟩:=M4.put keyI Tryz.underlying98 (by unfold maxLen;omega) hkl (.int .i64 ((dn:Int)+1))
 have n34:b3≠b4:=fun e=>by have:=HL3.out.nd;simp at this;omega
 have HN3:Hid (MapV w' 150 b3 (k+1) (putF (donF x k) (.agg #[.int .i64 r.seq,.int .i64 r.group]) (.int .i64 ((cn:Int)+1)))):=M3.block (G.block b3 M3.lt (fun e=>n34 (by cases e;rfl)));have HN4:=hid M
 have HE:Hid (∀ b,b<W2.drew.heap.size→b∉[b3,b4]→w'.heap[b]?=W2.drew.heap[b]?):=fun b hb hn=>by
  simp at hn
  exact (G.block b (by rw [Z7];exact hb) (fun e=>hn.2 (by cases e;rfl))).trans (E7 b hb hn.1)
 have HBE:Hid (Below lo w w'):=B7.trans ⟨G.os,G.tape,G.output,G.size,fun b hb=>G.block b (by have:=B7.size;omega) (fun e=>by cases e;have:=HL3.out.low;omega)⟩;clear M G M3 M4 X7 B7 E7 hkl hdn2 HM3 HM4 HX6 HY6 HB6 HE6
 simp only [List.take_succ_cons,List.take_zero,List.drop_succ_cons,List.drop_zero]
 repeat still_step
 refine wpStill_nil ?_;go_wp2;refine bodyPost_end (v:=.tuple #[]) (by simp [results,Tryz.results64]) rfl ?_
 exact ⟨rfl,⟨_,HL3.out.next (T:=[b3,b4]) HE.out (fun b hb=>by simp at hb ⊢;omega)
  (by rw [show newF x ce (k+1)=newF x ce k from zbA (show ¬ (x k).kind=1 by rw [HX.out,HKD.out];decide)];exact (HL3.out.m1.block (HE.out b1 HL3.out.m1.lt (by have:=HL3.out.nd;simp at this ⊢;omega))).mono (Nat.le_succ k))
  (by rw [show movF x (k+1)=movF x k from zbv (show ¬ (x k).kind=2 by rw [HX.out,HKD.out];decide)];exact (HL3.out.m2.block (HE.out b2 HL3.out.m2.lt (by have:=HL3.out.nd;simp at this ⊢;omega))).mono (Nat.le_succ k))
  (by rw [show donF x (k+1)=putF (donF x k) (.agg #[.int .i64 (x k).seq,.int .i64 (x k).group]) (.int .i64 ((cN (fun i=>(x i).kind=3) (fun i=>.agg #[.int .i64 (x i).seq,.int .i64 (x i).group]) (.agg #[.int .i64 (x k).seq,.int .i64 (x k).group]) k:Int)+1)) from zen (show (x k).kind=3 by rw [HX.out,HKD.out]),HX.out,← HCN.out];exact HN3.out)
  (by rw [show endF x (k+1)=putF (endF x k) (.int .i64 (x k).seq) (.int .i64 ((cN (fun i=>(x i).kind=3) (fun i=>.int .i64 (x i).seq) (.int .i64 (x k).seq) k:Int)+1)) from zen (show (x k).kind=3 by rw [HX.out,HKD.out]),HX.out,← HDN.out];exact HN4.out)
  (by rw [show shaF x (k+1)=shaF x k from zbA (show ¬ (x k).kind=4 by rw [HX.out,HKD.out];decide)];exact (HL3.out.m5.block (HE.out b5 HL3.out.m5.lt (by have:=HL3.out.nd;simp at this ⊢;omega))).mono (Nat.le_succ k)),⟨HLO.out,fun b hb hT hv=>(HE.out b (Nat.lt_of_lt_of_le hb HZ3.out) (fun q=>hT (by simp at q ⊢;omega))).trans (HA3.out b hb (fun e=>hT (by rw [e];simp)) hv)⟩⟩,HBE.out⟩
end Go.Proofs.YtajibninhikdgaaGreat
namespace Go.Proofs.YtajibninhikdgaaGreat.Sym
def Re (a b:Nat) (p q:Nat→Nat):Prop:=∃ s t:Nat→Nat,(∀ i,q i=p (s i))∧(∀ i,t (s i)=i)∧(∀ i,s (t i)=i)∧∀ i,(i<a∨b≤i)→s i=i
theorem Re.refl (a b:Nat) (p:Nat→Nat):Re a b p p:=⟨id,id,fun _=>rfl,fun _=>rfl,fun _=>rfl,fun _ _=>rfl⟩
theorem Re.trans {a b:Nat} {p q r:Nat→Nat} (h:Re a b p q) (k:Re a b q r):Re a b p r:=by
 obtain ⟨s,t,h1,h2,h3,h4⟩:=h;obtain ⟨s',t',k1,k2,k3,k4⟩:=k;refine ⟨fun i=>s (s' i),fun i=>t' (t i),fun i=>by rw [k1,h1],fun i=>?_,fun i=>?_,fun i hi=>?_⟩
 ·show t' (t (s (s' i)))=i
  rw [h2,k2]
 ·show s (s' (t' (t i)))=i
  rw [k3,h3]
 ·show s (s' i)=i
  rw [k4 i hi,h4 i hi]
theorem Re.mono {a b a' b':Nat} {p q:Nat→Nat} (h:Re a b p q) (ha:a'≤a) (hb:b≤b'):Re a' b' p q:=by
 obtain ⟨s,t,h1,h2,h3,h4⟩:=h;exact ⟨s,t,h1,h2,h3,fun i hi=>h4 i (by omega)⟩
theorem Re.out {a b:Nat} {p q:Nat→Nat} (h:Re a b p q) {i:Nat} (hi:i<a∨b≤i):q i=p i:=by
 obtain ⟨s,t,h1,h2,h3,h4⟩:=h;rw [h1,h4 i hi]
theorem Re.from {a b:Nat} {p q:Nat→Nat} (h:Re a b p q) {i:Nat} (hi:a≤i∧i<b):∃ j,(a≤j∧j<b)∧q i=p j:=by
 obtain ⟨s,t,h1,h2,h3,h4⟩:=h;refine ⟨s i,?_,h1 i⟩
 by_cases c:a≤s i∧s i<b
 ·exact c
 ·have:=h4 (s i) (by omega)
  have e:s i=i:=by rw [← h2 (s i),this,h2]
  omega
def swp (i j:Nat):Nat→Nat:=fun k=>if k=i then j else if k=j then i else k
theorem zjP (i j k:Nat):swp i j (swp i j k)=k:=by unfold swp;split<;>split<;>simp_all<;>split<;>simp_all
theorem Re.swaps {a b i j:Nat} (p:Nat→Nat) (hi:a≤i∧i<b) (hj:a≤j∧j<b):Re a b p (fun k=>p (swp i j k)):=
 ⟨swp i j,swp i j,fun _=>rfl,zjP i j,zjP i j,fun k hk=>by unfold swp;rw [if_neg (by omega),if_neg (by omega)]⟩
def swr (a b n:Nat):Nat→Nat:=fun k=>if a≤k∧k<a+n then b+(k-a) else if b≤k∧k<b+n then a+(k-b) else k
theorem swr_zero (a b k:Nat):swr a b 0 k=k:=by unfold swr;rw [if_neg (by omega),if_neg (by omega)]
theorem swr_succ {a b n:Nat} (h:a+(n+1)≤b) (k:Nat):swr a b n (swp (a+n) (b+n) k)=swr a b (n+1) k:=by
 unfold swr swp
 by_cases c1:k=a+n
 ·rw [if_pos c1,if_neg (by omega),if_neg (by omega),if_pos (by omega)];omega
 ·rw [if_neg c1]
  by_cases c2:k=b+n
  ·rw [if_pos c2,if_neg (by omega),if_neg (by omega),if_neg (by omega),if_pos (by omega)];omega
  ·rw [if_neg c2]
   by_cases c3:a≤k∧k<a+n
   ·rw [if_pos c3,if_pos (by omega)]
   ·rw [if_neg c3,if_neg (show ¬ (a≤k∧k<a+(n+1)) by omega)]
    by_cases c4:b≤k∧k<b+n
    ·rw [if_pos c4,if_pos (by omega)]
    ·rw [if_neg c4,if_neg (by omega)]
def rot (lo m hi:Nat):Nat→Nat:=fun k=>if k<lo∨hi≤k then k else if k<lo+(hi-m) then m+(k-lo) else k-(hi-m)
theorem rot_more {m i j:Nat} (hij:j<i) (him:i≤m) (k:Nat):swr (m-i) m j (rot (m-(i-j)) m (m+j) k)=rot (m-i) m (m+j) k:=by
 unfold rot
 by_cases c1:k<m-i∨m+j≤k
 ·rw [if_pos (show k<m-i∨m+j≤k from c1),if_pos (by omega)]
  unfold swr;rw [if_neg (by omega),if_neg (by omega)]
 ·rw [if_neg c1]
  by_cases c2:k<m-i+(m+j-m)
  ·rw [if_pos c2,if_pos (by omega)]
   unfold swr;rw [if_pos (by omega)]
  ·rw [if_neg c2,if_neg (by omega)]
   by_cases c3:k<m-(i-j)+(m+j-m)
   ·rw [if_pos c3]
    unfold swr;rw [if_neg (by omega),if_pos (by omega)];omega
   ·rw [if_neg c3]
    unfold swr;rw [if_neg (by omega),if_neg (by omega)]
theorem rot_less {m i j:Nat} (hij:i<j) (him:i≤m) (k:Nat):swr (m-i) (m+j-i) i (rot (m-i) m (m+(j-i)) k)=rot (m-i) m (m+j) k:=by
 unfold rot
 by_cases c1:k<m-i∨m+j≤k
 ·rw [if_pos (show k<m-i∨m+j≤k from c1),if_pos (by omega)]
  unfold swr;rw [if_neg (by omega),if_neg (by omega)]
 ·rw [if_neg c1]
  by_cases c4:m+(j-i)≤k
  ·rw [if_pos (by omega),if_neg (by omega)]
   unfold swr;rw [if_neg (by omega),if_pos (by omega)];omega
  ·rw [if_neg (by omega)]
   by_cases c2:k<m-i+(m+(j-i)-m)
   ·rw [if_pos c2,if_pos (by omega)]
    unfold swr;rw [if_neg (by omega),if_neg (by omega)]
   ·rw [if_neg c2,if_pos (by omega)]
    unfold swr;rw [if_pos (by omega)];omega
theorem rot_same {m i:Nat} (him:i≤m) (k:Nat):swr (m-i) m i k=rot (m-i) m (m+i) k:=by
 unfold rot swr
 by_cases c1:k<m-i∨m+i≤k
 ·rw [if_pos c1,if_neg (by omega),if_neg (by omega)]
 ·rw [if_neg c1]
  by_cases c2:k<m-i+(m+i-m)
  ·rw [if_pos c2,if_pos (by omega)]
  ·rw [if_neg c2,if_neg (by omega),if_pos (by omega)];omega
theorem zid {lo m hi:Nat} (h1:lo≤m) (h2:m≤hi) (k:Nat):rot lo (lo+(hi-m)) hi (rot lo m hi k)=k:=by
 unfold rot
 by_cases c1:k<lo∨hi≤k
 ·rw [if_pos c1,if_pos c1]
 ·rw [if_neg c1]
  by_cases c2:k<lo+(hi-m)
  ·rw [if_pos c2,if_neg (by omega),if_neg (by omega)];omega
  ·rw [if_neg c2,if_neg (by omega),if_pos (by omega)];omega
theorem Re.rots {lo m hi:Nat} (p:Nat→Nat) (h1:lo≤m) (h2:m≤hi):Re lo hi p (fun k=>p (rot lo m hi k)):=
 ⟨rot lo m hi,rot lo (lo+(hi-m)) hi,fun _=>rfl,zid h1 h2,fun k=>by
  have:=zid (lo:=lo) (m:=lo+(hi-m)) (hi:=hi) (by omega) (by omega) k
  rwa [show lo+(hi-(lo+(hi-m)))=m by omega] at this,fun k hk=>by unfold rot;rw [if_pos hk]⟩
structure Ord (lt:Nat→Nat→Prop):Prop where
 trans:∀ {i j k},lt i j→lt j k→lt i k
 irr:∀ i,¬ lt i i
def Srt (lt:Nat→Nat→Prop) (p:Nat→Nat) (a b:Nat):Prop:=∀ i j,a≤i→i<j→j<b→lt (p i) (p j)
theorem Srt.sub {lt:Nat→Nat→Prop} {p:Nat→Nat} {a b a' b':Nat} (h:Srt lt p a b) (h1:a≤a') (h2:b'≤b):Srt lt p a' b':=fun i j h3 h4 h5=>h i j (by omega) h4 (by omega)
theorem Srt.congr {lt:Nat→Nat→Prop} {p q:Nat→Nat} {a b:Nat} (h:Srt lt p a b) (e:∀ i,a≤i→i<b→q i=p i):Srt lt q a b:=fun i j h3 h4 h5=>by
 rw [e i h3 (by omega),e j (by omega) h5];exact h i j h3 h4 h5
theorem Srt.join {lt:Nat→Nat→Prop} {p:Nat→Nat} {a m b:Nat} (h1:Srt lt p a m) (h2:Srt lt p m b) (h:∀ i j,a≤i→i<m→m≤j→j<b→lt (p i) (p j)):Srt lt p a b:=fun i j h3 h4 h5=>by
 by_cases c1:j<m
 ·exact h1 i j h3 h4 c1
 ·by_cases c2:i<m
  ·exact h i j h3 c2 (by omega) h5
  ·exact h2 i j (by omega) h4 h5
theorem split {lt:Nat→Nat→Prop} (O:Ord lt) {p:Nat→Nat} {a m b s e mid:Nat} (h1:Srt lt p a m) (h2:Srt lt p m b) (hm:mid+m=s+e) (ha:a≤s) (sm:s≤m) (me:m≤e) (eb:e≤b)
 (q1:s≠a→e≠b→lt (p (s-1)) (p e)) (q2:s≠m→e≠m→lt (p (e-1)) (p s)) :
 Srt lt (fun k=>p (rot s m e k)) a s∧Srt lt (fun k=>p (rot s m e k)) s mid∧Srt lt (fun k=>p (rot s m e k)) mid e∧Srt lt (fun k=>p (rot s m e k)) e b∧
  ∀ i j,a≤i→i<mid→mid≤j→j<b→lt (p (rot s m e i)) (p (rot s m e j)):=by
 have r1:∀ i,i<s→rot s m e i=i:=fun i hi=>by unfold rot;rw [if_pos (by omega)]
 have r2:∀ i,s≤i→i<mid→rot s m e i=m+(i-s):=fun i h3 h4=>by unfold rot;rw [if_neg (by omega),if_pos (by omega)]
 have r3:∀ i,mid≤i→i<e→rot s m e i=s+(i-mid):=fun i h3 h4=>by unfold rot;rw [if_neg (by omega),if_neg (by omega)];omega
 have r4:∀ i,e≤i→rot s m e i=i:=fun i hi=>by unfold rot;rw [if_pos (by omega)]
 refine ⟨fun i j x y z=>?_,fun i j x y z=>?_,fun i j x y z=>?_,fun i j x y z=>?_,fun i j x y z u=>?_⟩
 ·show lt (p (rot s m e i)) (p (rot s m e j))
  rw [r1 i (by omega),r1 j z];exact h1 i j x y (by omega)
 ·show lt (p (rot s m e i)) (p (rot s m e j))
  rw [r2 i x (by omega),r2 j (by omega) z];exact h2 _ _ (by omega) (by omega) (by omega)
 ·show lt (p (rot s m e i)) (p (rot s m e j))
  rw [r3 i x (by omega),r3 j (by omega) z];exact h1 _ _ (by omega) (by omega) (by omega)
 ·show lt (p (rot s m e i)) (p (rot s m e j))
  rw [r4 i x,r4 j (by omega)];exact h2 _ _ (by omega) (by omega) (by omega)
 ·have le1:∀ {i j},a≤i→i≤j→j<m→p i=p j∨lt (p i) (p j):=fun {i j} x y z=>by
   by_cases c:i=j
   ·exact .inl (by rw [c])
   ·exact .inr (h1 i j x (by omega) z)
  have le2:∀ {i j},m≤i→i≤j→j<b→p i=p j∨lt (p i) (p j):=fun {i j} x y z=>by
   by_cases c:i=j
   ·exact .inl (by rw [c])
   ·exact .inr (h2 i j x (by omega) z)
  have tl:∀ {i j k},(i=j∨lt i j)→lt j k→lt i k:=fun {i j k} x y=>by
   rcases x with rfl | x
   ·exact y
   ·exact O.trans x y
  have tr:∀ {i j k},lt i j→(j=k∨lt j k)→lt i k:=fun {i j k} x y=>by
   rcases y with rfl | y
   ·exact x
   ·exact O.trans x y
  by_cases c1:i<s
  ·rw [r1 i c1]
   by_cases c2:j<e
   ·rw [r3 j z c2]
    exact h1 _ _ x (by omega) (by omega)
   ·rw [r4 j (by omega)]
    have q:=q1 (by omega) (by omega);exact tr (tl (le1 x (show i≤s-1 by omega) (by omega)) q) (le2 me (by omega) u)
  ·rw [r2 i (by omega) y]
   by_cases c2:j<e
   ·rw [r3 j z c2]
    have q:=q2 (by omega) (by omega);exact tr (tl (le2 (by omega) (show m+(i-s)≤e-1 by omega) (by omega)) q) (le1 ha (by omega) (by omega))
   ·rw [r4 j (by omega)]
    exact h2 _ _ (by omega) (by omega) u
theorem halves {lt:Nat→Nat→Prop} {p q r:Nat→Nat} {a mid b:Nat} (am:a≤mid) (mb:mid≤b) (h:∀ i j,a≤i→i<mid→mid≤j→j<b→lt (p i) (p j)) (k1:Re a mid p q) (k2:Re mid b q r) (s1:Srt lt q a mid) (s2:Srt lt r mid b):Srt lt r a b∧Re a b p r:=by
 refine ⟨Srt.join (m:=mid) (s1.congr fun i x y=>k2.out (.inl y)) s2 (fun i j x y z u=>?_),(k1.mono (Nat.le_refl _) mb).trans (k2.mono am (Nat.le_refl _))⟩
 obtain ⟨i',hi,e1⟩:=k1.from ⟨x,y⟩
 obtain ⟨j',hj,e2⟩:=k2.from ⟨z,u⟩
 rw [k2.out (.inl y),e1,e2,k1.out (.inr hj.1)];exact h i' j' hi.1 hi.2 hj.1 hj.2
end Go.Proofs.YtajibninhikdgaaGreat.Sym
namespace Go.Proofs.YtajibninhikdgaaGreat
open Go.RowKit F256
def ze7 {α:Type} (E:Lay α):Prop:=∀ (w:World) (hi:Nat) (a:α) (cs:List Value),E.rd w hi a cs→∀ u,u∈cs→u.oneCell'=true
theorem zbR {α:Type} (enc:α→Value) (ok:α→Prop) (one:∀ a,(enc a).oneCell'=true):ze7 (Lay.plain enc ok one):=fun w hi a cs h u hu=>by
 obtain ⟨rfl,_⟩:=h
 simp at hu
 subst hu;exact one a
theorem zb0 {α β:Type} {A:Lay α} {B:Lay β} (ha:ze7 A) (hb:ze7 B):ze7 (A.two B):=fun w hi p cs h u hu=>by
 obtain ⟨c,d,rfl,h1,h2⟩:=h
 rcases List.mem_append.1 hu with h | h
 ·exact ha _ _ _ _ h1 u h
 ·exact hb _ _ _ _ h2 u h
theorem zkD {α β:Type} {A:Lay α} (ha:ze7 A) (f:β→α):ze7 (A.as f):=fun w hi p cs h u hu=>ha w hi (f p) cs h u hu
theorem zeL:ze7 zac:=fun w hi p cs h u hu=>by
 obtain ⟨v,rfl,⟨ao,cap,rfl,_⟩,_⟩:=h
 simp at hu
 subst hu;rfl
theorem ziO:ze7 zaj:=fun w hi p cs h u hu=>by
 obtain ⟨v,rfl,⟨⟨ao,cap,rfl,_⟩,_⟩,_⟩:=h
 simp at hu
 subst hu;rfl
theorem zaM:ze7 zab:=zkD (zb0 (zbR _ _ _) (zb0 (zbR _ _ _) (zb0 (zbR _ _ _) (zb0 (zbR _ _ _) (zb0 (zbR _ _ _) (zb0 (zbR _ _ _) (zb0 ziO (zb0 zeL zeL)))))))) _
def cat2 {β:Type} (x:Nat→β) (n:Nat) (y:Nat→β):Nat→β:=fun i=>if i<n then x i else y (i-n)
theorem zbK {β:Type} (x:Nat→β) {n i:Nat} (y:Nat→β) (h:i<n):cat2 x n y i=x i:=if_pos h
theorem zbS {β:Type} (x:Nat→β) (n:Nat) (y:Nat→β) (i:Nat):cat2 x n y (n+i)=y i:=by
 unfold cat2;rw [if_neg (by omega)]
 congr 1
 omega
theorem zeM {β:Type} (x:Nat→List β) (n:Nat) (y:Nat→List β):∀ m,catN (n+m) (cat2 x n y)=catN n x++catN m y
 | 0=>by rw [zbG,List.append_nil];exact zbO (fun i hi=>zbK x y hi)
 | m+1=>by rw [← Nat.add_assoc,za5,zeM x n y m,za5,zbS,List.append_assoc]
structure View {α:Type} (E:Lay α) (t:TypeId) (w:World) (lo hi:Nat) (v:Value) (n:Nat) (x:Nat→α) (ce:Nat→List Value):Prop where
 row:w.ownsRow lo t E.sz v n (catN n ce)
 each:∀ i,i<n→E.rd w hi (x i) (ce i)
section
variable {α:Type} {E:Lay α} {t:TypeId} {w w':World} {lo hi n:Nat} {v:Value} {x:Nat→α} {ce:Nat→List Value}
theorem View.nil (x:Nat→α) (ce:Nat→List Value) (w:World) (lo hi:Nat):View E t w lo hi (.slice none 0 0) 0 x ce:=⟨World.ownsRow_nil w lo t E.sz,fun i hi=>by omega⟩
theorem View.lit0 (x:Nat→α) (ce:Nat→List Value) (w:World) (hi:Nat):View E t (w.alloc (.cells #[] t)) w.heap.size hi (.slice (some ⟨w.heap.size,0,none⟩) 0 0) 0 x ce:=by
 have h:=World.ownsRow_lit (base:=w.heap.size) (e:=t) (size:=E.sz) w #[] 0 (Nat.le_refl _) (Nat.zero_le _) (by simp);exact ⟨by simpa [zbG] using h,fun i hi=>by omega⟩
theorem View.form (h:View E t w lo hi v n x ce):∃ ao cap,v=.slice ao n cap:=by
 rcases h.row.2 with ⟨hv,hn⟩ | ⟨g,cap,cur,rfl,_⟩
 ·exact ⟨none,0,by rw [hv,hn]⟩
 ·exact ⟨_,_,rfl⟩
theorem View.form0 (h:View E t w lo hi v n x ce) (h0:n≠0):∃ g cap,v=.slice (some ⟨g,0,none⟩) n cap:=by
 rcases h.row.2 with ⟨hv,hn⟩ | ⟨g,cap,cur,rfl,_⟩
 ·exact absurd hn h0
 ·exact ⟨_,_,rfl⟩
theorem View.len (h:View E t w lo hi v n x ce):n≤maxLen:=by
 rcases h.row.2 with ⟨hv,hn⟩ | ⟨g,cap,cur,rfl,hbg,hgg,hnc,hcm,rest⟩
 ·omega
 ·omega
theorem View.kept (h:View E t w lo hi v n x ce) (hk:∀ b,v.ownBlock=some b→w'.heap[b]?=w.heap[b]?) (hb:Below hi w w'):View E t w' lo hi v n x ce:=by
 refine ⟨⟨h.row.1,?_⟩,fun i hi=>E.rd_below (h.each i hi) hb (Nat.le_refl _)⟩
 rcases h.row.2 with hn | ⟨g,cap,cur,rfl,hbg,hgg,rest⟩
 ·exact .inl hn
 ·exact .inr ⟨g,cap,cur,rfl,hbg,(hk g (by simp [Value.ownBlock])).trans hgg,rest⟩
theorem View.below (h:View E t w lo hi v n x ce) (hb:Below w.heap.size w w') (hh:hi≤w.heap.size):View E t w' lo hi v n x ce:=
 h.kept (fun b hv=>hb.block b (h.row.lt b hv).2) (hb.mono hh)
theorem View.congr {y:Nat→α} (h:View E t w lo hi v n x ce) (hy:∀ i,i<n→x i=y i):View E t w lo hi v n y ce:=⟨h.row,fun i hi=>by rw [← hy i hi];exact h.each i hi⟩
theorem View.lens (h:View E t w lo hi v n x ce):∀ i,i<n→(ce i).length=E.sz:=fun i hi=>E.rd_len (h.each i hi)
theorem View.cell {g cap:Nat} (h:View E t w lo hi (.slice (some ⟨g,0,none⟩) n cap) n x ce) {i j:Nat} (hi:i<n) (hj:j<E.sz):w.cell? ⟨g,i*E.sz+j,none⟩=(ce i)[j]?:=by
 rw [h.row.cellAt _ (zjk hi hj),zbT h.lens hi hj]
theorem View.rd (h:View E t w lo hi v n x ce) (hh:hi≤w.heap.size):(E.slice t).rd w w.heap.size (n,x) [v]:=by
 have hlt:=fun b hb=>(h.row.lt b hb).2;obtain ⟨ao,cap,rfl⟩:=h.form;refine ⟨ao,cap,rfl,h.len,fun h0=>?_⟩;obtain ⟨g,cap',e⟩:=h.form0 h0
 cases e
 refine ⟨g,0,rfl,hlt g (by simp [Value.ownBlock]),fun i hi=>⟨ce i,E.rd_mono (h.each i hi) hh,fun j hj=>?_⟩⟩;rw [Nat.zero_add];exact h.cell hi hj
def Src (E:Lay α) (w:World) (hi:Nat) (ao:Option Addr) (m:Nat) (y:Nat→α) (cy:Nat→List Value):Prop:=
 (m≠0→∃ b off,ao=some ⟨b,off,none⟩∧∀ j,j<m→∀ k,k<E.sz→w.cell? ⟨b,off+(j*E.sz+k),none⟩=(cy j)[k]?)∧∀ j,j<m→E.rd w hi (y j) (cy j)
theorem zdV {b:Nat} {y:α} {cs:List Value} (hc:∀ k,k<E.sz→w.cell? ⟨b,k,none⟩=cs[k]?) (hy:E.rd w hi y cs):Src E w hi (some ⟨b,0,none⟩) 1 (fun _=>y) (fun _=>cs):=
 ⟨fun _=>⟨b,0,rfl,fun j hj k hk=>by
  obtain rfl:j=0:=by omega
  rw [← hc k hk]
  congr 2
  omega⟩,fun _ _=>hy⟩
theorem zlQ (b o j:Nat):(⟨b,o,none⟩:Addr).add j=⟨b,o+j,none⟩:=by unfold Addr.add;split<;>simp_all
end
theorem za7 {α:Type} {E:Lay α} {T e:TypeId} {by_:Nat} {zs:List Value} (I:ElInfo E T e by_ zs) (R1:ze7 E) (ty:TypeId) {W:World} {lo hi n:Nat} {v:Value} {x:Nat→α} {ce:Nat→List Value} (h:View E e W lo hi v n x ce)
 {ao:Option Addr} {m:Nat} (c:Nat) {y:Nat→α} {cy:Nat→List Value} (hs:Src E W hi ao m y cy) (hlo:lo≤W.heap.size) (hhi:hi≤lo) (hn:n+m≤10000000) (hc0:ao=none→c=0∨m=0) :
 ∃ v' w',(Builtin.append_ #[T,T] ty #[v,.slice ao m c]).run Tryz.prog W=.ok v' w'∧View E e w' lo hi v' (n+m) (cat2 x n y) (cat2 ce n cy)∧W.grownBy w' v.ownBlock∧Below lo W w':=by
 obtain ⟨hz,hzs,hu,hinf,few⟩:=I
 obtain ⟨i0,hi0⟩:∃ i0,Tryz.prog.info? e=some i0:=by
  cases h:Tryz.prog.info? e with
  | none=>rw [h] at hinf;cases hinf
  | some i0=>exact ⟨i0,rfl⟩
 rw [hi0] at hinf
 simp only [Option.map_some,Option.some.injEq,Prod.mk.injEq] at hinf
 obtain ⟨h1,h2,h3⟩:=hinf
 obtain ⟨z,hz0,hzc⟩:∃ z,i0.zero=some z∧z.cells=zs.toArray:=by
  cases h:i0.zero with
  | none=>rw [h] at h1;cases h1
  | some z=>rw [h] at h1;exact ⟨z,rfl,by simpa using h1⟩
 obtain ⟨hcell,hrd⟩:=hs;have hlen:(catN m cy).length=m*E.sz:=zbw (fun j hj=>E.rd_len (hrd j hj))
 have big:∀ ad,ao=some ad→(∀ j u,(catN m cy)[j]?=some u→W.cell? (ad.add j)=some u)→∃ v' w',(Builtin.append_ #[T,T] ty #[v,.slice ao m c]).run Tryz.prog W=.ok v' w'∧View E e w' lo hi v' (n+m) (cat2 x n y) (cat2 ce n cy)∧W.grownBy w' v.ownBlock∧Below lo W w':=fun ad ha hc=>by
  subst ha
  obtain ⟨v',w',hr,r1,r2,r3,r4⟩:=run_append_own_at (P:=Tryz.prog) W lo T ty e i0 z E.sz by_ hu hi0 hz0 h2 h3 (by rw [hzc];simpa using hzs) hz v n (catN n ce) h.row ad m c (catN m cy) hlen hc
   (fun u hu=>by
    obtain ⟨i,hi,hm⟩:=za6.1 hu
    exact R1 _ _ _ _ (hrd i hi) u hm) (by unfold maxLen;omega) (by
    have:(n+m)*by_≤10000000*1000:=Nat.mul_le_mul hn few
    omega) hlo
  have hb:Below lo W w':=(Below.refl _ _).grown r2 hlo (fun k hk=>(h.row.lt k hk).1);refine ⟨v',w',hr,⟨by rw [zeM];exact r1,fun i hi=>?_⟩,r2,hb⟩
  by_cases c1:i<n
  ·rw [zbK x y c1,zbK ce cy c1]
   exact E.rd_below (h.each i c1) hb hhi
  ·obtain ⟨k,rfl⟩:∃ k,i=n+k:=⟨i-n,by omega⟩
   rw [zbS,zbS];exact E.rd_below (hrd k (by omega)) hb hhi
 by_cases hm:m=0
 ·subst hm
  cases ao with
  | some ad=>exact big ad rfl (fun j u hj=>by rw [zbG] at hj;simp at hj)
  | none=>
   refine ⟨v,W,run_append_none' W lo T ty e i0 E.sz hu hi0 v n c _ h.row,⟨by rw [zeM,zbG,List.append_nil];exact h.row,fun i hi=>?_⟩,⟨rfl,rfl,rfl,Nat.le_refl _,fun _ _ _=>rfl⟩,Below.refl _ _⟩
   have hi':i<n:=by omega
   rw [zbK x y hi',zbK ce cy hi'];exact h.each i hi'
 ·obtain ⟨b,off,rfl,hcc⟩:=hcell hm
  refine big _ rfl (fun j u hj=>?_)
  have hj':j<m*E.sz:=by rw [← hlen];exact (List.getElem?_eq_some_iff.1 hj).1
  have e1:j/E.sz<m:=Nat.div_lt_of_lt_mul (by rw [Nat.mul_comm];exact hj');have e2:j%E.sz<E.sz:=Nat.mod_lt _ hz
  have e3:j/E.sz*E.sz+j%E.sz=j:=by rw [Nat.mul_comm];exact Nat.div_add_mod j E.sz
  rw [zlQ,← e3,hcc _ e1 _ e2,← zbT (fun j hj=>E.rd_len (hrd j hj)) e1 e2,e3];exact hj
def spl (xs:List Value):Nat→List Value→List Value
 | _,[]=>xs
 | o,v::r=>spl (xs.set o v) (o+1) r
theorem zli (cs:List Value):∀ (xs:List Value) (o j:Nat),o+cs.length≤xs.length→(spl xs o cs)[j]?=if o≤j∧j<o+cs.length then cs[j-o]? else xs[j]?:=by
 induction cs with
 | nil=>intro xs o j h;rw [if_neg (by simp)];rfl
 | cons v r ih=>
  intro xs o j h
  simp only [List.length_cons] at h
  show (spl (xs.set o v) (o+1) r)[j]?=_
  rw [ih (xs.set o v) (o+1) j (by rw [List.length_set];omega)]
  by_cases c1:o=j
  ·subst c1
   rw [if_neg (by omega),if_pos (by simp),List.getElem?_set]
   simp
   omega
  ·by_cases c2:o+1≤j∧j<o+1+r.length
   ·rw [if_pos c2,if_pos (by simp;omega)]
    obtain ⟨i,rfl⟩:∃ i,j=o+1+i:=⟨j-(o+1),by omega⟩;rw [show o+1+i-(o+1)=i by omega,show o+1+i-o=i+1 by omega]
    simp
   ·rw [if_neg c2,if_neg (by simp;omega),List.getElem?_set,if_neg c1]
theorem zkE {n s i:Nat} {ce:Nat→List Value} {cs:List Value} (hs:0<s) (hl:∀ k,k<n→(ce k).length=s) (hc:cs.length=s) (hi:i<n):spl (catN n ce) (i*s) cs=catN n (upd ce i cs):=by
 have hl':∀ k,k<n→(upd ce i cs k).length=s:=fun k hk=>by
  by_cases c:k=i
  ·subst c;rw [zaX];exact hc
  ·rw [za9 ce cs c];exact hl k hk
 have hb:i*s+s≤n*s:=by
  have:=Nat.mul_le_mul_right s (show i+1≤n from hi);rw [Nat.succ_mul] at this;exact this
 apply List.ext_getElem?
 intro j;rw [zli _ _ _ _ (by rw [zbw hl,hc];exact hb)]
 by_cases hj:j<n*s
 ·have e3:j/s*s+j%s=j:=by rw [Nat.mul_comm];exact Nat.div_add_mod j s
  have e1:j/s<n:=Nat.div_lt_of_lt_mul (by rw [Nat.mul_comm];exact hj);have e2:j%s<s:=Nat.mod_lt _ hs;have g1:=zbT hl e1 e2;have g2:=zbT hl' e1 e2;rw [e3] at g1 g2;rw [g1,g2]
  by_cases c:j/s=i
  ·have h5:i*s≤j∧j<i*s+cs.length:=by rw [← c,hc];omega
   rw [if_pos h5,c,zaX]
   congr 1
   rw [← c];omega
  ·rw [za9 ce cs c,if_neg]
   rw [hc];intro hh
   apply c
   have:=Nat.div_eq_of_lt_le (m:=j) (n:=s) (k:=i) (by rw [Nat.mul_comm] at *;omega) (by rw [Nat.succ_mul];omega);exact this
 ·rw [if_neg (by rw [hc];omega),List.getElem?_eq_none (l:=catN n ce) (by rw [zbw hl];omega),List.getElem?_eq_none (l:=catN n (upd ce i cs)) (by rw [zbw hl'];omega)]
theorem zgG {lo:Nat} {t:TypeId} {s g cap n:Nat} (cs:List Value):∀ (w:World) (xs:List Value) (o:Nat),w.ownsRow lo t s (.slice (some ⟨g,0,none⟩) n cap) n xs→(w.setCells g o cs).ownsRow lo t s (.slice (some ⟨g,0,none⟩) n cap) n (spl xs o cs):=by
 induction cs with
 | nil=>intro w xs o h;exact h
 | cons v r ih=>intro w xs o h;exact ih _ _ _ (h.stored o v).1
theorem zb7 (g:Nat) (cs:List Value):∀ (w:World) (o:Nat),ChgL [g] w (w.setCells g o cs):=by
 induction cs with
 | nil=>intro w o;exact ChgL.refl _ _
 | cons v r ih=>intro w o;exact (ChgL.store [g] w g o v (by simp)).trans (ih _ _)
section
variable {α:Type} {E:Lay α} {t:TypeId} {w:World} {lo hi n g cap:Nat} {x:Nat→α} {ce:Nat→List Value}
theorem View.drew {v:Value} (h:View E t w lo hi v n x ce):View E t w.drew lo hi v n x ce:=h.kept (fun _ _=>rfl) ⟨rfl,rfl,rfl,Nat.le_refl _,fun _ _=>rfl⟩
theorem View.congr2 {v:Value} {y:Nat→α} {cy:Nat→List Value} (h:View E t w lo hi v n x ce) (hy:∀ i,i<n→x i=y i) (hc:∀ i,i<n→ce i=cy i):View E t w lo hi v n y cy:=⟨by rw [← zbO hc];exact h.row,fun i hi=>by rw [← hy i hi,← hc i hi];exact h.each i hi⟩
theorem View.range (h:View E t w lo hi (.slice (some ⟨g,0,none⟩) n cap) n x ce) {i:Nat} (hi':i<n):w.rangeAt g (i*E.sz) (ce i):=fun j v hv=>by
 have hj:j<E.sz:=by rw [← h.lens i hi'];exact (List.getElem?_eq_some_iff.1 hv).1
 rw [h.cell hi' hj];exact hv
theorem View.there (h:View E t w lo hi (.slice (some ⟨g,0,none⟩) n cap) n x ce) {i:Nat} (hi':i<n):w.there g (i*E.sz) E.sz:=fun j hj=>by
 refine ⟨?_,h.row.frozenAt _⟩;rw [h.cell hi' hj,List.getElem?_eq_getElem (by rw [h.lens i hi'];exact hj)];rfl
theorem View.put (h:View E t w lo hi (.slice (some ⟨g,0,none⟩) n cap) n x ce) (hs:0<E.sz) (hlo:hi≤lo) {i:Nat} (hi':i<n) {a:α} {cs:List Value} (ha:E.rd w hi a cs) :
 View E t (w.setCells g (i*E.sz) cs) lo hi (.slice (some ⟨g,0,none⟩) n cap) n (upd x i a) (upd ce i cs):=by
 have hg:=h.row.lt g rfl;have hb:Below lo w (w.setCells g (i*E.sz) cs):=(zb7 g cs w _).bel (fun b hb=>by simp at hb;omega) (by omega);refine ⟨?_,fun m hm=>?_⟩
 ·have:=zgG cs w _ (i*E.sz) h.row
  rw [zkE hs h.lens (E.rd_len ha) hi'] at this;exact this
 ·by_cases c:m=i
  ·subst c
   rw [zaX,zaX];exact E.rd_below ha hb hlo
  ·rw [za9 x a c,za9 ce _ c]
   exact E.rd_below (h.each m hm) hb hlo
end
theorem zbC:Tryz.prog.follows Departure.mixedOrders=true:=by kernel_rfl
theorem zag {cs:List Value} (h:cs.length=9):(Tryz.prog.info? 83).map (·.size)=some cs.length:=by rw [h];kernel_rfl
def RowsV (x0:Nat→RecD) (enc:Nat→List Value) (N blk cap lo hi:Nat) (w:World) (p:Nat→Nat):Prop:=View zab 83 w lo hi (.slice (some ⟨blk,0,none⟩) N cap) N (fun i=>x0 (p i)) (fun i=>enc (p i))
theorem RowsV.same {x0:Nat→RecD} {enc:Nat→List Value} {N blk cap lo hi:Nat} {w:World} {p q:Nat→Nat} (h:RowsV x0 enc N blk cap lo hi w p) (e:∀ i,i<N→p i=q i):RowsV x0 enc N blk cap lo hi w q:=View.congr2 h (fun i hi=>by rw [e i hi]) (fun i hi=>by rw [e i hi])
theorem zjQ {β:Type} (f:Nat→β) (p:Nat→Nat) (A B i:Nat):upd (upd (fun k=>f (p k)) A (f (p B))) B (f (p A)) i=f (p (Sym.swp A B i)):=by
 unfold Sym.swp
 by_cases c1:i=B
 ·subst c1
  rw [zaX]
  by_cases c2:i=A
  ·subst c2;simp
  ·rw [if_neg c2,if_pos rfl]
 ·rw [za9 _ _ c1]
  by_cases c2:i=A
  ·subst c2;rw [zaX,if_pos rfl]
  ·rw [za9 _ _ c2,if_neg c2,if_neg c1]
theorem zdF {x0:Nat→RecD} {enc:Nat→List Value} {p:Nat→Nat} {w:World} {lo hi N blk cap A B:Nat} (V:RowsV x0 enc N blk cap lo hi w p) (hlo:hi≤lo) (hA:A<N) (hB:B<N) :
 RowsV x0 enc N blk cap lo hi ((w.setCells blk (A*9) (enc (p B))).setCells blk (B*9) (enc (p A))) (fun k=>p (Sym.swp A B k))∧ChgL [blk] w ((w.setCells blk (A*9) (enc (p B))).setCells blk (B*9) (enc (p A))):=by
 unfold RowsV at V ⊢;have hg:=V.row.lt blk rfl;have C1:=zb7 blk (enc (p B)) w (A*9);have V1:=V.put (by decide) hlo hA (V.each B hB);have V2:=V1.put (by decide) hlo hB (zab.rd_below (V.each A hA) (C1.bel (B:=hi) (fun b hb=>by simp at hb;omega) (by omega)) (Nat.le_refl _));refine ⟨V2.congr2 (fun i _=>?_) (fun i _=>?_),C1.trans (zb7 blk _ _ _)⟩
 ·exact zjQ x0 p A B i
 ·exact zjQ enc p A B i
set_option maxRecDepth 1000000 in
theorem zcF (x0:Nat→RecD) (enc:Nat→List Value) (p:Nat→Nat) (N blk cap lo hi:Nat) (w:World) (V:RowsV x0 enc N blk cap lo hi w p) (hlo:hi≤lo) (hN:N<1000000000) (a b n:Nat) (fv:Value) (hab:a+n≤b) (hb:b+n≤N) :
 Calls Tryz.prog 159 #[.slice (some ⟨blk,0,none⟩) N cap,.int .i64 a,.int .i64 b,.int .i64 n,fv] w (fun e w'=>e=.returned (.tuple #[])∧RowsV x0 enc N blk cap lo hi w' (fun k=>p (Sym.swr a b n k))∧ChgL [blk] w w'):=by
 have HV0:=hid V;clear V
 go_enter Tryz.func159,Tryz.ntmps159
 go_wp2
 go_loopw [10] (fun i wr=>∃ t:Nat,t≤n∧i=.int .i64 t∧RowsV x0 enc N blk cap lo hi wr (fun k=>p (Sym.swr a b t k))∧ChgL [blk] w wr) (fun i _=>n-(intOf i).toNat)
 case atStart=>exact ⟨0,Nat.zero_le _,rfl,HV0.out.same (fun i _=>by rw [Sym.swr_zero]),ChgL.refl _ _⟩
 case round=>
  obtain ⟨t,ht,rfl,V,C⟩:=hrel;have HC:=hid C;clear C
  by_cases hlt:t<n
  ·have t1:(t:Int)<(n:Int):=by omega
   obtain ⟨q,hq⟩:∃ q:Nat→Nat,q=fun k=>p (Sym.swr a b t k):=⟨_,rfl⟩;have HQ:=hid hq
   have VQ:RowsV x0 enc N blk cap lo hi wr q:=by rw [hq];exact V
   obtain ⟨A,hA⟩:∃ A,A=a+t:=⟨_,rfl⟩;obtain ⟨B,hB⟩:∃ B,B=b+t:=⟨_,rfl⟩
   have hAN:A<N:=by omega
   have hBN:B<N:=by omega
   have HAB:Hid (A=a+t∧B=b+t):=⟨hA,hB⟩
   have w1:IntKind.i64.wrap ((a:Int)+(t:Int))=(A:Int):=by rw [IntKind.wrap_i64];omega
   have w2:IntKind.i64.wrap ((b:Int)+(t:Int))=(B:Int):=by rw [IntKind.wrap_i64];omega
   have i1:(A:Int)<(N:Int):=by omega
   have i2:(B:Int)<(N:Int):=by omega
   have i3:(0:Int)≤(A:Int):=by omega
   have i4:(0:Int)≤(B:Int):=by omega
   have VD:=View.drew VQ;have rgA:wr.drew.rangeAt blk (A*9) (enc (q A)):=VD.range hAN;have rgB:wr.drew.rangeAt blk (B*9) (enc (q B)):=VD.range hBN;have hsA:(enc (q A)).length=9:=VD.lens A hAN;have hsB:(enc (q B)).length=9:=VD.lens B hBN
   have th1:wr.drew.there blk (A*9) (enc (q B)).length:=by rw [hsB];exact VD.there hAN
   have th2:(wr.drew.setCells blk (A*9) (enc (q B))).there blk (B*9) (enc (q A)).length:=by rw [hsA];exact (VD.put (by decide) hlo hAN (VD.each B hBN)).there hBN
   have oneA:=zaM _ _ _ _ (VD.each A hAN);have oneB:=zaM _ _ _ _ (VD.each B hBN);have SW:=zdF VD hlo hAN hBN;have HSW:=hid SW.1;have HSC:Hid (ChgL [blk] wr ((wr.drew.setCells blk (A*9) (enc (q B))).setCells blk (B*9) (enc (q A)))):=(ChgL.of_below ⟨rfl,rfl,rfl,Nat.le_refl _,fun _ _=>rfl⟩:ChgL [blk] wr wr.drew).trans SW.2;obtain ⟨cA,hcA⟩:∃ c,c=enc (q A):=⟨_,rfl⟩;obtain ⟨cB,hcB⟩:∃ c,c=enc (q B):=⟨_,rfl⟩;rw [← hcA] at rgA th2 hsA oneA HSW HSC;rw [← hcB] at rgB th1 th2 hsB oneB HSW HSC;clear hcA hcB VD SW;clear hq hA hB V VQ
   go_upto_region 3 with fail
   refine zax 21 (fun w'=>w'.rangeAt blk (A*9) cA∧w'.rangeAt blk (B*9) cB) zbC ⟨rgA,rgB⟩ (fun hHeld=>?_);refine zaa (i:=0) (oi:=_) (v:=?_) rfl (by kernel_rfl) (fun _ _ _ h=>h) (Or.inl ⟨by rfl,?_⟩) (by assumption) ?_
   rotate_left
   ·intro w' hSw;go_simp;try with_reducible rfl
   try simp only [Act.put,SL]
   refine zaa (i:=1) (oi:=_) (v:=?_) rfl (by kernel_rfl) (fun _ _ _ h=>h) (Or.inl ⟨by rfl,?_⟩) (by assumption) ?_
   rotate_left
   ·intro w' hSw;go_simp;try with_reducible rfl
   try simp only [Act.put,SL]
   refine zaa (i:=2) (oi:=_) (v:=?_) rfl (by kernel_rfl) (fun _ _ _ h=>h) (Or.inl ⟨by rfl,?_⟩) (by assumption) ?_
   rotate_left
   ·intro w' hSw;go_simp;try with_reducible rfl
   try simp only [Act.put,SL]
   refine zaa (i:=3) (oi:=_) (v:=?_) rfl (by kernel_rfl) (fun _ _ _ h=>h) (Or.inl ⟨by rfl,?_⟩) (by assumption) ?_
   rotate_left
   ·intro w' hSw;go_simp;try with_reducible rfl
   try simp only [Act.put,SL]
   refine zaa (i:=4) (oi:=_) (v:=?_) rfl (by kernel_rfl) (fun _ _ _ h=>h) (Or.inl ⟨by rfl,?_⟩) (by assumption) ?_
   rotate_left
   ·intro w' hSw;go_simp;try with_reducible rfl
   try simp only [Act.put,SL]
   refine zaa (i:=5) (oi:=_) (v:=?_) rfl (by kernel_rfl) (fun _ _ _ h=>h) (Or.inl ⟨by rfl,?_⟩) (by assumption) ?_
   rotate_left
   ·intro w' hSw;go_simp;try with_reducible rfl
   try simp only [Act.put,SL]
   refine zaa (i:=6) (oi:=_) (v:=?_) rfl (by kernel_rfl) (fun _ _ _ h=>h) (Or.inl ⟨by rfl,?_⟩) (by assumption) ?_
   rotate_left
   ·intro w' hSw;go_simp;try with_reducible rfl
   try simp only [Act.put,SL]
   refine zaa (i:=7) (oi:=_) (v:=?_) rfl (by kernel_rfl) (fun _ _ _ h=>h) (Or.inl ⟨by rfl,?_⟩) (by assumption) ?_
   rotate_left
   ·intro w' hSw;go_simp;try with_reducible rfl
   try simp only [Act.put,SL]
   refine zaa (i:=8) (oi:=_) (v:=?_) rfl (by kernel_rfl) (fun _ _ _ h=>h) (Or.inl ⟨by rfl,?_⟩) (by assumption) ?_
   rotate_left
   ·intro w' hSw;go_simp;try with_reducible rfl
   try simp only [Act.put,SL]
   refine zaa (i:=9) (oi:=_) (v:=?_) rfl (by kernel_rfl) (fun _ _ _ h=>h) (Or.inl ⟨by rfl,?_⟩) (by assumption) ?_
   rotate_left
   ·intro w' hSw;go_simp;try with_reducible rfl
   try simp only [Act.put,SL]
   refine zaa (i:=10) (oi:=_) (v:=?_) rfl (by kernel_rfl) (fun _ _ _ h=>h) (Or.inl ⟨by rfl,?_⟩) (by assumption) ?_
   rotate_left
   ·intro w' hSw;go_simp;try with_reducible rfl
   try simp only [Act.put,SL]
   refine zaa (i:=11) (oi:=_) (v:=?_) rfl (by kernel_rfl) (fun _ _ _ h=>h) (Or.inl ⟨by rfl,?_⟩) (by assumption) ?_
   rotate_left
   ·intro w' hSw;go_simp;try with_reducible rfl
   try simp only [Act.put,SL]
   refine zaa (i:=12) (oi:=_) (v:=?_) rfl (by kernel_rfl) (fun _ _ _ h=>h) (Or.inl ⟨by rfl,?_⟩) (by assumption) ?_
   rotate_left
   ·intro w' hSw;go_simp;try with_reducible rfl
   try simp only [Act.put,SL]
   refine zaf (i:=13) (oi:=_) 16 rfl (by kernel_rfl) (fun _ _ _ h=>h) (yieldsIf_load_mid (by rfl) 83 (.tmp 28) rfl blk (B*9) (by simp [Act.eval,Act.put]) cB _ (fun w h=>h.2) Tryz.underlying83 rfl (zag hsB)) (by assumption) ?_
   try simp only [Act.put,SL]
   refine zaa (i:=14) (oi:=_) (v:=?_) rfl (by kernel_rfl) (fun _ _ _ h=>h) (Or.inl ⟨by rfl,?_⟩) (by assumption) ?_
   rotate_left
   ·intro w' hSw;go_simp;try with_reducible rfl
   try simp only [Act.put,SL]
   refine zaa (i:=15) (oi:=_) (v:=?_) rfl (by kernel_rfl) (fun _ _ _ h=>h) (Or.inl ⟨by rfl,?_⟩) (by assumption) ?_
   rotate_left
   ·intro w' hSw;go_simp;try with_reducible rfl
   try simp only [Act.put,SL]
   refine zaa (i:=16) (oi:=_) (v:=?_) rfl (by kernel_rfl) (fun _ _ _ h=>h) (Or.inl ⟨by rfl,?_⟩) (by assumption) ?_
   rotate_left
   ·intro w' hSw;go_simp;try with_reducible rfl
   try simp only [Act.put,SL]
   refine zaa (i:=17) (oi:=_) (v:=?_) rfl (by kernel_rfl) (fun _ _ _ h=>h) (Or.inl ⟨by rfl,?_⟩) (by assumption) ?_
   rotate_left
   ·intro w' hSw;go_simp;try with_reducible rfl
   try simp only [Act.put,SL]
   refine zaa (i:=18) (oi:=_) (v:=?_) rfl (by kernel_rfl) (fun _ _ _ h=>h) (Or.inl ⟨by rfl,?_⟩) (by assumption) ?_
   rotate_left
   ·intro w' hSw;go_simp;try with_reducible rfl
   try simp only [Act.put,SL]
   refine zaf (i:=19) (oi:=_) 16 rfl (by kernel_rfl) (fun _ _ _ h=>h) (yieldsIf_load_mid (by rfl) 83 (.tmp 34) rfl blk (A*9) (by simp [Act.eval,Act.put]) cA _ (fun w h=>h.1) Tryz.underlying83 rfl (zag hsA)) (by assumption) ?_
   try simp only [Act.put,SL]
   refine zaa (i:=20) (oi:=_) (v:=?_) rfl (by kernel_rfl) (fun _ _ _ h=>h) (Or.inl ⟨by rfl,?_⟩) (by assumption) ?_
   rotate_left
   ·intro w' hSw;go_simp;try with_reducible rfl
   try simp only [Act.put,SL]
   refine zbc (i:=21) rfl (by kernel_rfl) (by kernel_rfl) rfl rfl 83 (.tmp 36) (.tmp 29) rfl blk (A*9) cB (by simp [Act.eval]) (by simp [Act.eval]) th1 (zag hsB) oneB ?_;refine zai (i:=22) (oi:=_) (v:=?_) rfl (by kernel_rfl) (fun _ _ _ h=>h) (Or.inl ⟨by rfl,?_⟩) ?_
   rotate_left
   ·intro w' hSw;go_simp;try with_reducible rfl
   try simp only [Act.put,SL]
   refine zbc (i:=23) rfl (by kernel_rfl) (by kernel_rfl) rfl rfl 83 (.tmp 37) (.tmp 35) rfl blk (B*9) cA (by simp [Act.eval]) (by simp [Act.eval]) th2 (zag hsA) oneA ?_;refine zas (by kernel_rfl) ?_ _;go_wp2
   go_roundw
   case rel=>
    have e:∀ i,q (Sym.swp A B i)=p (Sym.swr a b (t+1) i):=fun i=>by
     rw [HQ.out,HAB.out.1,HAB.out.2]
     show p (Sym.swr a b t (Sym.swp (a+t) (b+t) i))=_
     rw [Sym.swr_succ (by omega)]
    exact ⟨t+1,by omega,by go_num,HSW.out.same (fun i _=>e i),HC.out.trans HSC.out⟩
   case measure=>simp [intOf];omega
  ·obtain rfl:t=n:=by omega
   have HV:=hid V;clear V;go_wp2
   go_end0
   exact ⟨rfl,HV.out,HC.out⟩
set_option maxRecDepth 1000000 in
theorem ziP (x0:Nat→RecD) (enc:Nat→List Value) (p:Nat→Nat) (N blk cap lo hi:Nat) (w:World) (V:RowsV x0 enc N blk cap lo hi w p) (hlo:hi≤lo) (hN:N<1000000000) (a m b:Nat) (fv:Value) (ham:a<m) (hmb:m<b) (hb:b≤N) :
 Calls Tryz.prog 158 #[.slice (some ⟨blk,0,none⟩) N cap,.int .i64 a,.int .i64 m,.int .i64 b,fv] w (fun e w'=>e=.returned (.tuple #[])∧RowsV x0 enc N blk cap lo hi w' (fun k=>p (Sym.rot a m b k))∧ChgL [blk] w w'):=by
 have HV0:=hid V;clear V
 go_enter Tryz.func158,Tryz.ntmps158
 go_wp2
 go_loopw [10,11] (fun vi vj wr=>∃ (i j:Nat) (q:Nat→Nat),0<i∧0<j∧i≤m-a∧j≤b-m∧vi=.int .i64 i∧vj=.int .i64 j∧(∀ k,q (Sym.rot (m-i) m (m+j) k)=p (Sym.rot a m b k))∧RowsV x0 enc N blk cap lo hi wr q∧ChgL [blk] w wr) (fun vi vj _=>(intOf vi).toNat+(intOf vj).toNat)
 case atStart=>exact ⟨m-a,b-m,p,by omega,by omega,by omega,by omega,by go_num,by go_num,fun k=>by rw [show m-(m-a)=a by omega,show m+(b-m)=b by omega],HV0.out,ChgL.refl _ _⟩
 case round=>
  obtain ⟨i,j,q,hi0,hj0,him,hjb,rfl,rfl,hq,V,C⟩:=hrel;have HC:=hid C;have HQ:=hid hq;clear C hq
  have w1:IntKind.i64.wrap ((m:Int)-(i:Int))=((m-i:Nat):Int):=by rw [IntKind.wrap_i64];omega
  obtain ⟨M,hM⟩:∃ M,M=m-i:=⟨_,rfl⟩;have HM:=hid hM;rw [← hM] at w1
  by_cases hij:i=j
  ·subst hij
   have hne:((i:Int) != (i:Int))=false:=by simp
   have CS:=zcF x0 enc q N blk cap lo hi wr V hlo hN M m i fv (by omega) (by omega);clear V hM
   go_wp2_with fail
   refine CS.mono ?_;rintro e w2 ⟨rfl,V2,C2⟩;go_wp2
   go_end0
   refine ⟨rfl,V2.same (fun k _=>?_),HC.out.trans C2⟩
   show q (Sym.swr M m i k)=p (Sym.rot a m b k)
   rw [← HQ.out,HM.out,Sym.rot_same (by omega)]
  ·have hne:((i:Int) != (j:Int))=true:=by simp;omega
   by_cases hlt:j<i
   ·have hgt:(j:Int)<(i:Int):=by omega
    have w3:IntKind.i64.wrap ((i:Int)-(j:Int))=((i-j:Nat):Int):=by rw [IntKind.wrap_i64];omega
    have CS:=zcF x0 enc q N blk cap lo hi wr V hlo hN M m j fv (by omega) (by omega);clear V hM
    go_wp2_with fail
    refine CS.mono ?_;rintro e w2 ⟨rfl,V2,C2⟩;have HV2:=hid V2;clear V2 CS;go_wp2
    go_roundw
    case rel=>exact ⟨i-j,j,fun k=>q (Sym.swr M m j k),by omega,by omega,by omega,by omega,by go_num,by go_num,fun k=>by
     show q (Sym.swr M m j (Sym.rot (m-(i-j)) m (m+j) k))=_
     rw [HM.out,Sym.rot_more (by omega) (by omega),HQ.out],HV2.out,HC.out.trans C2⟩
    case measure=>simp [intOf];omega
   ·have hgt:decide ((j:Int)<(i:Int))=false:=decide_eq_false (by omega)
    have w3:IntKind.i64.wrap ((j:Int)-(i:Int))=((j-i:Nat):Int):=by rw [IntKind.wrap_i64];omega
    have w4:IntKind.i64.wrap ((m:Int)+(j:Int))=((m+j:Nat):Int):=by rw [IntKind.wrap_i64];omega
    have w5:IntKind.i64.wrap (((m+j:Nat):Int)-(i:Int))=((m+j-i:Nat):Int):=by rw [IntKind.wrap_i64];omega
    have CS:=zcF x0 enc q N blk cap lo hi wr V hlo hN M (m+j-i) i fv (by omega) (by omega);obtain ⟨MJ,hMJ⟩:∃ x,x=m+j:=⟨_,rfl⟩;obtain ⟨MI,hMI⟩:∃ x,x=m+j-i:=⟨_,rfl⟩;have HMI:=hid hMI;rw [← hMI] at CS w5;rw [← hMJ] at w4 w5;clear V hM hMI hMJ
    go_wp2_with fail
    refine CS.mono ?_;rintro e w2 ⟨rfl,V2,C2⟩;have HV2:=hid V2;clear V2 CS;go_wp2
    go_roundw
    case rel=>exact ⟨i,j-i,fun k=>q (Sym.swr M MI i k),by omega,by omega,by omega,by omega,by go_num,by go_num,fun k=>by
     show q (Sym.swr M MI i (Sym.rot (m-i) m (m+(j-i)) k))=_
     rw [HM.out,HMI.out,Sym.rot_less (by omega) (by omega),HQ.out],HV2.out,HC.out.trans C2⟩
    case measure=>simp [intOf];omega
end Go.Proofs.YtajibninhikdgaaGreat
namespace Go.Proofs.YtajibninhikdgaaGreat
open Go.RowKit
theorem zaY {ops:Array Oper} {o:Oper} {a:Act} {w:World} {K:Act→World→Prop} {Q:Exit→Act→World→Prop} {E:Prop}
 (hw:Region.wanted o (yielded ops a.tmps)=true) (x:Operand) (n:Nat) (caps:Array Value) (args:Array Operand) (ty:Array TypeId) (hop:o.op=Op.call { callee:=Callee.value x,args:=args,argTypes:=ty }) (hx:a.eval x=.func (.func n) #[] caps) (vals:Array Value) (hv:args.map a.eval=vals)
 {fn : Func} (hfn : Tryz.prog.funcs[n]? = some fn) (hnm : (fn.name == "runtime.NumGoroutine") = false) (hbd : fn.body.isSome = true)
 {R:Ending→World→Prop} (hc:Calls Tryz.prog n (vals++caps) w R) (hK:∀ e w',R e w'→∃ v,e=.returned v∧K (a.put o.dst v) w') :
 if Region.wanted o (yielded ops a.tmps)=true then Oper.wp Tryz.prog o a w K Q else E:=by
 have hn' : ¬ fn.name = "runtime.NumGoroutine" := by simpa using hnm
 have hb':¬ fn.body=none:=by intro h;rw [h] at hbd;cases hbd
 rw [if_pos hw];unfold Oper.wp
 simp [execOp,hop,hx,resolve,invoke,Result.andThen,Deferred.ofValue,callFunc,Oper.upon,hv,hfn,hn',hb']
 refine hc.mono fun e w' h=>?_;obtain ⟨v,rfl,hk⟩:=hK e w' h;exact hk
end Go.Proofs.YtajibninhikdgaaGreat
namespace Go.Proofs.YtajibninhikdgaaGreat
open Go.RowKit F256
def cmpI (a b:Int):Int:=if a<b then -1 else if b<a then 1 else 0
def numC (r s:RecD):Int:=if cmpI r.seq s.seq≠0 then cmpI r.seq s.seq else if cmpI r.kind s.kind≠0 then cmpI r.kind s.kind else cmpI r.group s.group
theorem zie (a:Int) (w:World):Calls Tryz.prog 153 #[.int .i64 a] w fun e w'=>e=.returned (.bool false)∧w'=w:=by
 have h:(a != a)=false:=by simp
 go_enter Tryz.func153,Tryz.ntmps153
 go_wp2;go_ret;exact ⟨rfl,rfl⟩
theorem zdW (a b:Int) (w:World):Calls Tryz.prog 132 #[.int .i64 a,.int .i64 b] w fun e w'=>e=.returned (.int .i64 (cmpI a b))∧w'=w:=by
 have C1:=zie a w;have C2:=zie b w
 by_cases h1:a<b
 ·rw [show cmpI a b=-1 by unfold cmpI;rw [if_pos h1]]
  go_enter Tryz.func132,Tryz.ntmps132
  go_wp2_with fail
  refine C1.mono ?_;rintro e w1 ⟨rfl,e1⟩;obtain rfl:=e1.symm
  go_wp2_with fail
  refine C2.mono ?_;rintro e w1 ⟨rfl,e1⟩;obtain rfl:=e1.symm;clear C1 C2;go_wp2;go_ret;exact ⟨rfl,rfl⟩
 by_cases h2:b<a
 ·rw [show cmpI a b=1 by unfold cmpI;rw [if_neg h1,if_pos h2]]
  have h1:decide (a<b)=false:=decide_eq_false h1
  go_enter Tryz.func132,Tryz.ntmps132
  go_wp2_with fail
  refine C1.mono ?_;rintro e w1 ⟨rfl,e1⟩;obtain rfl:=e1.symm
  go_wp2_with fail
  refine C2.mono ?_;rintro e w1 ⟨rfl,e1⟩;obtain rfl:=e1.symm;clear C1 C2;go_wp2;go_ret;exact ⟨rfl,rfl⟩
 ·rw [show cmpI a b=0 by unfold cmpI;rw [if_neg h1,if_neg h2]]
  have h1:decide (a<b)=false:=decide_eq_false h1;have h2:decide (b<a)=false:=decide_eq_false h2
  go_enter Tryz.func132,Tryz.ntmps132
  go_wp2_with fail
  refine C1.mono ?_;rintro e w1 ⟨rfl,e1⟩;obtain rfl:=e1.symm
  go_wp2_with fail
  refine C2.mono ?_;rintro e w1 ⟨rfl,e1⟩;obtain rfl:=e1.symm;clear C1 C2;go_wp2;go_ret;exact ⟨rfl,rfl⟩
def or3 (a b c:Int):Int:=if a≠0 then a else if b≠0 then b else c
theorem or_is (a b c:Int) (g cap:Nat) (w:World) (h0:w.cell? ⟨g,0,none⟩=some (.int .i64 a)) (h1:w.cell? ⟨g,1,none⟩=some (.int .i64 b)) (h2:w.cell? ⟨g,2,none⟩=some (.int .i64 c)) :
 Calls Tryz.prog 131 #[.slice (some ⟨g,0,none⟩) 3 cap] w fun e w'=>e=.returned (.int .i64 (or3 a b c))∧w'=w:=by
 by_cases ha:a≠0
 ·rw [show or3 a b c=a by unfold or3;rw [if_pos ha]]
  have:(a != 0)=true:=by simpa using ha
  go_enter Tryz.func131,Tryz.ntmps131
  go_wp2
  go_loopw [8] (fun i wr=>wr=w∧(i=.int .i64 0)) (fun i _=>3-(intOf i).toNat)
  case atStart=>simp
  case round=>
   obtain ⟨e,hrel⟩:=hrel;obtain rfl:=e.symm;subst hrel;go_wp2;go_ret;exact ⟨rfl,rfl⟩
 obtain rfl:a=0:=by omega
 by_cases hb:b≠0
 ·rw [show or3 0 b c=b by unfold or3;rw [if_neg (by simp),if_pos hb]]
  have:(b != 0)=true:=by simpa using hb
  go_enter Tryz.func131,Tryz.ntmps131
  go_wp2
  go_loopw [8] (fun i wr=>wr=w∧(i=.int .i64 0∨i=.int .i64 1)) (fun i _=>3-(intOf i).toNat)
  case atStart=>simp
  case round=>
   obtain ⟨e,hrel⟩:=hrel;obtain rfl:=e.symm
   rcases hrel with rfl | rfl
   ·go_wp2
    go_roundw
    case rel=>simp
    case measure=>simp [intOf]
   ·go_wp2
    go_ret;exact ⟨rfl,rfl⟩
 obtain rfl:b=0:=by omega
 rw [show or3 0 0 c=c by unfold or3;rw [if_neg (by simp),if_neg (by simp)]]
 by_cases hc:c≠0
 ·have:(c != 0)=true:=by simpa using hc
  go_enter Tryz.func131,Tryz.ntmps131
  go_wp2
  go_loopw [8] (fun i wr=>wr=w∧(i=.int .i64 0∨i=.int .i64 1∨i=.int .i64 2)) (fun i _=>3-(intOf i).toNat)
  case atStart=>simp
  case round=>
   obtain ⟨e,hrel⟩:=hrel;obtain rfl:=e.symm
   rcases hrel with rfl | rfl | rfl
   ·go_wp2
    go_roundw
    case rel=>simp
    case measure=>simp [intOf]
   ·go_wp2
    go_roundw
    case rel=>simp
    case measure=>simp [intOf]
   ·go_wp2
    go_ret;exact ⟨rfl,rfl⟩
 ·obtain rfl:c=0:=by omega
  go_enter Tryz.func131,Tryz.ntmps131
  go_wp2
  go_loopw [8] (fun i wr=>wr=w∧(i=.int .i64 0∨i=.int .i64 1∨i=.int .i64 2∨i=.int .i64 3)) (fun i _=>3-(intOf i).toNat)
  case atStart=>simp
  case round=>
   obtain ⟨e,hrel⟩:=hrel;obtain rfl:=e.symm
   rcases hrel with rfl | rfl | rfl | rfl
   ·go_wp2
    go_roundw
    case rel=>simp
    case measure=>simp [intOf]
   ·go_wp2
    go_roundw
    case rel=>simp
    case measure=>simp [intOf]
   ·go_wp2
    go_roundw
    case rel=>simp
    case measure=>simp [intOf]
   ·go_wp2
    go_ret;exact ⟨rfl,rfl⟩
set_option maxRecDepth 100000 in
theorem zb1 (r s:RecD) (cr cs:List Value) (hi hj:Nat) (w:World) (hr:zab.rd w hi r cr) (hs:zab.rd w hj s cs) :
 Calls Tryz.prog 105 #[.agg cr.toArray,.agg cs.toArray] w fun e w'=>e=.returned (.int .i64 (numC r s))∧Below w.heap.size w w':=by
 obtain ⟨a6,ak6,a7,ak7,a8,ak8,rfl,-⟩:=zaw hr;obtain ⟨b6,bk6,b7,bk7,b8,bk8,rfl,-⟩:=zaw hs;have T0:=zaD w (rwR r a6 ak6 a7 ak7 a8 ak8).toArray (rwR s b6 bk6 b7 bk7 b8 bk8).toArray 83 83
 go_enter Tryz.func105,Tryz.ntmps105
 go_upto_region 1 with fail
 obtain ⟨W,hW⟩:∃ x,x=(w.alloc (.cells (rwR r a6 ak6 a7 ak7 a8 ak8).toArray 83)).alloc (.cells (rwR s b6 bk6 b7 bk7 b8 bk8).toArray 83):=⟨_,rfl⟩;rw [← hW] at T0 ⊢;clear hW hr hs;have HB:=hid T0.bel;have zW:w.heap.size+1<W.heap.size:=T0.b2.lt;have SW:∀ w',Below W.heap.size W w'→(w'.cell? ⟨w.heap.size,1,none⟩=some (.int .i64 r.seq)∧w'.cell? ⟨w.heap.size,0,none⟩=some (.int .i64 r.kind)∧w'.cell? ⟨w.heap.size,4,none⟩=some (.int .i64 r.group)∧w'.cell? ⟨(w.heap.size+1),1,none⟩=some (.int .i64 s.seq)∧w'.cell? ⟨(w.heap.size+1),0,none⟩=some (.int .i64 s.kind)∧w'.cell? ⟨(w.heap.size+1),4,none⟩=some (.int .i64 s.group)):=fun w' hb=>⟨(hb.cell (p:=⟨w.heap.size,1,none⟩) (by show w.heap.size<_;omega)).trans (T0.b1.cell 1),(hb.cell (p:=⟨w.heap.size,0,none⟩) (by show w.heap.size<_;omega)).trans (T0.b1.cell 0),(hb.cell (p:=⟨w.heap.size,4,none⟩) (by show w.heap.size<_;omega)).trans (T0.b1.cell 4),(hb.cell (p:=⟨w.heap.size+1,1,none⟩) (by show w.heap.size+1<_;omega)).trans (T0.b2.cell 1),(hb.cell (p:=⟨w.heap.size+1,0,none⟩) (by show w.heap.size+1<_;omega)).trans (T0.b2.cell 0),(hb.cell (p:=⟨w.heap.size+1,4,none⟩) (by show w.heap.size+1<_;omega)).trans (T0.b2.cell 4)⟩;have bA:Below W.heap.size W (W.drew.alloc (.cells #[.int .i64 (cmpI r.seq s.seq),.int .i64 (cmpI r.kind s.kind),.int .i64 (cmpI r.group s.group)] 3)):=((⟨rfl,rfl,rfl,Nat.le_refl _,fun _ _=>rfl⟩:Below W.heap.size W W.drew)).alloc (Nat.le_refl _) _;have CC0:=zdW r.seq s.seq W.drew;have CC1:=zdW r.kind s.kind W.drew;have CC2:=zdW r.group s.group W.drew;have XA:Box (W.drew.alloc (.cells #[.int .i64 (cmpI r.seq s.seq),.int .i64 (cmpI r.kind s.kind),.int .i64 (cmpI r.group s.group)] 3)) W.heap.size #[.int .i64 (cmpI r.seq s.seq),.int .i64 (cmpI r.kind s.kind),.int .i64 (cmpI r.group s.group)] 3:=zao W.drew _ _;have CO:=or_is (cmpI r.seq s.seq) (cmpI r.kind s.kind) (cmpI r.group s.group) W.heap.size 3 (W.drew.alloc (.cells #[.int .i64 (cmpI r.seq s.seq),.int .i64 (cmpI r.kind s.kind),.int .i64 (cmpI r.group s.group)] 3)) (XA.cell 0) (XA.cell 1) (XA.cell 2);clear T0;refine zeJ 17 (fun w'=>w'.cell? ⟨w.heap.size,1,none⟩=some (.int .i64 r.seq)∧w'.cell? ⟨w.heap.size,0,none⟩=some (.int .i64 r.kind)∧w'.cell? ⟨w.heap.size,4,none⟩=some (.int .i64 r.group)∧w'.cell? ⟨(w.heap.size+1),1,none⟩=some (.int .i64 s.seq)∧w'.cell? ⟨(w.heap.size+1),0,none⟩=some (.int .i64 s.kind)∧w'.cell? ⟨(w.heap.size+1),4,none⟩=some (.int .i64 s.group)) (by kernel_rfl) (SW _ ⟨rfl,rfl,rfl,Nat.le_refl _,fun _ _=>rfl⟩) (fun hHeld=>?_)
 refine zlK 0 rfl ?_
 try simp only [Act.put,SL]
 refine zlK 1 rfl ?_
 try simp only [Act.put,SL]
 refine zlK 2 rfl ?_
 try simp only [Act.put,SL]
 refine zlK 3 rfl ?_
 try simp only [Act.put,SL]
 refine zlK 5 rfl ?_
 try simp only [Act.put,SL]
 refine zlK 6 rfl ?_
 try simp only [Act.put,SL]
 refine zlK 7 rfl ?_
 try simp only [Act.put,SL]
 refine zlK 8 rfl ?_
 try simp only [Act.put,SL]
 refine zlK 10 rfl ?_
 try simp only [Act.put,SL]
 refine zlK 11 rfl ?_
 try simp only [Act.put,SL]
 refine zlK 12 rfl ?_
 try simp only [Act.put,SL]
 refine zlK 13 rfl ?_
 try simp only [Act.put,SL]
 refine zbQ (i:=4) (o:=_) rfl (by kernel_rfl) (fun KC hKC=>?_)
 refine zco rfl 132 _ _ rfl #[.int .i64 r.seq,.int .i64 s.seq] ?_ Tryz.func132 (by kernel_rfl) (by kernel_rfl) CC0 ?_;(simp [Act.eval,Act.put]);rintro ee w5 ⟨rfl,e5⟩;subst e5;refine ⟨_,rfl,?_⟩
 refine hKC.out _ _ (hHeld) (fun hHeld=>?_);clear hKC KC
 try simp only [Act.put,SL]
 refine zbQ (i:=9) (o:=_) rfl (by kernel_rfl) (fun KC hKC=>?_)
 refine zco rfl 132 _ _ rfl #[.int .i64 r.kind,.int .i64 s.kind] ?_ Tryz.func132 (by kernel_rfl) (by kernel_rfl) CC1 ?_;(simp [Act.eval,Act.put]);rintro ee w5 ⟨rfl,e5⟩;subst e5;refine ⟨_,rfl,?_⟩
 refine hKC.out _ _ (hHeld) (fun hHeld=>?_);clear hKC KC
 try simp only [Act.put,SL]
 refine zbQ (i:=14) (o:=_) rfl (by kernel_rfl) (fun KC hKC=>?_)
 refine zco rfl 132 _ _ rfl #[.int .i64 r.group,.int .i64 s.group] ?_ Tryz.func132 (by kernel_rfl) (by kernel_rfl) CC2 ?_;(simp [Act.eval,Act.put]);rintro ee w5 ⟨rfl,e5⟩;subst e5;refine ⟨_,rfl,?_⟩
 refine hKC.out _ _ (hHeld) (fun hHeld=>?_);clear hKC KC
 try simp only [Act.put,SL]
 refine zbQ (i:=15) (o:=_) rfl (by kernel_rfl) (fun KC hKC=>?_);go_simp;refine hKC.out _ _ (SW _ bA) (fun hHeld=>?_);clear hKC KC
 try simp only [Act.put,SL]
 refine zbQ (i:=16) (o:=_) rfl (by kernel_rfl) (fun KC hKC=>?_)
 refine zco rfl 131 _ _ rfl #[.slice (some ⟨W.heap.size,0,none⟩) 3 3] ?_ Tryz.func131 (by kernel_rfl) (by kernel_rfl) CO ?_;(simp [Act.eval,Act.put]);rintro ee w5 ⟨rfl,e5⟩;subst e5;refine ⟨_,rfl,?_⟩
 refine hKC.out _ _ (SW _ bA) (fun hHeld=>?_);clear hKC KC
 try simp only [Act.put,SL]
 refine zeH (o:=_) rfl (by kernel_rfl) (fun KC hKC=>?_);go_simp;refine hKC.out _ _ ?_;clear hKC KC
 try simp only [Act.put,SL]
 refine zeI (by kernel_rfl) ?_ _;go_wp2;go_ret;exact ⟨rfl,HB.out.trans (bA.mono (by omega))⟩
def numL (x0:Nat→RecD) (i j:Nat):Prop:=numC (x0 i) (x0 j)<0∨(numC (x0 i) (x0 j)=0∧i<j)
theorem zhC {a b:Int}:cmpI a b<0↔a<b:=by unfold cmpI;split<;>(try split)<;>omega
theorem zeN {a b:Int}:cmpI a b=0↔a=b:=by unfold cmpI;split<;>(try split)<;>omega
theorem zc4 {r s:RecD}:numC r s<0↔r.seq<s.seq∨(r.seq=s.seq∧(r.kind<s.kind∨(r.kind=s.kind∧r.group<s.group))):=by
 unfold numC;have h1:=@zhC r.seq s.seq;have h2:=@zeN r.seq s.seq;have h3:=@zhC r.kind s.kind;have h4:=@zeN r.kind s.kind;have h5:=@zhC r.group s.group
 split
 ·omega
 ·split<;>omega
theorem zcG {r s:RecD}:numC r s=0↔r.seq=s.seq∧r.kind=s.kind∧r.group=s.group:=by
 unfold numC;have h2:=@zeN r.seq s.seq;have h4:=@zeN r.kind s.kind;have h5:=@zeN r.group s.group
 split
 ·omega
 ·split<;>omega
theorem zbo (x0:Nat→RecD):Sym.Ord (numL x0) where
 trans:=fun {i j k} h1 h2=>by
  unfold numL at *
  rw [zc4,zcG] at *
  omega
 irr:=fun i h=>by
  unfold numL at h;rw [zc4] at h;omega
theorem zeO {x0:Nat→RecD} {i j:Nat} (h:numC (x0 j) (x0 i)<0):numL x0 j i:=.inl h
theorem zgH {x0:Nat→RecD} {i j:Nat} (hij:i<j) (h:¬ numC (x0 j) (x0 i)<0):numL x0 i j:=by
 unfold numL;rw [zc4] at h ⊢;rw [zcG];omega
structure Ins (lt:Nat→Nat→Prop) (q:Nat→Nat) (a i j e:Nat):Prop where
 at_:q j=e
 rest:∀ k1 k2,a≤k1→k1<k2→k2≤i→k1≠j→k2≠j→lt (q k1) (q k2)
 behind:∀ k,j<k→k≤i→lt e (q k)
theorem Ins.start {lt:Nat→Nat→Prop} {q:Nat→Nat} {a i:Nat} (h:Sym.Srt lt q a i):Ins lt q a i i (q i):=⟨rfl,fun k1 k2 h1 h2 h3 h4 h5=>h k1 k2 h1 h2 (by omega),fun k h1 h2=>by omega⟩
theorem Ins.stop {lt:Nat→Nat→Prop} {q:Nat→Nat} {a i j e:Nat} (O:Sym.Ord lt) (h:Ins lt q a i j e) (haj:a≤j) (hji:j≤i) (hs:j=a∨lt (q (j-1)) e):Sym.Srt lt q a (i+1):=fun k1 k2 h1 h2 h3=>by
 by_cases c1:k1=j
 ·subst c1
  rw [h.at_];exact h.behind k2 h2 (by omega)
 ·by_cases c2:k2=j
  ·subst c2
   rw [h.at_]
   rcases hs with hs | hs
   ·omega
   ·by_cases c3:k1=k2-1
    ·rw [c3];exact hs
    ·exact O.trans (h.rest k1 (k2-1) h1 (by omega) (by omega) c1 (by omega)) hs
  ·exact h.rest k1 k2 h1 h2 (by omega) c1 c2
theorem Ins.step {lt:Nat→Nat→Prop} {q:Nat→Nat} {a i j e:Nat} (h:Ins lt q a i (j+1) e) (haj:a≤j) (hji:j+1≤i) (hl:lt e (q j)):Ins lt (fun k=>q (Sym.swp (j+1) j k)) a i j e:=by
 have s1:Sym.swp (j+1) j j=j+1:=by unfold Sym.swp;rw [if_neg (by omega),if_pos rfl]
 have s2:Sym.swp (j+1) j (j+1)=j:=by unfold Sym.swp;rw [if_pos rfl]
 have s3:∀ k,k≠j→k≠j+1→Sym.swp (j+1) j k=k:=fun k h1 h2=>by unfold Sym.swp;rw [if_neg h2,if_neg h1]
 refine ⟨?_,fun k1 k2 h1 h2 h3 h4 h5=>?_,fun k h1 h2=>?_⟩
 ·show q (Sym.swp (j+1) j j)=e
  rw [s1,h.at_]
 ·show lt (q (Sym.swp (j+1) j k1)) (q (Sym.swp (j+1) j k2))
  by_cases c1:k1=j+1
  ·rw [c1,s2,s3 k2 h5 (by omega)]
   exact h.rest j k2 haj (by omega) h3 (by omega) (by omega)
  ·by_cases c2:k2=j+1
   ·rw [c2,s2,s3 k1 h4 c1]
    exact h.rest k1 j h1 (by omega) (by omega) (by omega) (by omega)
   ·rw [s3 k1 h4 c1,s3 k2 h5 c2]
    exact h.rest k1 k2 h1 h2 h3 c1 c2
 ·show lt e (q (Sym.swp (j+1) j k))
  by_cases c1:k=j+1
  ·rw [c1,s2];exact hl
  ·rw [s3 k (by omega) c1]
   exact h.behind k (by omega) h2
def ziQ (n m:Nat) (f g:Nat→Int):Prop:=n=m∧∀ i,i<n→f i=g i
theorem ziR (v1 v2:Value) (n m:Nat) (f g:Nat→Int) (h1 h2:Nat) (w:World) (r1:RdI w h1 v1 n f) (r2:RdI w h2 v2 m g) :
 Calls Tryz.prog 119 #[v1,v2] w (zaT (ziQ n m f g) w):=by
 obtain ⟨ao,cap,rfl,hm,hc⟩:=r1;obtain ⟨ao2,cap2,rfl,hm2,hc2⟩:=r2;unfold maxLen at hm hm2
 by_cases hnm:n=m
 ·subst hnm
  go_enter Tryz.func119,Tryz.ntmps119
  go_wp2
  go_loopw [5] (fun i wr=>∃ k:Nat,k≤n∧i=.int .i64 k∧(∀ i,i<k→f i=g i)∧∃ m,wr=w.drewN m) (fun i _=>n-(intOf i).toNat)
  case atStart=>exact ⟨0,Nat.zero_le _,rfl,fun i hi=>by omega,0,rfl⟩
  case round=>
   obtain ⟨k,hk,rfl,hall,q,rfl⟩:=hrel;have HALL:=hid hall;clear hall
   by_cases hlt:k<n
   ·obtain ⟨b,off,rfl,hblt,hcell⟩:=hc (by omega)
    obtain ⟨b2,off2,rfl,hblt2,hcell2⟩:=hc2 (by omega);have hck:w.cell? ⟨b,off+k,none⟩=some (.int .i64 (f k)):=hcell k hlt;have hck2:w.cell? ⟨b2,off2+k,none⟩=some (.int .i64 (g k)):=hcell2 k hlt;obtain ⟨x,hx⟩:∃ x,x=f k:=⟨_,rfl⟩;obtain ⟨y,hy⟩:∃ y,y=g k:=⟨_,rfl⟩;have HX:=hid hx;have HY:=hid hy;rw [← hx] at hck;rw [← hy] at hck2;clear hc hc2 hcell hcell2 hx hy
    by_cases heq:x=y
    ·subst heq
     go_wp2
     go_quiet (fail)
     go_wp2
     go_roundw
     case rel=>exact ⟨k+1,by omega,by go_num,fun i hi=>by
      by_cases c:i=k
      ·rw [c,← HX.out,← HY.out]
      ·exact HALL.out i (by omega),_,rfl⟩
     case measure=>simp [intOf];omega
    ·have tn:(x != y)=true:=by simp;omega
     go_wp2
     go_quiet (fail)
     go_wp2;go_ret;exact zak rfl (fun h=>absurd (h.2 k hlt) (by rw [← HX.out,← HY.out];exact heq)) (below_drewN (below_drewN (Below.refl _ _) _) _)
   ·have hkn:k=n:=by omega
    subst hkn;go_wp2;go_ret;exact zaC rfl ⟨rfl,HALL.out⟩ (below_drewN (Below.refl _ _) _)
 ·have tn:((n:Int) != (m:Int))=true:=by simp;omega
  clear hc hc2
  go_enter Tryz.func119,Tryz.ntmps119
  go_wp2;go_ret;exact zak rfl (fun h=>hnm h.1) (Below.refl _ _)
theorem zfr (v1 v2:Value) (n m:Nat) (f g:Nat→Nat) (h1 h2:Nat) (w:World) (r1:Rd w h1 v1 n f) (r2:Rd w h2 v2 m g) :
 Calls Tryz.prog 136 #[v1,v2] w (zaT (ze5 n m f g) w):=by
 obtain ⟨ao,cap,rfl,hm,hc⟩:=r1;obtain ⟨ao2,cap2,rfl,hm2,hc2⟩:=r2;unfold maxLen at hm hm2
 by_cases hnm:n=m
 ·subst hnm
  go_enter Tryz.func136,Tryz.ntmps136
  go_wp2
  go_loopw [13] (fun i wr=>∃ k:Nat,k≤n∧i=.int .i64 k∧(∀ i,i<k→f i=g i)∧∃ m,wr=w.drewN m) (fun i _=>n-(intOf i).toNat)
  case atStart=>exact ⟨0,Nat.zero_le _,rfl,fun i hi=>by omega,0,rfl⟩
  case round=>
   obtain ⟨k,hk,rfl,hall,q,rfl⟩:=hrel;have HALL:=hid hall;clear hall
   by_cases hlt:k<n
   ·obtain ⟨b,off,rfl,hblt,hcell⟩:=hc (by omega)
    obtain ⟨b2,off2,rfl,hblt2,hcell2⟩:=hc2 (by omega);have hck:w.cell? ⟨b,off+k,none⟩=some (.int .u8 (f k)):=hcell k hlt;have hck2:w.cell? ⟨b2,off2+k,none⟩=some (.int .u8 (g k)):=hcell2 k hlt;obtain ⟨x,hx⟩:∃ x,x=f k:=⟨_,rfl⟩;obtain ⟨y,hy⟩:∃ y,y=g k:=⟨_,rfl⟩;have HX:=hid hx;have HY:=hid hy;rw [← hx] at hck;rw [← hy] at hck2;clear hc hc2 hcell hcell2 hx hy
    by_cases heq:x=y
    ·subst heq
     go_wp2
     go_quiet (fail)
     go_wp2
     go_roundw
     case rel=>exact ⟨k+1,by omega,by go_num,fun i hi=>by
      by_cases c:i=k
      ·rw [c,← HX.out,← HY.out]
      ·exact HALL.out i (by omega),_,rfl⟩
     case measure=>simp [intOf];omega
    ·have tn:((x:Int) != (y:Int))=true:=by simp;omega
     go_wp2
     go_quiet (fail)
     go_wp2;go_ret;exact zak rfl (fun h=>absurd (h.2 k hlt) (by rw [← HX.out,← HY.out];exact heq)) (below_drewN (below_drewN (Below.refl _ _) _) _)
   ·have hkn:k=n:=by omega
    subst hkn;go_wp2;go_ret;exact zaC rfl ⟨rfl,HALL.out⟩ (below_drewN (Below.refl _ _) _)
 ·have tn:((n:Int) != (m:Int))=true:=by simp;omega
  clear hc hc2
  go_enter Tryz.func136,Tryz.ntmps136
  go_wp2;go_ret;exact zak rfl (fun h=>hnm h.1) (Below.refl _ _)
theorem ziS (v1 v2:Value) (n m:Nat) (f g:Nat→Int) (h1 h2:Nat) (w:World) (r1:RdI w h1 v1 n f) (r2:RdI w h2 v2 m g) :
 Calls Tryz.prog 135 #[v1,v2] w (zaT (ziQ n m f g) w):=by
 obtain ⟨ao,cap,rfl,hm,hc⟩:=r1;obtain ⟨ao2,cap2,rfl,hm2,hc2⟩:=r2;unfold maxLen at hm hm2
 by_cases hnm:n=m
 ·subst hnm
  go_enter Tryz.func135,Tryz.ntmps135
  go_wp2
  go_loopw [13] (fun i wr=>∃ k:Nat,k≤n∧i=.int .i64 k∧(∀ i,i<k→f i=g i)∧∃ m,wr=w.drewN m) (fun i _=>n-(intOf i).toNat)
  case atStart=>exact ⟨0,Nat.zero_le _,rfl,fun i hi=>by omega,0,rfl⟩
  case round=>
   obtain ⟨k,hk,rfl,hall,q,rfl⟩:=hrel;have HALL:=hid hall;clear hall
   by_cases hlt:k<n
   ·obtain ⟨b,off,rfl,hblt,hcell⟩:=hc (by omega)
    obtain ⟨b2,off2,rfl,hblt2,hcell2⟩:=hc2 (by omega);have hck:w.cell? ⟨b,off+k,none⟩=some (.int .i64 (f k)):=hcell k hlt;have hck2:w.cell? ⟨b2,off2+k,none⟩=some (.int .i64 (g k)):=hcell2 k hlt;obtain ⟨x,hx⟩:∃ x,x=f k:=⟨_,rfl⟩;obtain ⟨y,hy⟩:∃ y,y=g k:=⟨_,rfl⟩;have HX:=hid hx;have HY:=hid hy;rw [← hx] at hck;rw [← hy] at hck2;clear hc hc2 hcell hcell2 hx hy
    by_cases heq:x=y
    ·subst heq
     go_wp2
     go_quiet (fail)
     go_wp2
     go_roundw
     case rel=>exact ⟨k+1,by omega,by go_num,fun i hi=>by
      by_cases c:i=k
      ·rw [c,← HX.out,← HY.out]
      ·exact HALL.out i (by omega),_,rfl⟩
     case measure=>simp [intOf];omega
    ·have tn:(x != y)=true:=by simp;omega
     go_wp2
     go_quiet (fail)
     go_wp2;go_ret;exact zak rfl (fun h=>absurd (h.2 k hlt) (by rw [← HX.out,← HY.out];exact heq)) (below_drewN (below_drewN (Below.refl _ _) _) _)
   ·have hkn:k=n:=by omega
    subst hkn;go_wp2;go_ret;exact zaC rfl ⟨rfl,HALL.out⟩ (below_drewN (Below.refl _ _) _)
 ·have tn:((n:Int) != (m:Int))=true:=by simp;omega
  clear hc hc2
  go_enter Tryz.func135,Tryz.ntmps135
  go_wp2;go_ret;exact zak rfl (fun h=>hnm h.1) (Below.refl _ _)
theorem toList_inj {a b:ByteArray}:a.toList=b.toList↔a=b:=by
 constructor
 ·intro h
  rw [ByteArray.toList_eq,ByteArray.toList_eq] at h
  cases a
  cases b
  congr
  exact Array.toList_inj.1 h
 ·intro h;rw [h]
structure SameR (a b:RecD):Prop where
 kind:a.kind=b.kind
 seq:a.seq=b.seq
 name:a.name=b.name
 length:a.length=b.length
 group:a.group=b.group
 row:a.row=b.row
 rows:ziQ a.rows.1 b.rows.1 a.rows.2 b.rows.2
 data:ze5 a.data.1 b.data.1 a.data.2 b.data.2
 delta:ze5 a.delta.1 b.delta.1 a.delta.2 b.delta.2
set_option maxRecDepth 20000 in
theorem zgI (a b:RecD) (c1 c2:List Value) (h1 h2:Nat) (w:World) (r1:zab.rd w h1 a c1) (r2:zab.rd w h2 b c2) (u1:h1≤w.heap.size) (u2:h2≤w.heap.size) :
 Calls Tryz.prog 92 #[.agg c1.toArray,.agg c2.toArray] w (zaT (SameR a b) w):=by
 obtain ⟨xo6,xc6,xo7,xc7,xo8,xc8,rfl,p6,p7,p8,-⟩:=zaw r1;obtain ⟨yo6,yc6,yo7,yc7,yo8,yc8,rfl,q6,q7,q8,-⟩:=zaw r2;obtain ⟨_,e,⟨p6,_⟩,_⟩:=p6
 cases e
 obtain ⟨_,e,⟨q6,_⟩,_⟩:=q6
 cases e
 obtain ⟨_,e,p7,_⟩:=p7
 cases e
 obtain ⟨_,e,q7,_⟩:=q7
 cases e
 obtain ⟨_,e,p8,_⟩:=p8
 cases e
 obtain ⟨_,e,q8,_⟩:=q8
 cases e
 clear r1 r2;have T0:=zaD w (rwR a xo6 xc6 xo7 xc7 xo8 xc8).toArray (rwR b yo6 yc6 yo7 yc7 yo8 yc8).toArray 83 83;have HT0:=hid T0;obtain ⟨e0,he0⟩:∃ t,(a.kind==b.kind)=t:=⟨_,rfl⟩
 have HE0:Hid (e0=true↔a.kind=b.kind):=by show _↔_;rw [← he0];exact beq_iff_eq
 obtain ⟨e1,he1⟩:∃ t,(a.seq==b.seq)=t:=⟨_,rfl⟩
 have HE1:Hid (e1=true↔a.seq=b.seq):=by show _↔_;rw [← he1];exact beq_iff_eq
 obtain ⟨e2,he2⟩:∃ t,(a.name.toList==b.name.toList)=t:=⟨_,rfl⟩
 have HE2:Hid (e2=true↔a.name=b.name):=by show _↔_;rw [← he2,beq_iff_eq];exact toList_inj
 have he2':decide (a.name.toList=b.name.toList)=e2:=by rw [← he2,Bool.eq_iff_iff];simp
 obtain ⟨e3,he3⟩:∃ t,(a.length==b.length)=t:=⟨_,rfl⟩
 have HE3:Hid (e3=true↔a.length=b.length):=by show _↔_;rw [← he3];exact beq_iff_eq
 obtain ⟨e4,he4⟩:∃ t,(a.group==b.group)=t:=⟨_,rfl⟩
 have HE4:Hid (e4=true↔a.group=b.group):=by show _↔_;rw [← he4];exact beq_iff_eq
 obtain ⟨e5,he5⟩:∃ t,(a.row==b.row)=t:=⟨_,rfl⟩
 have HE5:Hid (e5=true↔a.row=b.row):=by show _↔_;rw [← he5];exact beq_iff_eq
 obtain ⟨t6,ht6⟩:=exB (ziQ a.rows.1 b.rows.1 a.rows.2 b.rows.2);obtain ⟨t7,ht7⟩:=exB (ze5 a.data.1 b.data.1 a.data.2 b.data.2);obtain ⟨t8,ht8⟩:=exB (ze5 a.delta.1 b.delta.1 a.delta.2 b.delta.2);have C6:=fun (w':World) (hb:Below w.heap.size w w')=>zbb (ziR _ _ a.rows.1 b.rows.1 a.rows.2 b.rows.2 h1 h2 w' (p6.below hb u1) (q6.below hb u2)) ht6;have C7:=fun (w':World) (hb:Below w.heap.size w w')=>zbb (zfi _ _ a.data.1 b.data.1 a.data.2 b.data.2 h1 h2 w' (p7.below hb u1) (q7.below hb u2)) ht7;have C8:=fun (w':World) (hb:Below w.heap.size w w')=>zbb (zfi _ _ a.delta.1 b.delta.1 a.delta.2 b.delta.2 h1 h2 w' (p8.below hb u1) (q8.below hb u2)) ht8;have HT6:=hid ht6;have HT7:=hid ht7;have HT8:=hid ht8;clear p6 p7 p8 q6 q7 q8 ht6 ht7 ht8
 go_enter Tryz.func92,Tryz.ntmps92
 cases e0 with
 | false=>
  go_wp2;go_ret;exact zak rfl (fun h=>by have:=HE0.out.2 h.kind;simp at this) HT0.out.bel
 | true=>
 cases e1 with
 | false=>
  go_wp2;go_ret;exact zak rfl (fun h=>by have:=HE1.out.2 h.seq;simp at this) HT0.out.bel
 | true=>
 cases e2 with
 | false=>
  go_wp2;go_ret;exact zak rfl (fun h=>by have:=HE2.out.2 h.name;simp at this) HT0.out.bel
 | true=>
 cases e3 with
 | false=>
  go_wp2;go_ret;exact zak rfl (fun h=>by have:=HE3.out.2 h.length;simp at this) HT0.out.bel
 | true=>
 cases e4 with
 | false=>
  go_wp2;go_ret;exact zak rfl (fun h=>by have:=HE4.out.2 h.group;simp at this) HT0.out.bel
 | true=>
 cases e5 with
 | false=>
  go_wp2;go_ret;exact zak rfl (fun h=>by have:=HE5.out.2 h.row;simp at this) HT0.out.bel
 | true=>
 go_wp2_with fail
 refine (C6 _ HT0.out.bel).mono ?_;rintro e w6 ⟨rfl,b6⟩;have T6:=HT0.out.call b6
 cases t6 with
 | false=>
  have HB:=hid T6.bel;clear T6 b6;go_wp2;go_ret;exact zak rfl (fun h=>by have:=HT6.out.2 h.rows;simp at this) HB.out
 | true=>
 have x7:w6.cell? ⟨w.heap.size,7,none⟩=some (.slice xo7 a.data.1 xc7):=T6.b1.cell 7;have y7:w6.cell? ⟨w.heap.size+1,7,none⟩=some (.slice yo7 b.data.1 yc7):=T6.b2.cell 7
 go_wp2_with fail
 refine (C7 _ T6.bel).mono ?_;rintro e w7 ⟨rfl,b7⟩;have T7:=T6.call b7
 cases t7 with
 | false=>
  have HB:=hid T7.bel;clear T7 b7;go_wp2;go_ret;exact zak rfl (fun h=>by have:=HT7.out.2 h.data;simp at this) HB.out
 | true=>
 have x8:w7.cell? ⟨w.heap.size,8,none⟩=some (.slice xo8 a.delta.1 xc8):=T7.b1.cell 8;have y8:w7.cell? ⟨w.heap.size+1,8,none⟩=some (.slice yo8 b.delta.1 yc8):=T7.b2.cell 8
 go_wp2_with fail
 refine (C8 _ T7.bel).mono ?_;rintro e w8 ⟨rfl,b8⟩;have T8:=T7.call b8
 cases t8 with
 | false=>
  have HB:=hid T8.bel;clear T8 b8;go_wp2;go_ret;exact zak rfl (fun h=>by have:=HT8.out.2 h.delta;simp at this) HB.out
 | true=>
 have HB:=hid T8.bel;clear T6 T7 T8 b6 b7 b8;go_wp2;go_ret;exact zaC rfl ⟨HE0.out.1 (by simp),HE1.out.1 (by simp),HE2.out.1 (by simp),HE3.out.1 (by simp),HE4.out.1 (by simp),HE5.out.1 (by simp),HT6.out.1 (by simp),HT7.out.1 (by simp),HT8.out.1 (by simp)⟩ HB.out
set_option maxRecDepth 20000 in
theorem zd9 (a b:RecD) (c1 c2:List Value) (h1 h2:Nat) (w:World) (r1:zab.rd w h1 a c1) (r2:zab.rd w h2 b c2) (u1:h1≤w.heap.size) (u2:h2≤w.heap.size) :
 Calls Tryz.prog 107 #[.agg c1.toArray,.agg c2.toArray] w (zaT (SameR a b) w):=by
 obtain ⟨xo6,xc6,xo7,xc7,xo8,xc8,rfl,p6,p7,p8,-⟩:=zaw r1;obtain ⟨yo6,yc6,yo7,yc7,yo8,yc8,rfl,q6,q7,q8,-⟩:=zaw r2;obtain ⟨_,e,⟨p6,_⟩,_⟩:=p6
 cases e
 obtain ⟨_,e,⟨q6,_⟩,_⟩:=q6
 cases e
 obtain ⟨_,e,p7,_⟩:=p7
 cases e
 obtain ⟨_,e,q7,_⟩:=q7
 cases e
 obtain ⟨_,e,p8,_⟩:=p8
 cases e
 obtain ⟨_,e,q8,_⟩:=q8
 cases e
 clear r1 r2;have T0:=zaD w (rwR a xo6 xc6 xo7 xc7 xo8 xc8).toArray (rwR b yo6 yc6 yo7 yc7 yo8 yc8).toArray 83 83;have HT0:=hid T0;obtain ⟨e0,he0⟩:∃ t,(a.kind==b.kind)=t:=⟨_,rfl⟩
 have HE0:Hid (e0=true↔a.kind=b.kind):=by show _↔_;rw [← he0];exact beq_iff_eq
 obtain ⟨e1,he1⟩:∃ t,(a.seq==b.seq)=t:=⟨_,rfl⟩
 have HE1:Hid (e1=true↔a.seq=b.seq):=by show _↔_;rw [← he1];exact beq_iff_eq
 obtain ⟨e2,he2⟩:∃ t,(a.name.toList==b.name.toList)=t:=⟨_,rfl⟩
 have HE2:Hid (e2=true↔a.name=b.name):=by show _↔_;rw [← he2,beq_iff_eq];exact toList_inj
 have he2':decide (a.name.toList=b.name.toList)=e2:=by rw [← he2,Bool.eq_iff_iff];simp
 obtain ⟨e3,he3⟩:∃ t,(a.length==b.length)=t:=⟨_,rfl⟩
 have HE3:Hid (e3=true↔a.length=b.length):=by show _↔_;rw [← he3];exact beq_iff_eq
 obtain ⟨e4,he4⟩:∃ t,(a.group==b.group)=t:=⟨_,rfl⟩
 have HE4:Hid (e4=true↔a.group=b.group):=by show _↔_;rw [← he4];exact beq_iff_eq
 obtain ⟨e5,he5⟩:∃ t,(a.row==b.row)=t:=⟨_,rfl⟩
 have HE5:Hid (e5=true↔a.row=b.row):=by show _↔_;rw [← he5];exact beq_iff_eq
 obtain ⟨t6,ht6⟩:=exB (ziQ a.rows.1 b.rows.1 a.rows.2 b.rows.2);obtain ⟨t7,ht7⟩:=exB (ze5 a.data.1 b.data.1 a.data.2 b.data.2);obtain ⟨t8,ht8⟩:=exB (ze5 a.delta.1 b.delta.1 a.delta.2 b.delta.2);have C6:=fun (w':World) (hb:Below w.heap.size w w')=>zbb (ziS _ _ a.rows.1 b.rows.1 a.rows.2 b.rows.2 h1 h2 w' (p6.below hb u1) (q6.below hb u2)) ht6;have C7:=fun (w':World) (hb:Below w.heap.size w w')=>zbb (zfr _ _ a.data.1 b.data.1 a.data.2 b.data.2 h1 h2 w' (p7.below hb u1) (q7.below hb u2)) ht7;have C8:=fun (w':World) (hb:Below w.heap.size w w')=>zbb (zfr _ _ a.delta.1 b.delta.1 a.delta.2 b.delta.2 h1 h2 w' (p8.below hb u1) (q8.below hb u2)) ht8;have HT6:=hid ht6;have HT7:=hid ht7;have HT8:=hid ht8;clear p6 p7 p8 q6 q7 q8 ht6 ht7 ht8;obtain ⟨nb,hnb⟩:∃ t,t=(e0&&(e1&&(e3&&(e4&&e5)))):=⟨_,rfl⟩;have HNB:=hid hnb;obtain ⟨lb,hlb⟩:∃ t,t=(t6&&(t7&&t8)):=⟨_,rfl⟩;have HLB:=hid hlb
 have HN:Hid (nb=true↔(a.kind=b.kind∧a.seq=b.seq∧a.length=b.length∧a.group=b.group∧a.row=b.row)):=by
  show _↔_
  rw [HNB.out,Bool.and_eq_true,Bool.and_eq_true,Bool.and_eq_true,Bool.and_eq_true,HE0.out,HE1.out,HE3.out,HE4.out,HE5.out]
 have HL:Hid (lb=true↔(ziQ a.rows.1 b.rows.1 a.rows.2 b.rows.2∧ze5 a.data.1 b.data.1 a.data.2 b.data.2∧ze5 a.delta.1 b.delta.1 a.delta.2 b.delta.2)):=by
  show _↔_
  rw [HLB.out,Bool.and_eq_true,Bool.and_eq_true,HT6.out,HT7.out,HT8.out]
 clear hnb hlb
 go_enter Tryz.func107,Tryz.ntmps107
 go_upto_region 1 with fail
 obtain ⟨W0,hW0⟩:∃ x,x=(w.alloc (.cells (rwR a xo6 xc6 xo7 xc7 xo8 xc8).toArray 83)).alloc (.cells (rwR b yo6 yc6 yo7 yc7 yo8 yc8).toArray 83):=⟨_,rfl⟩;rw [← hW0] at T0 HT0 ⊢;clear hW0;have x_0:W0.cell? ⟨w.heap.size,0,none⟩=some (.int .i64 a.kind):=T0.b1.cell 0;have x_1:W0.cell? ⟨w.heap.size,1,none⟩=some (.int .i64 a.seq):=T0.b1.cell 1;have x_2:W0.cell? ⟨w.heap.size,2,none⟩=some (.string a.name):=T0.b1.cell 2;have x_3:W0.cell? ⟨w.heap.size,3,none⟩=some (.int .i64 a.length):=T0.b1.cell 3;have x_4:W0.cell? ⟨w.heap.size,4,none⟩=some (.int .i64 a.group):=T0.b1.cell 4;have x_5:W0.cell? ⟨w.heap.size,5,none⟩=some (.int .i64 a.row):=T0.b1.cell 5;have x_6:W0.cell? ⟨w.heap.size,6,none⟩=some (.slice xo6 a.rows.1 xc6):=T0.b1.cell 6;have x_7:W0.cell? ⟨w.heap.size,7,none⟩=some (.slice xo7 a.data.1 xc7):=T0.b1.cell 7;have x_8:W0.cell? ⟨w.heap.size,8,none⟩=some (.slice xo8 a.delta.1 xc8):=T0.b1.cell 8;have y_0:W0.cell? ⟨w.heap.size+1,0,none⟩=some (.int .i64 b.kind):=T0.b2.cell 0;have y_1:W0.cell? ⟨w.heap.size+1,1,none⟩=some (.int .i64 b.seq):=T0.b2.cell 1;have y_2:W0.cell? ⟨w.heap.size+1,2,none⟩=some (.string b.name):=T0.b2.cell 2;have y_3:W0.cell? ⟨w.heap.size+1,3,none⟩=some (.int .i64 b.length):=T0.b2.cell 3;have y_4:W0.cell? ⟨w.heap.size+1,4,none⟩=some (.int .i64 b.group):=T0.b2.cell 4;have y_5:W0.cell? ⟨w.heap.size+1,5,none⟩=some (.int .i64 b.row):=T0.b2.cell 5;have y_6:W0.cell? ⟨w.heap.size+1,6,none⟩=some (.slice yo6 b.rows.1 yc6):=T0.b2.cell 6;have y_7:W0.cell? ⟨w.heap.size+1,7,none⟩=some (.slice yo7 b.data.1 yc7):=T0.b2.cell 7;have y_8:W0.cell? ⟨w.heap.size+1,8,none⟩=some (.slice yo8 b.delta.1 yc8):=T0.b2.cell 8;clear T0
 go_cut [5] (fun v wx=>v=.bool nb∧wx=W0)
 case first=>
  cases e0 with
  | false=>
   go_wp2
   go_meet
   exact ⟨by rw [HNB.out];simp,rfl⟩
  | true=>
  cases e1 with
  | false=>
   go_wp2
   go_meet
   exact ⟨by rw [HNB.out];simp,rfl⟩
  | true=>
  cases e3 with
  | false=>
   go_wp2
   go_meet
   exact ⟨by rw [HNB.out];simp,rfl⟩
  | true=>
  cases e4 with
  | false=>
   go_wp2
   go_meet
   exact ⟨by rw [HNB.out];simp,rfl⟩
  | true=>
  cases e5 with
  | false=>
   go_wp2
   go_meet
   exact ⟨by rw [HNB.out];simp,rfl⟩
  | true=>
  go_wp2
  go_meet
  exact ⟨by rw [HNB.out];simp,rfl⟩
 case rest=>
  obtain ⟨rfl,rfl⟩:=hcut;clear he0 he1 he3 he4 he5
  go_upto_region 2 with fail
  go_cut [6] (fun v wx=>v=.bool lb∧Below wc.heap.size wc wx)
  case first=>
   go_wp2_with fail
   refine (C6 _ HT0.out.bel).mono ?_;rintro e w6 ⟨rfl,b6⟩;have T6:=HT0.out.call b6;have B6:=hid b6
   cases t6 with
   | false=>
    clear T6 b6;go_wp2
    go_meet
    exact ⟨by rw [HLB.out];simp,B6.out⟩
   | true=>
   have x7':w6.cell? ⟨w.heap.size,7,none⟩=some (.slice xo7 a.data.1 xc7):=T6.b1.cell 7;have y7':w6.cell? ⟨w.heap.size+1,7,none⟩=some (.slice yo7 b.data.1 yc7):=T6.b2.cell 7
   go_wp2_with fail
   refine (C7 _ T6.bel).mono ?_;rintro e w7 ⟨rfl,b7⟩;have T7:=T6.call b7;have B7:=hid (B6.out.trans (b7.mono B6.out.size))
   cases t7 with
   | false=>
    clear T7 b7;go_wp2
    go_meet
    exact ⟨by rw [HLB.out];simp,B7.out⟩
   | true=>
   have x8':w7.cell? ⟨w.heap.size,8,none⟩=some (.slice xo8 a.delta.1 xc8):=T7.b1.cell 8;have y8':w7.cell? ⟨w.heap.size+1,8,none⟩=some (.slice yo8 b.delta.1 yc8):=T7.b2.cell 8
   go_wp2_with fail
   refine (C8 _ T7.bel).mono ?_;rintro e w8 ⟨rfl,b8⟩;have T8:=T7.call b8;have B8:=hid (B7.out.trans (b8.mono B7.out.size))
   cases t8 with
   | false=>
    clear T8 b8;go_wp2
    go_meet
    exact ⟨by rw [HLB.out];simp,B8.out⟩
   | true=>
   clear T6 T7 T8 b6 b7 b8;go_wp2
   go_meet
   exact ⟨by rw [HLB.out];simp,B8.out⟩
  case rest=>
   obtain ⟨rfl,b9⟩:=hcut;obtain ⟨w9,rfl⟩:∃ x,x=wc:=⟨_,rfl⟩;have T9:=HT0.out.call b9;have x2':w9.cell? ⟨w.heap.size,2,none⟩=some (.string a.name):=T9.b1.cell 2;have y2':w9.cell? ⟨w.heap.size+1,2,none⟩=some (.string b.name):=T9.b2.cell 2;have HB:=hid T9.bel;clear T9 b9
   cases nb with
   | false=>
    go_wp2;go_ret;exact zak rfl (fun h=>by have:=HN.out.2 ⟨h.kind,h.seq,h.length,h.group,h.row⟩;simp at this) HB.out
   | true=>
   cases e2 with
   | false=>
    go_wp2;go_ret;exact zak rfl (fun h=>by have:=HE2.out.2 h.name;simp at this) HB.out
   | true=>
   cases lb with
   | false=>
    go_wp2;go_ret;exact zak rfl (fun h=>by have:=HL.out.2 ⟨h.rows,h.data,h.delta⟩;simp at this) HB.out
   | true=>
    have N:=HN.out.1 (by simp);have M:=HL.out.1 (by simp);have HY:Hid (SameR a b):=⟨N.1,N.2.1,HE2.out.1 (by simp),N.2.2.1,N.2.2.2.1,N.2.2.2.2,M.1,M.2.1,M.2.2⟩;clear N M;go_wp2;go_ret;exact zaC rfl HY.out HB.out
end Go.Proofs.YtajibninhikdgaaGreat
