/- The ledger takes a record: enter, by kinds. -/
import Derived.Test.YtmehgpcmoejfcaaGreatZPnextdak
set_option linter.unusedVariables false
set_option linter.unusedSimpArgs false
set_option maxHeartbeats 16000000
namespace Go.Proofs.YtmehgpcmoejfcaaGreat
open Go.RowKit F256
open Go.Maps (Keyed)
set_option maxRecDepth 20000 in
theorem zjV {w:World} {lo B:Nat} {s:Nat→Int} {k:Nat} {x:Nat→RecD} {ce:Nat→List Value} {v:Value} {b1 b2 b3 b4 b5:Nat} (h:Ldg w lo B s k k x ce v b1 b2 b3 b4 b5) (hk:k≤1000000) (hlo:lo≤w.heap.size)
 {r:RecD} {ao6 ao7 ao8:Option Addr} {cap6 cap7 cap8:Nat} (hx:x k=r) (hc:ce k=[.int .i64 r.kind,.int .i64 r.seq,.string r.name,.int .i64 r.length,.int .i64 r.group,.int .i64 r.row,.slice ao6 r.rows.1 cap6,.slice ao7 r.data.1 cap7,.slice ao8 r.delta.1 cap8]) (hkd:r.kind=1) (hn:r.name.size≤maxLen) (hs:-9223372036854775808≤r.seq∧r.seq≤9223372036854775807) (hg:-9223372036854775808≤r.group∧r.group≤9223372036854775807) (hw:-9223372036854775808≤r.row∧r.row≤9223372036854775807) :
 Calls Tryz.prog 126 #[.pointer (some ⟨B,0,none⟩),.iface 176 (.agg #[.int .i64 r.kind,.int .i64 r.seq,.string r.name,.int .i64 r.length,.int .i64 r.group,.int .i64 r.row,.slice ao6 r.rows.1 cap6,.slice ao7 r.data.1 cap7,.slice ao8 r.delta.1 cap8])] w fun e w'=>e=.returned (.tuple #[])∧(∃ v',Ldg w' lo B s (k+1) (k+1) x ce v' b1 b2 b3 b4 b5∧EntQ w w' v v' [B,b1,b2,b3,b4,b5])∧Below lo w w':=by
 have HX:=hid hx;have HC:=hid hc;have HKD:=hid hkd
 have HEV:Hid (entV (x k).kind (ce k)=.iface 176 (.agg (rwR r ao6 cap6 ao7 cap7 ao8 cap8).toArray)):=by
  show entV (x k).kind (ce k)=.iface 176 (.agg (rwR r ao6 cap6 ao7 cap7 ao8 cap8).toArray)
  unfold entV entT;rw [hx,hc]
  simp [hkd]
 clear hx hc hkd;obtain ⟨i0,hi,hz0,hz1,hz2⟩:=info_parts zdF;have HL:=hid h;obtain ⟨ao,cap,hv⟩:=zbH h.row;subst hv;have x9:w.cell? ⟨B,9,none⟩=some (.slice ao k cap):=h.box.cell 9;have O0:=h.row;clear h;have TA:=ta00;have bA:w.grownBy (w.alloc (.cells #[.iface 176 (.agg (rwR r ao6 cap6 ao7 cap7 ao8 cap8).toArray)] 159)) none:=World.grownBy_alloc _ _ _
 go_enter Tryz.func126,Tryz.ntmps126
 go_upto_region 4 with (at_builtin;refine wpList_append_own_at _ rfl _ _ 153 rfl lo 159 i0 .nilIface 1 16 Tryz.underlying153 hi hz0 hz1 hz2 rfl (by decide) _ _ _ rfl (O0.alloc _) ⟨w.heap.size,0,none⟩ 1 1 [.iface 176 (.agg (rwR r ao6 cap6 ao7 cap7 ao8 cap8).toArray)] rfl rfl (cell_one_new _ _ _) (fun u hu=>by simp at hu;subst hu;rfl) (by unfold maxLen;omega) (by omega) (by simp;omega) ?_;intro v' w1 O1 g1 hnil hloc;obtain ⟨ao',cap',rfl⟩:=zbH O1;have L1:=HL.out.grown bA g1;have z9:=L1.cell 9;have z9f:=L1.frozen 9;clear hnil)
 have L2:Ldg ((w1.setCell ⟨B,9,none⟩ (.slice ao' (k+1) cap')).alloc (.cells (rwR r ao6 cap6 ao7 cap7 ao8 cap8).toArray 176)) lo B s (k+1) k x ce (.slice ao' (k+1) cap') b1 b2 b3 b4 b5:=HL.out.laid g1 (by rw [HEV.out];exact O1) hloc
 have X2:Box ((w1.setCell ⟨B,9,none⟩ (.slice ao' (k+1) cap')).alloc (.cells (rwR r ao6 cap6 ao7 cap7 ao8 cap8).toArray 176)) w1.heap.size (rwR r ao6 cap6 ao7 cap7 ao8 cap8).toArray 176:=by
  have:=zan (w1.setCell ⟨B,9,none⟩ (.slice ao' (k+1) cap')) (rwR r ao6 cap6 ao7 cap7 ao8 cap8).toArray 176;rw [show (w1.setCell ⟨B,9,none⟩ (.slice ao' (k+1) cap')).heap.size=w1.heap.size by simp] at this;exact this
 have B2:Below lo w ((w1.setCell ⟨B,9,none⟩ (.slice ao' (k+1) cap')).alloc (.cells (rwR r ao6 cap6 ao7 cap7 ao8 cap8).toArray 176)):=by
  have q1:Below lo w w1:=zc3 HL.out g1 hlo;exact (q1.setCell HL.out.low.1 _).alloc (by have:=q1.size;simp;omega) _
 have A2:∀ b,b<w.heap.size→b≠B→(Value.slice ao k cap).ownBlock≠some b→((w1.setCell ⟨B,9,none⟩ (.slice ao' (k+1) cap')).alloc (.cells (rwR r ao6 cap6 ao7 cap7 ao8 cap8).toArray 176)).heap[b]?=w.heap[b]?:=fun b hb hB hv=>by
  have sz:w.heap.size+1≤w1.heap.size:=by have:=g1.size;simp at this;omega
  rw [Below.heap_alloc _ _ b (by simp;omega),heap_setCell_other w1 ⟨B,9,none⟩ b _ hB];exact zfn bA g1 hb (fun e=>hv e.symm)
 have HLO:Hid ((Value.slice ao' (k+1) cap').ownBlock=(Value.slice ao k cap).ownBlock∨∃ g,w.heap.size≤g∧(Value.slice ao' (k+1) cap').ownBlock=some g):=hloc.imp id (fun e=>⟨_,by simp,e⟩);obtain ⟨W2,hW2⟩:∃ y,y=((w1.setCell ⟨B,9,none⟩ (.slice ao' (k+1) cap')).alloc (.cells (rwR r ao6 cap6 ao7 cap7 ao8 cap8).toArray 176)):=⟨_,rfl⟩;rw [← hW2] at L2 X2 B2 A2 ⊢;clear hW2 TA  O0 O1 g1 hloc bA x9 z9 z9f L1 hi hz0 hz1 hz2;refine wp_region_still_tail 9 (by kernel_rfl) (by kernel_rfl) ?_;obtain ⟨WB,hWB⟩:∃ y:World,y={ W2 with drawn:=W2.drawn+1 }:=⟨_,rfl⟩
 have L3:Ldg WB lo B s (k+1) k x ce (.slice ao' (k+1) cap') b1 b2 b3 b4 b5:=by rw [hWB];exact L2.drawn _
 have X3:Box WB w1.heap.size (rwR r ao6 cap6 ao7 cap7 ao8 cap8).toArray 176:=by rw [hWB];exact X2
 have B3:Below lo w WB:=by rw [hWB];exact ⟨B2.os,B2.tape,B2.output,B2.size,B2.block⟩
 have HA3:Hid (∀ b,b<w.heap.size→b≠B→(Value.slice ao k cap).ownBlock≠some b→WB.heap[b]?=w.heap[b]?):=by rw [hWB];exact A2
 rw [← hWB];clear hWB L2 X2 B2 A2;have HL3:=hid L3;have HZ3:=hid B3.size;have HB3:=hid B3;have c0:WB.cell? ⟨w1.heap.size,0,none⟩=some (.int .i64 r.kind):=X3.cell 0;have c1:WB.cell? ⟨w1.heap.size,1,none⟩=some (.int .i64 r.seq):=X3.cell 1;have c2:WB.cell? ⟨w1.heap.size,2,none⟩=some (.string r.name):=X3.cell 2;have c3:WB.cell? ⟨w1.heap.size,3,none⟩=some (.int .i64 r.length):=X3.cell 3;have c4:WB.cell? ⟨w1.heap.size,4,none⟩=some (.int .i64 r.group):=X3.cell 4;have c5:WB.cell? ⟨w1.heap.size,5,none⟩=some (.int .i64 r.row):=X3.cell 5;have c6:WB.cell? ⟨w1.heap.size,6,none⟩=some (.slice ao6 r.rows.1 cap6):=X3.cell 6;have c7:WB.cell? ⟨w1.heap.size,7,none⟩=some (.slice ao7 r.data.1 cap7):=X3.cell 7;have c8:WB.cell? ⟨w1.heap.size,8,none⟩=some (.slice ao8 r.delta.1 cap8):=X3.cell 8;have d1:WB.cell? ⟨B,10,none⟩=some (.map (some b1)):=L3.box.cell 10;obtain ⟨kl,hkl⟩:=zk0 hn;obtain ⟨w',hrun,M,G,S⟩:=L3.m1.put keyS Tryz.underlying149 (by unfold maxLen;omega) hkl (.agg (rwR r ao6 cap6 ao7 cap7 ao8 cap8).toArray);have HM:=hid M;have HE:Hid (∀ b,b<WB.heap.size→b∉[b1]→w'.heap[b]?=WB.heap[b]?):=fun b hb hn=>G.block b hb (fun e=>by cases e;simp at hn);have HBE:Hid (Below lo w w'):=B3.trans ⟨G.os,G.tape,G.output,G.size,fun b hb=>G.block b (by have:=B3.size;omega) (fun e=>by cases e;have:=L3.low;omega)⟩;clear M G L3 X3 B3 hkl
 simp only [List.take_succ_cons,List.take_zero,List.drop_succ_cons,List.drop_zero]
 repeat still_step
 refine wpStill_nil ?_;go_wp2;refine bodyPost_end (v:=.tuple #[]) (by simp [results,Tryz.results126]) rfl ?_
 exact ⟨rfl,⟨_,HL3.out.next (T:=[b1]) HE.out (fun b hb=>by simp at hb ⊢;omega) (by rw [show newF x ce (k+1)=putF (newF x ce k) (.string (x k).name) (.agg (ce k).toArray) from zfm (show (x k).kind=1 by rw [HX.out,HKD.out]),HX.out,HC.out];exact HM.out)
  (by rw [show movF x (k+1)=movF x k from zb1 (show ¬ (x k).kind=2 by rw [HX.out,HKD.out];decide)];exact (HL3.out.m2.block (HE.out b2 HL3.out.m2.lt (by have:=HL3.out.nd;simp at this ⊢;omega))).mono (Nat.le_succ k))
  (by rw [show donF x (k+1)=donF x k from zb1 (show ¬ (x k).kind=3 by rw [HX.out,HKD.out];decide)];exact (HL3.out.m3.block (HE.out b3 HL3.out.m3.lt (by have:=HL3.out.nd;simp at this ⊢;omega))).mono (Nat.le_succ k))
  (by rw [show endF x (k+1)=endF x k from zb1 (show ¬ (x k).kind=3 by rw [HX.out,HKD.out];decide)];exact (HL3.out.m4.block (HE.out b4 HL3.out.m4.lt (by have:=HL3.out.nd;simp at this ⊢;omega))).mono (Nat.le_succ k))
  (by rw [show shaF x (k+1)=shaF x k from zb4 (show ¬ (x k).kind=4 by rw [HX.out,HKD.out];decide)];exact (HL3.out.m5.block (HE.out b5 HL3.out.m5.lt (by have:=HL3.out.nd;simp at this ⊢;omega))).mono (Nat.le_succ k)),⟨HLO.out,fun b hb hT hv=>(HE.out b (Nat.lt_of_lt_of_le hb HZ3.out) (fun q=>hT (by simp at q ⊢;omega))).trans (HA3.out b hb (fun e=>hT (by rw [e];simp)) hv)⟩⟩,HBE.out⟩
set_option maxRecDepth 20000 in
theorem zjW {w:World} {lo B:Nat} {s:Nat→Int} {k:Nat} {x:Nat→RecD} {ce:Nat→List Value} {v:Value} {b1 b2 b3 b4 b5:Nat} (h:Ldg w lo B s k k x ce v b1 b2 b3 b4 b5) (hk:k≤1000000) (hlo:lo≤w.heap.size)
 {r:RecD} {ao6 ao7 ao8:Option Addr} {cap6 cap7 cap8:Nat} (hx:x k=r) (hc:ce k=[.int .i64 r.kind,.int .i64 r.seq,.string r.name,.int .i64 r.length,.int .i64 r.group,.int .i64 r.row,.slice ao6 r.rows.1 cap6,.slice ao7 r.data.1 cap7,.slice ao8 r.delta.1 cap8]) (hkd:r.kind=2) (hn:r.name.size≤maxLen) (hs:-9223372036854775808≤r.seq∧r.seq≤9223372036854775807) (hg:-9223372036854775808≤r.group∧r.group≤9223372036854775807) (hw:-9223372036854775808≤r.row∧r.row≤9223372036854775807) :
 Calls Tryz.prog 126 #[.pointer (some ⟨B,0,none⟩),.iface 164 (.agg #[.int .i64 r.kind,.int .i64 r.seq,.string r.name,.int .i64 r.length,.int .i64 r.group,.int .i64 r.row,.slice ao6 r.rows.1 cap6,.slice ao7 r.data.1 cap7,.slice ao8 r.delta.1 cap8])] w fun e w'=>e=.returned (.tuple #[])∧(∃ v',Ldg w' lo B s (k+1) (k+1) x ce v' b1 b2 b3 b4 b5∧EntQ w w' v v' [B,b1,b2,b3,b4,b5])∧Below lo w w':=by
 have HX:=hid hx;have HC:=hid hc;have HKD:=hid hkd
 have HEV:Hid (entV (x k).kind (ce k)=.iface 164 (.agg (rwR r ao6 cap6 ao7 cap7 ao8 cap8).toArray)):=by
  show entV (x k).kind (ce k)=.iface 164 (.agg (rwR r ao6 cap6 ao7 cap7 ao8 cap8).toArray)
  unfold entV entT;rw [hx,hc]
  simp [hkd]
 clear hx hc hkd;obtain ⟨i0,hi,hz0,hz1,hz2⟩:=info_parts zdF;have HL:=hid h;obtain ⟨ao,cap,hv⟩:=zbH h.row;subst hv;have x9:w.cell? ⟨B,9,none⟩=some (.slice ao k cap):=h.box.cell 9;have O0:=h.row;clear h;have TA:=ta11;have TA0:=ta10;have bA:w.grownBy (w.alloc (.cells #[.iface 164 (.agg (rwR r ao6 cap6 ao7 cap7 ao8 cap8).toArray)] 159)) none:=World.grownBy_alloc _ _ _
 go_enter Tryz.func126,Tryz.ntmps126
 go_upto_region 7 with (at_builtin;refine wpList_append_own_at _ rfl _ _ 153 rfl lo 159 i0 .nilIface 1 16 Tryz.underlying153 hi hz0 hz1 hz2 rfl (by decide) _ _ _ rfl (O0.alloc _) ⟨w.heap.size,0,none⟩ 1 1 [.iface 164 (.agg (rwR r ao6 cap6 ao7 cap7 ao8 cap8).toArray)] rfl rfl (cell_one_new _ _ _) (fun u hu=>by simp at hu;subst hu;rfl) (by unfold maxLen;omega) (by omega) (by simp;omega) ?_;intro v' w1 O1 g1 hnil hloc;obtain ⟨ao',cap',rfl⟩:=zbH O1;have L1:=HL.out.grown bA g1;have z9:=L1.cell 9;have z9f:=L1.frozen 9;clear hnil)
 have L2:Ldg ((w1.setCell ⟨B,9,none⟩ (.slice ao' (k+1) cap')).alloc (.cells (rwR r ao6 cap6 ao7 cap7 ao8 cap8).toArray 164)) lo B s (k+1) k x ce (.slice ao' (k+1) cap') b1 b2 b3 b4 b5:=HL.out.laid g1 (by rw [HEV.out];exact O1) hloc
 have X2:Box ((w1.setCell ⟨B,9,none⟩ (.slice ao' (k+1) cap')).alloc (.cells (rwR r ao6 cap6 ao7 cap7 ao8 cap8).toArray 164)) w1.heap.size (rwR r ao6 cap6 ao7 cap7 ao8 cap8).toArray 164:=by
  have:=zan (w1.setCell ⟨B,9,none⟩ (.slice ao' (k+1) cap')) (rwR r ao6 cap6 ao7 cap7 ao8 cap8).toArray 164;rw [show (w1.setCell ⟨B,9,none⟩ (.slice ao' (k+1) cap')).heap.size=w1.heap.size by simp] at this;exact this
 have B2:Below lo w ((w1.setCell ⟨B,9,none⟩ (.slice ao' (k+1) cap')).alloc (.cells (rwR r ao6 cap6 ao7 cap7 ao8 cap8).toArray 164)):=by
  have q1:Below lo w w1:=zc3 HL.out g1 hlo;exact (q1.setCell HL.out.low.1 _).alloc (by have:=q1.size;simp;omega) _
 have A2:∀ b,b<w.heap.size→b≠B→(Value.slice ao k cap).ownBlock≠some b→((w1.setCell ⟨B,9,none⟩ (.slice ao' (k+1) cap')).alloc (.cells (rwR r ao6 cap6 ao7 cap7 ao8 cap8).toArray 164)).heap[b]?=w.heap[b]?:=fun b hb hB hv=>by
  have sz:w.heap.size+1≤w1.heap.size:=by have:=g1.size;simp at this;omega
  rw [Below.heap_alloc _ _ b (by simp;omega),heap_setCell_other w1 ⟨B,9,none⟩ b _ hB];exact zfn bA g1 hb (fun e=>hv e.symm)
 have HLO:Hid ((Value.slice ao' (k+1) cap').ownBlock=(Value.slice ao k cap).ownBlock∨∃ g,w.heap.size≤g∧(Value.slice ao' (k+1) cap').ownBlock=some g):=hloc.imp id (fun e=>⟨_,by simp,e⟩);obtain ⟨W2,hW2⟩:∃ y,y=((w1.setCell ⟨B,9,none⟩ (.slice ao' (k+1) cap')).alloc (.cells (rwR r ao6 cap6 ao7 cap7 ao8 cap8).toArray 164)):=⟨_,rfl⟩;rw [← hW2] at L2 X2 B2 A2 ⊢;clear hW2 TA TA0 O0 O1 g1 hloc bA x9 z9 z9f L1 hi hz0 hz1 hz2;refine wp_region_still_tail 10 (by kernel_rfl) (by kernel_rfl) ?_;obtain ⟨WB,hWB⟩:∃ y:World,y={ W2 with drawn:=W2.drawn+1 }:=⟨_,rfl⟩
 have L3:Ldg WB lo B s (k+1) k x ce (.slice ao' (k+1) cap') b1 b2 b3 b4 b5:=by rw [hWB];exact L2.drawn _
 have X3:Box WB w1.heap.size (rwR r ao6 cap6 ao7 cap7 ao8 cap8).toArray 164:=by rw [hWB];exact X2
 have B3:Below lo w WB:=by rw [hWB];exact ⟨B2.os,B2.tape,B2.output,B2.size,B2.block⟩
 have HA3:Hid (∀ b,b<w.heap.size→b≠B→(Value.slice ao k cap).ownBlock≠some b→WB.heap[b]?=w.heap[b]?):=by rw [hWB];exact A2
 rw [← hWB];clear hWB L2 X2 B2 A2;have HL3:=hid L3;have HZ3:=hid B3.size;have HB3:=hid B3;have c0:WB.cell? ⟨w1.heap.size,0,none⟩=some (.int .i64 r.kind):=X3.cell 0;have c1:WB.cell? ⟨w1.heap.size,1,none⟩=some (.int .i64 r.seq):=X3.cell 1;have c2:WB.cell? ⟨w1.heap.size,2,none⟩=some (.string r.name):=X3.cell 2;have c3:WB.cell? ⟨w1.heap.size,3,none⟩=some (.int .i64 r.length):=X3.cell 3;have c4:WB.cell? ⟨w1.heap.size,4,none⟩=some (.int .i64 r.group):=X3.cell 4;have c5:WB.cell? ⟨w1.heap.size,5,none⟩=some (.int .i64 r.row):=X3.cell 5;have c6:WB.cell? ⟨w1.heap.size,6,none⟩=some (.slice ao6 r.rows.1 cap6):=X3.cell 6;have c7:WB.cell? ⟨w1.heap.size,7,none⟩=some (.slice ao7 r.data.1 cap7):=X3.cell 7;have c8:WB.cell? ⟨w1.heap.size,8,none⟩=some (.slice ao8 r.delta.1 cap8):=X3.cell 8;have d2:WB.cell? ⟨B,11,none⟩=some (.map (some b2)):=L3.box.cell 11;obtain ⟨kl,hkl⟩:=zk1 hs;have hlook:=L3.m2.look keyI Tryz.underlying150 (ziZ _) hkl;have hcn:=zlN (fun i=>(x i).kind=2) (fun i=>.int .i64 (x i).seq) (.int .i64 r.seq) k;rw [show movF x k (.int .i64 r.seq)=cntF (fun i=>(x i).kind=2) (fun i=>.int .i64 (x i).seq) k (.int .i64 r.seq) from rfl,zgn] at hlook;obtain ⟨cn,hcn2⟩:∃ cn,cn=cN (fun i=>(x i).kind=2) (fun i=>.int .i64 (x i).seq) (.int .i64 r.seq) k:=⟨_,rfl⟩;have HCN:=hid hcn2;rw [← hcn2] at hlook hcn
 have hwr:IntKind.i64.wrap ((cn:Int)+1)=(cn:Int)+1:=by rw [IntKind.wrap_i64];omega
 obtain ⟨w',hrun,M,G,S⟩:=L3.m2.put keyI Tryz.underlying150 (by unfold maxLen;omega) hkl (.int .i64 ((cn:Int)+1));have HM:=hid M;have HE:Hid (∀ b,b<WB.heap.size→b∉[b2]→w'.heap[b]?=WB.heap[b]?):=fun b hb hn=>G.block b hb (fun e=>by cases e;simp at hn);have HBE:Hid (Below lo w w'):=B3.trans ⟨G.os,G.tape,G.output,G.size,fun b hb=>G.block b (by have:=B3.size;omega) (fun e=>by cases e;have:=L3.low;omega)⟩;clear M G L3 X3 B3 hkl hcn2
 simp only [List.take_succ_cons,List.take_zero,List.drop_succ_cons,List.drop_zero]
 repeat still_step
 refine wpStill_nil ?_;go_wp2;refine bodyPost_end (v:=.tuple #[]) (by simp [results,Tryz.results126]) rfl ?_
 exact ⟨rfl,⟨_,HL3.out.next (T:=[b2]) HE.out (fun b hb=>by simp at hb ⊢;omega) (by rw [show newF x ce (k+1)=newF x ce k from zb4 (show ¬ (x k).kind=1 by rw [HX.out,HKD.out];decide)];exact (HL3.out.m1.block (HE.out b1 HL3.out.m1.lt (by have:=HL3.out.nd;simp at this ⊢;omega))).mono (Nat.le_succ k))
  (by rw [show movF x (k+1)=putF (movF x k) (.int .i64 (x k).seq) (.int .i64 ((cN (fun i=>(x i).kind=2) (fun i=>.int .i64 (x i).seq) (.int .i64 (x k).seq) k:Int)+1)) from zgm (show (x k).kind=2 by rw [HX.out,HKD.out]),HX.out,← HCN.out];exact HM.out)
  (by rw [show donF x (k+1)=donF x k from zb1 (show ¬ (x k).kind=3 by rw [HX.out,HKD.out];decide)];exact (HL3.out.m3.block (HE.out b3 HL3.out.m3.lt (by have:=HL3.out.nd;simp at this ⊢;omega))).mono (Nat.le_succ k))
  (by rw [show endF x (k+1)=endF x k from zb1 (show ¬ (x k).kind=3 by rw [HX.out,HKD.out];decide)];exact (HL3.out.m4.block (HE.out b4 HL3.out.m4.lt (by have:=HL3.out.nd;simp at this ⊢;omega))).mono (Nat.le_succ k))
  (by rw [show shaF x (k+1)=shaF x k from zb4 (show ¬ (x k).kind=4 by rw [HX.out,HKD.out];decide)];exact (HL3.out.m5.block (HE.out b5 HL3.out.m5.lt (by have:=HL3.out.nd;simp at this ⊢;omega))).mono (Nat.le_succ k)),⟨HLO.out,fun b hb hT hv=>(HE.out b (Nat.lt_of_lt_of_le hb HZ3.out) (fun q=>hT (by simp at q ⊢;omega))).trans (HA3.out b hb (fun e=>hT (by rw [e];simp)) hv)⟩⟩,HBE.out⟩
set_option maxRecDepth 20000 in
theorem ziu {w:World} {lo B:Nat} {s:Nat→Int} {k:Nat} {x:Nat→RecD} {ce:Nat→List Value} {v:Value} {b1 b2 b3 b4 b5:Nat} (h:Ldg w lo B s k k x ce v b1 b2 b3 b4 b5) (hk:k≤1000000) (hlo:lo≤w.heap.size)
 {r:RecD} {ao6 ao7 ao8:Option Addr} {cap6 cap7 cap8:Nat} (hx:x k=r) (hc:ce k=[.int .i64 r.kind,.int .i64 r.seq,.string r.name,.int .i64 r.length,.int .i64 r.group,.int .i64 r.row,.slice ao6 r.rows.1 cap6,.slice ao7 r.data.1 cap7,.slice ao8 r.delta.1 cap8]) (hkd:r.kind=4) (hn:r.name.size≤maxLen) (hs:-9223372036854775808≤r.seq∧r.seq≤9223372036854775807) (hg:-9223372036854775808≤r.group∧r.group≤9223372036854775807) (hw:-9223372036854775808≤r.row∧r.row≤9223372036854775807) :
 Calls Tryz.prog 126 #[.pointer (some ⟨B,0,none⟩),.iface 165 (.agg #[.int .i64 r.kind,.int .i64 r.seq,.string r.name,.int .i64 r.length,.int .i64 r.group,.int .i64 r.row,.slice ao6 r.rows.1 cap6,.slice ao7 r.data.1 cap7,.slice ao8 r.delta.1 cap8])] w fun e w'=>e=.returned (.tuple #[])∧(∃ v',Ldg w' lo B s (k+1) (k+1) x ce v' b1 b2 b3 b4 b5∧EntQ w w' v v' [B,b1,b2,b3,b4,b5])∧Below lo w w':=by
 have HX:=hid hx;have HC:=hid hc;have HKD:=hid hkd
 have HEV:Hid (entV (x k).kind (ce k)=.iface 165 (.agg (rwR r ao6 cap6 ao7 cap7 ao8 cap8).toArray)):=by
  show entV (x k).kind (ce k)=.iface 165 (.agg (rwR r ao6 cap6 ao7 cap7 ao8 cap8).toArray)
  unfold entV entT;rw [hx,hc]
  simp [hkd]
 clear hx hc hkd;obtain ⟨i0,hi,hz0,hz1,hz2⟩:=info_parts zdF;have HL:=hid h;obtain ⟨ao,cap,hv⟩:=zbH h.row;subst hv;have x9:w.cell? ⟨B,9,none⟩=some (.slice ao k cap):=h.box.cell 9;have O0:=h.row;clear h;have TA:=ta33;have TA0:=ta30;have TA1:=ta31;have TA2:=ta32;have bA:w.grownBy (w.alloc (.cells #[.iface 165 (.agg (rwR r ao6 cap6 ao7 cap7 ao8 cap8).toArray)] 159)) none:=World.grownBy_alloc _ _ _
 go_enter Tryz.func126,Tryz.ntmps126
 go_upto_region 14 with (at_builtin;refine wpList_append_own_at _ rfl _ _ 153 rfl lo 159 i0 .nilIface 1 16 Tryz.underlying153 hi hz0 hz1 hz2 rfl (by decide) _ _ _ rfl (O0.alloc _) ⟨w.heap.size,0,none⟩ 1 1 [.iface 165 (.agg (rwR r ao6 cap6 ao7 cap7 ao8 cap8).toArray)] rfl rfl (cell_one_new _ _ _) (fun u hu=>by simp at hu;subst hu;rfl) (by unfold maxLen;omega) (by omega) (by simp;omega) ?_;intro v' w1 O1 g1 hnil hloc;obtain ⟨ao',cap',rfl⟩:=zbH O1;have L1:=HL.out.grown bA g1;have z9:=L1.cell 9;have z9f:=L1.frozen 9;clear hnil)
 have L2:Ldg ((w1.setCell ⟨B,9,none⟩ (.slice ao' (k+1) cap')).alloc (.cells (rwR r ao6 cap6 ao7 cap7 ao8 cap8).toArray 165)) lo B s (k+1) k x ce (.slice ao' (k+1) cap') b1 b2 b3 b4 b5:=HL.out.laid g1 (by rw [HEV.out];exact O1) hloc
 have X2:Box ((w1.setCell ⟨B,9,none⟩ (.slice ao' (k+1) cap')).alloc (.cells (rwR r ao6 cap6 ao7 cap7 ao8 cap8).toArray 165)) w1.heap.size (rwR r ao6 cap6 ao7 cap7 ao8 cap8).toArray 165:=by
  have:=zan (w1.setCell ⟨B,9,none⟩ (.slice ao' (k+1) cap')) (rwR r ao6 cap6 ao7 cap7 ao8 cap8).toArray 165;rw [show (w1.setCell ⟨B,9,none⟩ (.slice ao' (k+1) cap')).heap.size=w1.heap.size by simp] at this;exact this
 have B2:Below lo w ((w1.setCell ⟨B,9,none⟩ (.slice ao' (k+1) cap')).alloc (.cells (rwR r ao6 cap6 ao7 cap7 ao8 cap8).toArray 165)):=by
  have q1:Below lo w w1:=zc3 HL.out g1 hlo;exact (q1.setCell HL.out.low.1 _).alloc (by have:=q1.size;simp;omega) _
 have A2:∀ b,b<w.heap.size→b≠B→(Value.slice ao k cap).ownBlock≠some b→((w1.setCell ⟨B,9,none⟩ (.slice ao' (k+1) cap')).alloc (.cells (rwR r ao6 cap6 ao7 cap7 ao8 cap8).toArray 165)).heap[b]?=w.heap[b]?:=fun b hb hB hv=>by
  have sz:w.heap.size+1≤w1.heap.size:=by have:=g1.size;simp at this;omega
  rw [Below.heap_alloc _ _ b (by simp;omega),heap_setCell_other w1 ⟨B,9,none⟩ b _ hB];exact zfn bA g1 hb (fun e=>hv e.symm)
 have HLO:Hid ((Value.slice ao' (k+1) cap').ownBlock=(Value.slice ao k cap).ownBlock∨∃ g,w.heap.size≤g∧(Value.slice ao' (k+1) cap').ownBlock=some g):=hloc.imp id (fun e=>⟨_,by simp,e⟩);obtain ⟨W2,hW2⟩:∃ y,y=((w1.setCell ⟨B,9,none⟩ (.slice ao' (k+1) cap')).alloc (.cells (rwR r ao6 cap6 ao7 cap7 ao8 cap8).toArray 165)):=⟨_,rfl⟩;rw [← hW2] at L2 X2 B2 A2 ⊢;clear hW2 TA TA0 TA1 TA2 O0 O1 g1 hloc bA x9 z9 z9f L1 hi hz0 hz1 hz2;refine wp_region_still_tail 17 (by kernel_rfl) (by kernel_rfl) ?_;obtain ⟨WB,hWB⟩:∃ y:World,y={ W2 with drawn:=W2.drawn+1 }:=⟨_,rfl⟩
 have L3:Ldg WB lo B s (k+1) k x ce (.slice ao' (k+1) cap') b1 b2 b3 b4 b5:=by rw [hWB];exact L2.drawn _
 have X3:Box WB w1.heap.size (rwR r ao6 cap6 ao7 cap7 ao8 cap8).toArray 165:=by rw [hWB];exact X2
 have B3:Below lo w WB:=by rw [hWB];exact ⟨B2.os,B2.tape,B2.output,B2.size,B2.block⟩
 have HA3:Hid (∀ b,b<w.heap.size→b≠B→(Value.slice ao k cap).ownBlock≠some b→WB.heap[b]?=w.heap[b]?):=by rw [hWB];exact A2
 rw [← hWB];clear hWB L2 X2 B2 A2;have HL3:=hid L3;have HZ3:=hid B3.size;have HB3:=hid B3;have c0:WB.cell? ⟨w1.heap.size,0,none⟩=some (.int .i64 r.kind):=X3.cell 0;have c1:WB.cell? ⟨w1.heap.size,1,none⟩=some (.int .i64 r.seq):=X3.cell 1;have c2:WB.cell? ⟨w1.heap.size,2,none⟩=some (.string r.name):=X3.cell 2;have c3:WB.cell? ⟨w1.heap.size,3,none⟩=some (.int .i64 r.length):=X3.cell 3;have c4:WB.cell? ⟨w1.heap.size,4,none⟩=some (.int .i64 r.group):=X3.cell 4;have c5:WB.cell? ⟨w1.heap.size,5,none⟩=some (.int .i64 r.row):=X3.cell 5;have c6:WB.cell? ⟨w1.heap.size,6,none⟩=some (.slice ao6 r.rows.1 cap6):=X3.cell 6;have c7:WB.cell? ⟨w1.heap.size,7,none⟩=some (.slice ao7 r.data.1 cap7):=X3.cell 7;have c8:WB.cell? ⟨w1.heap.size,8,none⟩=some (.slice ao8 r.delta.1 cap8):=X3.cell 8;have d5:WB.cell? ⟨B,14,none⟩=some (.map (some b5)):=L3.box.cell 14;obtain ⟨kl,hkl⟩:=zir hg hw;obtain ⟨w',hrun,M,G,S⟩:=L3.m5.put zlM Tryz.underlying152 (by unfold maxLen;omega) hkl (.int .i64 r.seq);have HM:=hid M;have HE:Hid (∀ b,b<WB.heap.size→b∉[b5]→w'.heap[b]?=WB.heap[b]?):=fun b hb hn=>G.block b hb (fun e=>by cases e;simp at hn);have HBE:Hid (Below lo w w'):=B3.trans ⟨G.os,G.tape,G.output,G.size,fun b hb=>G.block b (by have:=B3.size;omega) (fun e=>by cases e;have:=L3.low;omega)⟩;clear M G L3 X3 B3 hkl
 simp only [List.take_succ_cons,List.take_zero,List.drop_succ_cons,List.drop_zero]
 repeat still_step
 refine wpStill_nil ?_;go_wp2;refine bodyPost_end (v:=.tuple #[]) (by simp [results,Tryz.results126]) rfl ?_
 exact ⟨rfl,⟨_,HL3.out.next (T:=[b5]) HE.out (fun b hb=>by simp at hb ⊢;omega) (by rw [show newF x ce (k+1)=newF x ce k from zb4 (show ¬ (x k).kind=1 by rw [HX.out,HKD.out];decide)];exact (HL3.out.m1.block (HE.out b1 HL3.out.m1.lt (by have:=HL3.out.nd;simp at this ⊢;omega))).mono (Nat.le_succ k))
  (by rw [show movF x (k+1)=movF x k from zb1 (show ¬ (x k).kind=2 by rw [HX.out,HKD.out];decide)];exact (HL3.out.m2.block (HE.out b2 HL3.out.m2.lt (by have:=HL3.out.nd;simp at this ⊢;omega))).mono (Nat.le_succ k))
  (by rw [show donF x (k+1)=donF x k from zb1 (show ¬ (x k).kind=3 by rw [HX.out,HKD.out];decide)];exact (HL3.out.m3.block (HE.out b3 HL3.out.m3.lt (by have:=HL3.out.nd;simp at this ⊢;omega))).mono (Nat.le_succ k))
  (by rw [show endF x (k+1)=endF x k from zb1 (show ¬ (x k).kind=3 by rw [HX.out,HKD.out];decide)];exact (HL3.out.m4.block (HE.out b4 HL3.out.m4.lt (by have:=HL3.out.nd;simp at this ⊢;omega))).mono (Nat.le_succ k))
  (by rw [show shaF x (k+1)=putF (shaF x k) (.agg #[.int .i64 (x k).group,.int .i64 (x k).row]) (.int .i64 (x k).seq) from zfm (show (x k).kind=4 by rw [HX.out,HKD.out]),HX.out];exact HM.out),⟨HLO.out,fun b hb hT hv=>(HE.out b (Nat.lt_of_lt_of_le hb HZ3.out) (fun q=>hT (by simp at q ⊢;omega))).trans (HA3.out b hb (fun e=>hT (by rw [e];simp)) hv)⟩⟩,HBE.out⟩
set_option maxRecDepth 20000 in
theorem zjX {w:World} {lo B:Nat} {s:Nat→Int} {k:Nat} {x:Nat→RecD} {ce:Nat→List Value} {v:Value} {b1 b2 b3 b4 b5:Nat} (h:Ldg w lo B s k k x ce v b1 b2 b3 b4 b5) (hk:k≤1000000) (hlo:lo≤w.heap.size)
 {r:RecD} {ao6 ao7 ao8:Option Addr} {cap6 cap7 cap8:Nat} (hx:x k=r) (hc:ce k=[.int .i64 r.kind,.int .i64 r.seq,.string r.name,.int .i64 r.length,.int .i64 r.group,.int .i64 r.row,.slice ao6 r.rows.1 cap6,.slice ao7 r.data.1 cap7,.slice ao8 r.delta.1 cap8]) (hkd:r.kind=3) (hn:r.name.size≤maxLen) (hs:-9223372036854775808≤r.seq∧r.seq≤9223372036854775807) (hg:-9223372036854775808≤r.group∧r.group≤9223372036854775807) (hw:-9223372036854775808≤r.row∧r.row≤9223372036854775807) :
 Calls Tryz.prog 126 #[.pointer (some ⟨B,0,none⟩),.iface 177 (.agg #[.int .i64 r.kind,.int .i64 r.seq,.string r.name,.int .i64 r.length,.int .i64 r.group,.int .i64 r.row,.slice ao6 r.rows.1 cap6,.slice ao7 r.data.1 cap7,.slice ao8 r.delta.1 cap8])] w fun e w'=>e=.returned (.tuple #[])∧(∃ v',Ldg w' lo B s (k+1) (k+1) x ce v' b1 b2 b3 b4 b5∧EntQ w w' v v' [B,b1,b2,b3,b4,b5])∧Below lo w w':=by
 have HX:=hid hx;have HC:=hid hc;have HKD:=hid hkd
 have HEV:Hid (entV (x k).kind (ce k)=.iface 177 (.agg (rwR r ao6 cap6 ao7 cap7 ao8 cap8).toArray)):=by
  show entV (x k).kind (ce k)=.iface 177 (.agg (rwR r ao6 cap6 ao7 cap7 ao8 cap8).toArray)
  unfold entV entT;rw [hx,hc]
  simp [hkd]
 clear hx hc hkd;obtain ⟨i0,hi,hz0,hz1,hz2⟩:=info_parts zdF;have HL:=hid h;obtain ⟨ao,cap,hv⟩:=zbH h.row;subst hv;have x9:w.cell? ⟨B,9,none⟩=some (.slice ao k cap):=h.box.cell 9;have O0:=h.row;clear h;have TA:=ta22;have TA0:=ta20;have TA1:=ta21;have bA:w.grownBy (w.alloc (.cells #[.iface 177 (.agg (rwR r ao6 cap6 ao7 cap7 ao8 cap8).toArray)] 159)) none:=World.grownBy_alloc _ _ _
 go_enter Tryz.func126,Tryz.ntmps126
 go_upto_region 10 with (at_builtin;refine wpList_append_own_at _ rfl _ _ 153 rfl lo 159 i0 .nilIface 1 16 Tryz.underlying153 hi hz0 hz1 hz2 rfl (by decide) _ _ _ rfl (O0.alloc _) ⟨w.heap.size,0,none⟩ 1 1 [.iface 177 (.agg (rwR r ao6 cap6 ao7 cap7 ao8 cap8).toArray)] rfl rfl (cell_one_new _ _ _) (fun u hu=>by simp at hu;subst hu;rfl) (by unfold maxLen;omega) (by omega) (by simp;omega) ?_;intro v' w1 O1 g1 hnil hloc;obtain ⟨ao',cap',rfl⟩:=zbH O1;have L1:=HL.out.grown bA g1;have z9:=L1.cell 9;have z9f:=L1.frozen 9;clear hnil)
 have L2:Ldg ((w1.setCell ⟨B,9,none⟩ (.slice ao' (k+1) cap')).alloc (.cells (rwR r ao6 cap6 ao7 cap7 ao8 cap8).toArray 177)) lo B s (k+1) k x ce (.slice ao' (k+1) cap') b1 b2 b3 b4 b5:=HL.out.laid g1 (by rw [HEV.out];exact O1) hloc
 have X2:Box ((w1.setCell ⟨B,9,none⟩ (.slice ao' (k+1) cap')).alloc (.cells (rwR r ao6 cap6 ao7 cap7 ao8 cap8).toArray 177)) w1.heap.size (rwR r ao6 cap6 ao7 cap7 ao8 cap8).toArray 177:=by
  have:=zan (w1.setCell ⟨B,9,none⟩ (.slice ao' (k+1) cap')) (rwR r ao6 cap6 ao7 cap7 ao8 cap8).toArray 177;rw [show (w1.setCell ⟨B,9,none⟩ (.slice ao' (k+1) cap')).heap.size=w1.heap.size by simp] at this;exact this
 have B2:Below lo w ((w1.setCell ⟨B,9,none⟩ (.slice ao' (k+1) cap')).alloc (.cells (rwR r ao6 cap6 ao7 cap7 ao8 cap8).toArray 177)):=by
  have q1:Below lo w w1:=zc3 HL.out g1 hlo;exact (q1.setCell HL.out.low.1 _).alloc (by have:=q1.size;simp;omega) _
 have A2:∀ b,b<w.heap.size→b≠B→(Value.slice ao k cap).ownBlock≠some b→((w1.setCell ⟨B,9,none⟩ (.slice ao' (k+1) cap')).alloc (.cells (rwR r ao6 cap6 ao7 cap7 ao8 cap8).toArray 177)).heap[b]?=w.heap[b]?:=fun b hb hB hv=>by
  have sz:w.heap.size+1≤w1.heap.size:=by have:=g1.size;simp at this;omega
  rw [Below.heap_alloc _ _ b (by simp;omega),heap_setCell_other w1 ⟨B,9,none⟩ b _ hB];exact zfn bA g1 hb (fun e=>hv e.symm)
 have HLO:Hid ((Value.slice ao' (k+1) cap').ownBlock=(Value.slice ao k cap).ownBlock∨∃ g,w.heap.size≤g∧(Value.slice ao' (k+1) cap').ownBlock=some g):=hloc.imp id (fun e=>⟨_,by simp,e⟩);obtain ⟨W2,hW2⟩:∃ y,y=((w1.setCell ⟨B,9,none⟩ (.slice ao' (k+1) cap')).alloc (.cells (rwR r ao6 cap6 ao7 cap7 ao8 cap8).toArray 177)):=⟨_,rfl⟩;rw [← hW2] at L2 X2 B2 A2 ⊢;clear hW2 TA TA0 TA1 O0 O1 g1 hloc bA x9 z9 z9f L1 hi hz0 hz1 hz2;have L3:Ldg W2.drew lo B s (k+1) k x ce (.slice ao' (k+1) cap') b1 b2 b3 b4 b5:=L2.drawn _;have X3:Box W2.drew w1.heap.size (rwR r ao6 cap6 ao7 cap7 ao8 cap8).toArray 177:=X2;have B3:Below lo w W2.drew:=⟨B2.os,B2.tape,B2.output,B2.size,B2.block⟩;have HA3:=hid A2;obtain ⟨kl,hkl⟩:=zjT hs hg;have hcn:=zlN (fun i=>(x i).kind=3) (fun i=>.agg #[.int .i64 (x i).seq,.int .i64 (x i).group]) (.agg #[.int .i64 r.seq,.int .i64 r.group]) k;have hget:(donF x k (.agg #[.int .i64 r.seq,.int .i64 r.group])).getD (.int .i64 0)=.int .i64 (cN (fun i=>(x i).kind=3) (fun i=>.agg #[.int .i64 (x i).seq,.int .i64 (x i).group]) (.agg #[.int .i64 r.seq,.int .i64 r.group]) k:Int):=zgn _ _ _ _;obtain ⟨cn,hcn2⟩:∃ cn,cn=cN (fun i=>(x i).kind=3) (fun i=>.agg #[.int .i64 (x i).seq,.int .i64 (x i).group]) (.agg #[.int .i64 r.seq,.int .i64 r.group]) k:=⟨_,rfl⟩;have HCN:=hid hcn2;rw [← hcn2] at hcn hget;have hlook:=L3.m3.look zmu Tryz.underlying151 (ziZ _) hkl;obtain ⟨st,w5,hent,z5,G5,hlk5,hst⟩:=L3.m3.entry zkZ Tryz.underlying151 (by unfold maxLen;omega) ziZ hkl;rw [hget] at hlook hent hlk5
 have hwr:IntKind.i64.wrap ((cn:Int)+1)=(cn:Int)+1:=by rw [IntKind.wrap_i64];omega
 obtain ⟨w6,hrun6,M6,G6,S6⟩:=hst (.int .i64 ((cn:Int)+1));have S3:(fun w'=>w'.cell? ⟨B,12,none⟩=some (.map (some b3))∧w'.cell? ⟨w1.heap.size,1,none⟩=some (.int .i64 r.seq)∧w'.cell? ⟨w1.heap.size,4,none⟩=some (.int .i64 r.group)∧(Instr.lookup 151 (.map (some b3)) (.agg #[.int .i64 r.seq,.int .i64 r.group]) false).run Tryz.prog w'=.ok (.int .i64 (cn:Int)) w') W2.drew:=⟨L3.box.cell 12,X3.cell 1,X3.cell 4,hlook⟩;have nb:∀ b,b<W2.drew.heap.size→b≠b3→w5.heap[b]?=W2.drew.heap[b]?:=fun b hb hn=>G5.block b hb (fun e=>hn (by cases e;rfl))
 have nB:B≠b3:=fun e=>by have:=L3.nd;simp at this;omega
 have nX:w1.heap.size≠b3:=fun e=>by
  obtain ⟨D,⟨es,clock,q1,_⟩,_⟩:=L3.m3;have:=X3;unfold Box at this;rw [e,q1] at this
  cases this
 have S5:(fun w'=>w'.cell? ⟨B,12,none⟩=some (.map (some b3))∧w'.cell? ⟨w1.heap.size,1,none⟩=some (.int .i64 r.seq)∧w'.cell? ⟨w1.heap.size,4,none⟩=some (.int .i64 r.group)∧(Instr.lookup 151 (.map (some b3)) (.agg #[.int .i64 r.seq,.int .i64 r.group]) false).run Tryz.prog w'=.ok (.int .i64 (cn:Int)) w') w5:=⟨(World.cell?_of_block (w:=W2.drew) (nb B L3.box.lt nB)).trans (L3.box.cell 12),(World.cell?_of_block (w:=W2.drew) (nb _ X3.lt nX)).trans (X3.cell 1),(World.cell?_of_block (w:=W2.drew) (nb _ X3.lt nX)).trans (X3.cell 4),hlk5⟩;have HM3:=hid M6;have HE6:Hid (∀ b,b<W2.drew.heap.size→b≠b3→w6.heap[b]?=W2.drew.heap[b]?):=fun b hb hn=>G6.block b hb (fun e=>hn (by cases e;rfl));have HB6:Hid (Below lo w w6):=B3.trans ⟨G6.os,G6.tape,G6.output,G6.size,fun b hb=>G6.block b (by have:=B3.size;omega) (fun e=>by cases e;have:=L3.low;omega)⟩;have HX6:Hid (Box w6 w1.heap.size (rwR r ao6 cap6 ao7 cap7 ao8 cap8).toArray 177):=(HE6.out _ X3.lt nX).trans X3;have HY6:Hid (w6.cell? ⟨B,13,none⟩=some (.map (some b4))):=(World.cell?_of_block (w:=W2.drew) (HE6.out B L3.box.lt nB)).trans (L3.box.cell 13);have HM4:Hid (MapV w6 2 b4 k (endF x k)):=L3.m4.block (HE6.out b4 L3.m4.lt (fun e=>by have:=L3.nd;simp at this;omega));have HL3:=hid L3;have HZ3:=hid B3.size;clear M6 G6 G5 hst X3 B3 L3 hkl hcn2 hget nb nB nX L2 X2 B2 A2 hlook hlk5;refine zai 17 (fun w'=>w'.cell? ⟨B,12,none⟩=some (.map (some b3))∧w'.cell? ⟨w1.heap.size,1,none⟩=some (.int .i64 r.seq)∧w'.cell? ⟨w1.heap.size,4,none⟩=some (.int .i64 r.group)∧(Instr.lookup 151 (.map (some b3)) (.agg #[.int .i64 r.seq,.int .i64 r.group]) false).run Tryz.prog w'=.ok (.int .i64 (cn:Int)) w') zmZ S3 (fun hHeld=>?_);refine zmS 0 rfl ?_
 try simp only [Act.put,SL]
 refine zmS 1 rfl ?_
 try simp only [Act.put,SL]
 refine zmS 2 rfl ?_
 try simp only [Act.put,SL]
 refine zmT 3 rfl ?_
 try simp only [Act.put,SL]
 refine zmS 4 rfl ?_
 try simp only [Act.put,SL]
 refine zmS 5 rfl ?_
 try simp only [Act.put,SL]
 refine zmS 6 rfl ?_
 try simp only [Act.put,SL]
 refine zmT 7 rfl ?_
 try simp only [Act.put,SL]
 refine zmS 8 rfl ?_
 try simp only [Act.put,SL]
 refine zmS 9 rfl ?_
 try simp only [Act.put,SL]
 refine zmS 10 rfl ?_
 try simp only [Act.put,SL]
 refine zmT 11 rfl ?_
 try simp only [Act.put,SL]
 refine zmS 12 rfl ?_
 try simp only [Act.put,SL]
 refine zmT 13 rfl ?_
 try simp only [Act.put,SL]
 refine zmS 14 rfl ?_
 try simp only [Act.put,SL]
 refine zap (i:=15) (o:=_) rfl (by kernel_rfl) (fun KC hKC=>?_);refine zjU rfl 151 _ _ rfl b3 _ _ (by simp [Act.eval,Act.put]) (by simp [Act.eval,Act.put]) hent ?_;refine hKC _ _ S5 ?_;clear hKC KC
 try simp only [Act.put,SL]
 refine zaa (i:=16) (oi:=_) (v:=?_) rfl (by kernel_rfl) (fun _ _ _ h=>h) (Or.inl ⟨by kernel_rfl,?_⟩) S5 ?_
 rotate_left
 ·intro w' hSw;go_simp;try with_reducible rfl
 try simp only [Act.put,SL]
 refine zaj (i:=17) (o:=_) rfl (by kernel_rfl) (by kernel_rfl) (fun KC hKC=>?_);refine zis rfl 151 _ _ _ rfl b3 _ _ (by simp [Act.eval,Act.put]) (by simp [Act.eval,Act.put]) (by simp [Act.eval,Act.put]) hrun6 ?_;refine hKC _ _ ?_;clear hKC KC
 try simp only [Act.put,SL]
 refine zaf (by kernel_rfl) ?_ _;clear S5 S3 hHeld hent hrun6 z5
 go_upto_region 11 with fail
 refine wp_region_still_tail 10 (by kernel_rfl) (by kernel_rfl) ?_;obtain ⟨WB,hWB⟩:∃ y:World,y={ w6 with drawn:=w6.drawn+1 }:=⟨_,rfl⟩
 have M3:MapV WB 179 b3 (k+1) (putF (donF x k) (.agg #[.int .i64 r.seq,.int .i64 r.group]) (.int .i64 ((cn:Int)+1))):=by rw [hWB];exact HM3.out
 have M4:MapV WB 2 b4 k (endF x k):=by rw [hWB];exact HM4.out
 have X7:Box WB w1.heap.size (rwR r ao6 cap6 ao7 cap7 ao8 cap8).toArray 177:=by rw [hWB];exact HX6.out
 have d4:WB.cell? ⟨B,13,none⟩=some (.map (some b4)):=by rw [hWB];exact HY6.out
 have B7:Below lo w WB:=by rw [hWB];have q:=HB6.out;exact ⟨q.os,q.tape,q.output,q.size,q.block⟩
 have E7:∀ b,b<W2.drew.heap.size→b≠b3→WB.heap[b]?=W2.drew.heap[b]?:=by rw [hWB];exact HE6.out
 have Z7:WB.heap.size=W2.drew.heap.size:=by rw [hWB];exact S6
 rw [← hWB];clear hWB;have c0:WB.cell? ⟨w1.heap.size,0,none⟩=some (.int .i64 r.kind):=X7.cell 0;have c1:WB.cell? ⟨w1.heap.size,1,none⟩=some (.int .i64 r.seq):=X7.cell 1;have c2:WB.cell? ⟨w1.heap.size,2,none⟩=some (.string r.name):=X7.cell 2;have c3:WB.cell? ⟨w1.heap.size,3,none⟩=some (.int .i64 r.length):=X7.cell 3;have c4:WB.cell? ⟨w1.heap.size,4,none⟩=some (.int .i64 r.group):=X7.cell 4;have c5:WB.cell? ⟨w1.heap.size,5,none⟩=some (.int .i64 r.row):=X7.cell 5;have c6:WB.cell? ⟨w1.heap.size,6,none⟩=some (.slice ao6 r.rows.1 cap6):=X7.cell 6;have c7:WB.cell? ⟨w1.heap.size,7,none⟩=some (.slice ao7 r.data.1 cap7):=X7.cell 7;have c8:WB.cell? ⟨w1.heap.size,8,none⟩=some (.slice ao8 r.delta.1 cap8):=X7.cell 8;obtain ⟨kl,hkl⟩:=zk1 hs;have hlook:=M4.look keyI Tryz.underlying150 (ziZ _) hkl;have hdn:=zlN (fun i=>(x i).kind=3) (fun i=>.int .i64 (x i).seq) (.int .i64 r.seq) k;rw [show endF x k (.int .i64 r.seq)=cntF (fun i=>(x i).kind=3) (fun i=>.int .i64 (x i).seq) k (.int .i64 r.seq) from rfl,zgn] at hlook;obtain ⟨dn,hdn2⟩:∃ dn,dn=cN (fun i=>(x i).kind=3) (fun i=>.int .i64 (x i).seq) (.int .i64 r.seq) k:=⟨_,rfl⟩;have HDN:=hid hdn2;rw [← hdn2] at hlook hdn
 have hwd:IntKind.i64.wrap ((dn:Int)+1)=(dn:Int)+1:=by rw [IntKind.wrap_i64];omega
 obtain ⟨w',hrun,M,G,S⟩:=M4.put keyI Tryz.underlying150 (by unfold maxLen;omega) hkl (.int .i64 ((dn:Int)+1))
 have n34:b3≠b4:=fun e=>by have:=HL3.out.nd;simp at this;omega
 have HN3:Hid (MapV w' 179 b3 (k+1) (putF (donF x k) (.agg #[.int .i64 r.seq,.int .i64 r.group]) (.int .i64 ((cn:Int)+1)))):=M3.block (G.block b3 M3.lt (fun e=>n34 (by cases e;rfl)));have HN4:=hid M
 have HE:Hid (∀ b,b<W2.drew.heap.size→b∉[b3,b4]→w'.heap[b]?=W2.drew.heap[b]?):=fun b hb hn=>by
  simp at hn
  exact (G.block b (by rw [Z7];exact hb) (fun e=>hn.2 (by cases e;rfl))).trans (E7 b hb hn.1)
 have HBE:Hid (Below lo w w'):=B7.trans ⟨G.os,G.tape,G.output,G.size,fun b hb=>G.block b (by have:=B7.size;omega) (fun e=>by cases e;have:=HL3.out.low;omega)⟩;clear M G M3 M4 X7 B7 E7 hkl hdn2 HM3 HM4 HX6 HY6 HB6 HE6
 simp only [List.take_succ_cons,List.take_zero,List.drop_succ_cons,List.drop_zero]
 repeat still_step
 refine wpStill_nil ?_;go_wp2;refine bodyPost_end (v:=.tuple #[]) (by simp [results,Tryz.results126]) rfl ?_
 exact ⟨rfl,⟨_,HL3.out.next (T:=[b3,b4]) HE.out (fun b hb=>by simp at hb ⊢;omega)
  (by rw [show newF x ce (k+1)=newF x ce k from zb4 (show ¬ (x k).kind=1 by rw [HX.out,HKD.out];decide)];exact (HL3.out.m1.block (HE.out b1 HL3.out.m1.lt (by have:=HL3.out.nd;simp at this ⊢;omega))).mono (Nat.le_succ k))
  (by rw [show movF x (k+1)=movF x k from zb1 (show ¬ (x k).kind=2 by rw [HX.out,HKD.out];decide)];exact (HL3.out.m2.block (HE.out b2 HL3.out.m2.lt (by have:=HL3.out.nd;simp at this ⊢;omega))).mono (Nat.le_succ k))
  (by rw [show donF x (k+1)=putF (donF x k) (.agg #[.int .i64 (x k).seq,.int .i64 (x k).group]) (.int .i64 ((cN (fun i=>(x i).kind=3) (fun i=>.agg #[.int .i64 (x i).seq,.int .i64 (x i).group]) (.agg #[.int .i64 (x k).seq,.int .i64 (x k).group]) k:Int)+1)) from zgm (show (x k).kind=3 by rw [HX.out,HKD.out]),HX.out,← HCN.out];exact HN3.out)
  (by rw [show endF x (k+1)=putF (endF x k) (.int .i64 (x k).seq) (.int .i64 ((cN (fun i=>(x i).kind=3) (fun i=>.int .i64 (x i).seq) (.int .i64 (x k).seq) k:Int)+1)) from zgm (show (x k).kind=3 by rw [HX.out,HKD.out]),HX.out,← HDN.out];exact HN4.out)
  (by rw [show shaF x (k+1)=shaF x k from zb4 (show ¬ (x k).kind=4 by rw [HX.out,HKD.out];decide)];exact (HL3.out.m5.block (HE.out b5 HL3.out.m5.lt (by have:=HL3.out.nd;simp at this ⊢;omega))).mono (Nat.le_succ k)),⟨HLO.out,fun b hb hT hv=>(HE.out b (Nat.lt_of_lt_of_le hb HZ3.out) (fun q=>hT (by simp at q ⊢;omega))).trans (HA3.out b hb (fun e=>hT (by rw [e];simp)) hv)⟩⟩,HBE.out⟩
end Go.Proofs.YtmehgpcmoejfcaaGreat
namespace Go.Proofs.YtmehgpcmoejfcaaGreat
open Go.RowKit F256
def zjY (n m:Nat) (f g:Nat→Int):Prop:=n=m∧∀ i,i<n→f i=g i
theorem zjZ (v1 v2:Value) (n m:Nat) (f g:Nat→Int) (h1 h2:Nat) (w:World) (r1:RdI w h1 v1 n f) (r2:RdI w h2 v2 m g) :
 Calls Tryz.prog 137 #[v1,v2] w (zbj (zjY n m f g) w):=by
 obtain ⟨ao,cap,rfl,hm,hc⟩:=r1;obtain ⟨ao2,cap2,rfl,hm2,hc2⟩:=r2;unfold maxLen at hm hm2
 by_cases hnm:n=m
 ·subst hnm
  go_enter Tryz.func137,Tryz.ntmps137
  go_wp2
  go_loopw [5] (fun i wr=>∃ k:Nat,k≤n∧i=.int .i64 k∧(∀ i,i<k→f i=g i)∧∃ m,wr=w.drewN m) (fun i _=>n-(intOf i).toNat)
  case atStart=>exact ⟨0,Nat.zero_le _,rfl,fun i hi=>by omega,0,rfl⟩
  case round=>
   obtain ⟨k,hk,rfl,hall,q,rfl⟩:=hrel;have HALL:=hid hall;clear hall
   by_cases hlt:k<n
   ·obtain ⟨b,off,rfl,hblt,hcell⟩:=hc (by omega)
    obtain ⟨b2,off2,rfl,hblt2,hcell2⟩:=hc2 (by omega);have hck:w.cell? ⟨b,off+k,none⟩=some (.int .i64 (f k)):=hcell k hlt;have hck2:w.cell? ⟨b2,off2+k,none⟩=some (.int .i64 (g k)):=hcell2 k hlt;obtain ⟨x,hx⟩:∃ x,x=f k:=⟨_,rfl⟩;obtain ⟨y,hy⟩:∃ y,y=g k:=⟨_,rfl⟩;have HX:=hid hx;have HY:=hid hy;rw [← hx] at hck;rw [← hy] at hck2;clear hc hc2 hcell hcell2 hx hy
    by_cases heq:x=y
    ·subst heq
     go_wp2
     go_quiet (fail)
     go_wp2
     go_roundw
     case rel=>exact ⟨k+1,by omega,by go_num,fun i hi=>by
      by_cases c:i=k
      ·rw [c,← HX.out,← HY.out]
      ·exact HALL.out i (by omega),_,rfl⟩
     case measure=>simp [intOf];omega
    ·have tn:(x != y)=true:=by simp;omega
     go_wp2
     go_quiet (fail)
     go_wp2;go_ret;exact zaq rfl (fun h=>absurd (h.2 k hlt) (by rw [← HX.out,← HY.out];exact heq)) (below_drewN (below_drewN (Below.refl _ _) _) _)
   ·have hkn:k=n:=by omega
    subst hkn;go_wp2;go_ret;exact zaK rfl ⟨rfl,HALL.out⟩ (below_drewN (Below.refl _ _) _)
 ·have tn:((n:Int) != (m:Int))=true:=by simp;omega
  clear hc hc2
  go_enter Tryz.func137,Tryz.ntmps137
  go_wp2;go_ret;exact zaq rfl (fun h=>hnm h.1) (Below.refl _ _)
theorem zfV (v1 v2:Value) (n m:Nat) (f g:Nat→Nat) (h1 h2:Nat) (w:World) (r1:Rd w h1 v1 n f) (r2:Rd w h2 v2 m g) :
 Calls Tryz.prog 165 #[v1,v2] w (zbj (zfv n m f g) w):=by
 obtain ⟨ao,cap,rfl,hm,hc⟩:=r1;obtain ⟨ao2,cap2,rfl,hm2,hc2⟩:=r2;unfold maxLen at hm hm2
 by_cases hnm:n=m
 ·subst hnm
  go_enter Tryz.func165,Tryz.ntmps165
  go_wp2
  go_loopw [13] (fun i wr=>∃ k:Nat,k≤n∧i=.int .i64 k∧(∀ i,i<k→f i=g i)∧∃ m,wr=w.drewN m) (fun i _=>n-(intOf i).toNat)
  case atStart=>exact ⟨0,Nat.zero_le _,rfl,fun i hi=>by omega,0,rfl⟩
  case round=>
   obtain ⟨k,hk,rfl,hall,q,rfl⟩:=hrel;have HALL:=hid hall;clear hall
   by_cases hlt:k<n
   ·obtain ⟨b,off,rfl,hblt,hcell⟩:=hc (by omega)
    obtain ⟨b2,off2,rfl,hblt2,hcell2⟩:=hc2 (by omega);have hck:w.cell? ⟨b,off+k,none⟩=some (.int .u8 (f k)):=hcell k hlt;have hck2:w.cell? ⟨b2,off2+k,none⟩=some (.int .u8 (g k)):=hcell2 k hlt;obtain ⟨x,hx⟩:∃ x,x=f k:=⟨_,rfl⟩;obtain ⟨y,hy⟩:∃ y,y=g k:=⟨_,rfl⟩;have HX:=hid hx;have HY:=hid hy;rw [← hx] at hck;rw [← hy] at hck2;clear hc hc2 hcell hcell2 hx hy
    by_cases heq:x=y
    ·subst heq
     go_wp2
     go_quiet (fail)
     go_wp2
     go_roundw
     case rel=>exact ⟨k+1,by omega,by go_num,fun i hi=>by
      by_cases c:i=k
      ·rw [c,← HX.out,← HY.out]
      ·exact HALL.out i (by omega),_,rfl⟩
     case measure=>simp [intOf];omega
    ·have tn:((x:Int) != (y:Int))=true:=by simp;omega
     go_wp2
     go_quiet (fail)
     go_wp2;go_ret;exact zaq rfl (fun h=>absurd (h.2 k hlt) (by rw [← HX.out,← HY.out];exact heq)) (below_drewN (below_drewN (Below.refl _ _) _) _)
   ·have hkn:k=n:=by omega
    subst hkn;go_wp2;go_ret;exact zaK rfl ⟨rfl,HALL.out⟩ (below_drewN (Below.refl _ _) _)
 ·have tn:((n:Int) != (m:Int))=true:=by simp;omega
  clear hc hc2
  go_enter Tryz.func165,Tryz.ntmps165
  go_wp2;go_ret;exact zaq rfl (fun h=>hnm h.1) (Below.refl _ _)
theorem zj0 (v1 v2:Value) (n m:Nat) (f g:Nat→Int) (h1 h2:Nat) (w:World) (r1:RdI w h1 v1 n f) (r2:RdI w h2 v2 m g) :
 Calls Tryz.prog 164 #[v1,v2] w (zbj (zjY n m f g) w):=by
 obtain ⟨ao,cap,rfl,hm,hc⟩:=r1;obtain ⟨ao2,cap2,rfl,hm2,hc2⟩:=r2;unfold maxLen at hm hm2
 by_cases hnm:n=m
 ·subst hnm
  go_enter Tryz.func164,Tryz.ntmps164
  go_wp2
  go_loopw [13] (fun i wr=>∃ k:Nat,k≤n∧i=.int .i64 k∧(∀ i,i<k→f i=g i)∧∃ m,wr=w.drewN m) (fun i _=>n-(intOf i).toNat)
  case atStart=>exact ⟨0,Nat.zero_le _,rfl,fun i hi=>by omega,0,rfl⟩
  case round=>
   obtain ⟨k,hk,rfl,hall,q,rfl⟩:=hrel;have HALL:=hid hall;clear hall
   by_cases hlt:k<n
   ·obtain ⟨b,off,rfl,hblt,hcell⟩:=hc (by omega)
    obtain ⟨b2,off2,rfl,hblt2,hcell2⟩:=hc2 (by omega);have hck:w.cell? ⟨b,off+k,none⟩=some (.int .i64 (f k)):=hcell k hlt;have hck2:w.cell? ⟨b2,off2+k,none⟩=some (.int .i64 (g k)):=hcell2 k hlt;obtain ⟨x,hx⟩:∃ x,x=f k:=⟨_,rfl⟩;obtain ⟨y,hy⟩:∃ y,y=g k:=⟨_,rfl⟩;have HX:=hid hx;have HY:=hid hy;rw [← hx] at hck;rw [← hy] at hck2;clear hc hc2 hcell hcell2 hx hy
    by_cases heq:x=y
    ·subst heq
     go_wp2
     go_quiet (fail)
     go_wp2
     go_roundw
     case rel=>exact ⟨k+1,by omega,by go_num,fun i hi=>by
      by_cases c:i=k
      ·rw [c,← HX.out,← HY.out]
      ·exact HALL.out i (by omega),_,rfl⟩
     case measure=>simp [intOf];omega
    ·have tn:(x != y)=true:=by simp;omega
     go_wp2
     go_quiet (fail)
     go_wp2;go_ret;exact zaq rfl (fun h=>absurd (h.2 k hlt) (by rw [← HX.out,← HY.out];exact heq)) (below_drewN (below_drewN (Below.refl _ _) _) _)
   ·have hkn:k=n:=by omega
    subst hkn;go_wp2;go_ret;exact zaK rfl ⟨rfl,HALL.out⟩ (below_drewN (Below.refl _ _) _)
 ·have tn:((n:Int) != (m:Int))=true:=by simp;omega
  clear hc hc2
  go_enter Tryz.func164,Tryz.ntmps164
  go_wp2;go_ret;exact zaq rfl (fun h=>hnm h.1) (Below.refl _ _)
theorem toList_inj {a b:ByteArray}:a.toList=b.toList↔a=b:=by
 constructor
 ·intro h
  rw [ByteArray.toList_eq,ByteArray.toList_eq] at h
  cases a
  cases b
  congr
  exact Array.toList_inj.1 h
 ·intro h;rw [h]
structure SameR (a b:RecD):Prop where
 kind:a.kind=b.kind
 seq:a.seq=b.seq
 name:a.name=b.name
 length:a.length=b.length
 group:a.group=b.group
 row:a.row=b.row
 rows:zjY a.rows.1 b.rows.1 a.rows.2 b.rows.2
 data:zfv a.data.1 b.data.1 a.data.2 b.data.2
 delta:zfv a.delta.1 b.delta.1 a.delta.2 b.delta.2
set_option maxRecDepth 20000 in
theorem zhs (a b:RecD) (c1 c2:List Value) (h1 h2:Nat) (w:World) (r1:zab.rd w h1 a c1) (r2:zab.rd w h2 b c2) (u1:h1≤w.heap.size) (u2:h2≤w.heap.size) :
 Calls Tryz.prog 116 #[.agg c1.toArray,.agg c2.toArray] w (zbj (SameR a b) w):=by
 obtain ⟨xo6,xc6,xo7,xc7,xo8,xc8,rfl,p6,p7,p8,-⟩:=zaF r1;obtain ⟨yo6,yc6,yo7,yc7,yo8,yc8,rfl,q6,q7,q8,-⟩:=zaF r2;obtain ⟨_,e,⟨p6,_⟩,_⟩:=p6
 cases e
 obtain ⟨_,e,⟨q6,_⟩,_⟩:=q6
 cases e
 obtain ⟨_,e,p7,_⟩:=p7
 cases e
 obtain ⟨_,e,q7,_⟩:=q7
 cases e
 obtain ⟨_,e,p8,_⟩:=p8
 cases e
 obtain ⟨_,e,q8,_⟩:=q8
 cases e
 clear r1 r2;have T0:=zaN w (rwR a xo6 xc6 xo7 xc7 xo8 xc8).toArray (rwR b yo6 yc6 yo7 yc7 yo8 yc8).toArray 52 52;have HT0:=hid T0;obtain ⟨e0,he0⟩:∃ t,(a.kind==b.kind)=t:=⟨_,rfl⟩
 have HE0:Hid (e0=true↔a.kind=b.kind):=by show _↔_;rw [← he0];exact beq_iff_eq
 obtain ⟨e1,he1⟩:∃ t,(a.seq==b.seq)=t:=⟨_,rfl⟩
 have HE1:Hid (e1=true↔a.seq=b.seq):=by show _↔_;rw [← he1];exact beq_iff_eq
 obtain ⟨e2,he2⟩:∃ t,(a.name.toList==b.name.toList)=t:=⟨_,rfl⟩
 have HE2:Hid (e2=true↔a.name=b.name):=by show _↔_;rw [← he2,beq_iff_eq];exact toList_inj
 have he2':decide (a.name.toList=b.name.toList)=e2:=by rw [← he2,Bool.eq_iff_iff];simp
 obtain ⟨e3,he3⟩:∃ t,(a.length==b.length)=t:=⟨_,rfl⟩
 have HE3:Hid (e3=true↔a.length=b.length):=by show _↔_;rw [← he3];exact beq_iff_eq
 obtain ⟨e4,he4⟩:∃ t,(a.group==b.group)=t:=⟨_,rfl⟩
 have HE4:Hid (e4=true↔a.group=b.group):=by show _↔_;rw [← he4];exact beq_iff_eq
 obtain ⟨e5,he5⟩:∃ t,(a.row==b.row)=t:=⟨_,rfl⟩
 have HE5:Hid (e5=true↔a.row=b.row):=by show _↔_;rw [← he5];exact beq_iff_eq
 obtain ⟨t6,ht6⟩:=exB (zjY a.rows.1 b.rows.1 a.rows.2 b.rows.2);obtain ⟨t7,ht7⟩:=exB (zfv a.data.1 b.data.1 a.data.2 b.data.2);obtain ⟨t8,ht8⟩:=exB (zfv a.delta.1 b.delta.1 a.delta.2 b.delta.2);have C6:=fun (w':World) (hb:Below w.heap.size w w')=>zbB (zjZ _ _ a.rows.1 b.rows.1 a.rows.2 b.rows.2 h1 h2 w' (p6.below hb u1) (q6.below hb u2)) ht6;have C7:=fun (w':World) (hb:Below w.heap.size w w')=>zbB (zfI _ _ a.data.1 b.data.1 a.data.2 b.data.2 h1 h2 w' (p7.below hb u1) (q7.below hb u2)) ht7;have C8:=fun (w':World) (hb:Below w.heap.size w w')=>zbB (zfI _ _ a.delta.1 b.delta.1 a.delta.2 b.delta.2 h1 h2 w' (p8.below hb u1) (q8.below hb u2)) ht8;have HT6:=hid ht6;have HT7:=hid ht7;have HT8:=hid ht8;clear p6 p7 p8 q6 q7 q8 ht6 ht7 ht8
 go_enter Tryz.func116,Tryz.ntmps116
 cases e0 with
 | false=>
  go_wp2;go_ret;exact zaq rfl (fun h=>by have:=HE0.out.2 h.kind;simp at this) HT0.out.bel
 | true=>
 cases e1 with
 | false=>
  go_wp2;go_ret;exact zaq rfl (fun h=>by have:=HE1.out.2 h.seq;simp at this) HT0.out.bel
 | true=>
 cases e2 with
 | false=>
  go_wp2;go_ret;exact zaq rfl (fun h=>by have:=HE2.out.2 h.name;simp at this) HT0.out.bel
 | true=>
 cases e3 with
 | false=>
  go_wp2;go_ret;exact zaq rfl (fun h=>by have:=HE3.out.2 h.length;simp at this) HT0.out.bel
 | true=>
 cases e4 with
 | false=>
  go_wp2;go_ret;exact zaq rfl (fun h=>by have:=HE4.out.2 h.group;simp at this) HT0.out.bel
 | true=>
 cases e5 with
 | false=>
  go_wp2;go_ret;exact zaq rfl (fun h=>by have:=HE5.out.2 h.row;simp at this) HT0.out.bel
 | true=>
 go_wp2_with fail
 refine (C6 _ HT0.out.bel).mono ?_;rintro e w6 ⟨rfl,b6⟩;have T6:=HT0.out.call b6
 cases t6 with
 | false=>
  have HB:=hid T6.bel;clear T6 b6;go_wp2;go_ret;exact zaq rfl (fun h=>by have:=HT6.out.2 h.rows;simp at this) HB.out
 | true=>
 have x7:w6.cell? ⟨w.heap.size,7,none⟩=some (.slice xo7 a.data.1 xc7):=T6.b1.cell 7;have y7:w6.cell? ⟨w.heap.size+1,7,none⟩=some (.slice yo7 b.data.1 yc7):=T6.b2.cell 7
 go_wp2_with fail
 refine (C7 _ T6.bel).mono ?_;rintro e w7 ⟨rfl,b7⟩;have T7:=T6.call b7
 cases t7 with
 | false=>
  have HB:=hid T7.bel;clear T7 b7;go_wp2;go_ret;exact zaq rfl (fun h=>by have:=HT7.out.2 h.data;simp at this) HB.out
 | true=>
 have x8:w7.cell? ⟨w.heap.size,8,none⟩=some (.slice xo8 a.delta.1 xc8):=T7.b1.cell 8;have y8:w7.cell? ⟨w.heap.size+1,8,none⟩=some (.slice yo8 b.delta.1 yc8):=T7.b2.cell 8
 go_wp2_with fail
 refine (C8 _ T7.bel).mono ?_;rintro e w8 ⟨rfl,b8⟩;have T8:=T7.call b8
 cases t8 with
 | false=>
  have HB:=hid T8.bel;clear T8 b8;go_wp2;go_ret;exact zaq rfl (fun h=>by have:=HT8.out.2 h.delta;simp at this) HB.out
 | true=>
 have HB:=hid T8.bel;clear T6 T7 T8 b6 b7 b8;go_wp2;go_ret;exact zaK rfl ⟨HE0.out.1 (by simp),HE1.out.1 (by simp),HE2.out.1 (by simp),HE3.out.1 (by simp),HE4.out.1 (by simp),HE5.out.1 (by simp),HT6.out.1 (by simp),HT7.out.1 (by simp),HT8.out.1 (by simp)⟩ HB.out
set_option maxRecDepth 20000 in
theorem zht (a b:RecD) (c1 c2:List Value) (h1 h2:Nat) (w:World) (r1:zab.rd w h1 a c1) (r2:zab.rd w h2 b c2) (u1:h1≤w.heap.size) (u2:h2≤w.heap.size) :
 Calls Tryz.prog 159 #[.agg c1.toArray,.agg c2.toArray] w (zbj (SameR a b) w):=by
 obtain ⟨xo6,xc6,xo7,xc7,xo8,xc8,rfl,p6,p7,p8,-⟩:=zaF r1;obtain ⟨yo6,yc6,yo7,yc7,yo8,yc8,rfl,q6,q7,q8,-⟩:=zaF r2;obtain ⟨_,e,⟨p6,_⟩,_⟩:=p6
 cases e
 obtain ⟨_,e,⟨q6,_⟩,_⟩:=q6
 cases e
 obtain ⟨_,e,p7,_⟩:=p7
 cases e
 obtain ⟨_,e,q7,_⟩:=q7
 cases e
 obtain ⟨_,e,p8,_⟩:=p8
 cases e
 obtain ⟨_,e,q8,_⟩:=q8
 cases e
 clear r1 r2;have T0:=zaN w (rwR a xo6 xc6 xo7 xc7 xo8 xc8).toArray (rwR b yo6 yc6 yo7 yc7 yo8 yc8).toArray 52 52;have HT0:=hid T0;obtain ⟨e0,he0⟩:∃ t,(a.kind==b.kind)=t:=⟨_,rfl⟩
 have HE0:Hid (e0=true↔a.kind=b.kind):=by show _↔_;rw [← he0];exact beq_iff_eq
 obtain ⟨e1,he1⟩:∃ t,(a.seq==b.seq)=t:=⟨_,rfl⟩
 have HE1:Hid (e1=true↔a.seq=b.seq):=by show _↔_;rw [← he1];exact beq_iff_eq
 obtain ⟨e2,he2⟩:∃ t,(a.name.toList==b.name.toList)=t:=⟨_,rfl⟩
 have HE2:Hid (e2=true↔a.name=b.name):=by show _↔_;rw [← he2,beq_iff_eq];exact toList_inj
 have he2':decide (a.name.toList=b.name.toList)=e2:=by rw [← he2,Bool.eq_iff_iff];simp
 obtain ⟨e3,he3⟩:∃ t,(a.length==b.length)=t:=⟨_,rfl⟩
 have HE3:Hid (e3=true↔a.length=b.length):=by show _↔_;rw [← he3];exact beq_iff_eq
 obtain ⟨e4,he4⟩:∃ t,(a.group==b.group)=t:=⟨_,rfl⟩
 have HE4:Hid (e4=true↔a.group=b.group):=by show _↔_;rw [← he4];exact beq_iff_eq
 obtain ⟨e5,he5⟩:∃ t,(a.row==b.row)=t:=⟨_,rfl⟩
 have HE5:Hid (e5=true↔a.row=b.row):=by show _↔_;rw [← he5];exact beq_iff_eq
 obtain ⟨t6,ht6⟩:=exB (zjY a.rows.1 b.rows.1 a.rows.2 b.rows.2);obtain ⟨t7,ht7⟩:=exB (zfv a.data.1 b.data.1 a.data.2 b.data.2);obtain ⟨t8,ht8⟩:=exB (zfv a.delta.1 b.delta.1 a.delta.2 b.delta.2);have C6:=fun (w':World) (hb:Below w.heap.size w w')=>zbB (zj0 _ _ a.rows.1 b.rows.1 a.rows.2 b.rows.2 h1 h2 w' (p6.below hb u1) (q6.below hb u2)) ht6;have C7:=fun (w':World) (hb:Below w.heap.size w w')=>zbB (zfV _ _ a.data.1 b.data.1 a.data.2 b.data.2 h1 h2 w' (p7.below hb u1) (q7.below hb u2)) ht7;have C8:=fun (w':World) (hb:Below w.heap.size w w')=>zbB (zfV _ _ a.delta.1 b.delta.1 a.delta.2 b.delta.2 h1 h2 w' (p8.below hb u1) (q8.below hb u2)) ht8;have HT6:=hid ht6;have HT7:=hid ht7;have HT8:=hid ht8;clear p6 p7 p8 q6 q7 q8 ht6 ht7 ht8;obtain ⟨nb,hnb⟩:∃ t,t=(e0&&(e1&&(e3&&(e4&&e5)))):=⟨_,rfl⟩;have HNB:=hid hnb;obtain ⟨lb,hlb⟩:∃ t,t=(t6&&(t7&&t8)):=⟨_,rfl⟩;have HLB:=hid hlb
 have HN:Hid (nb=true↔(a.kind=b.kind∧a.seq=b.seq∧a.length=b.length∧a.group=b.group∧a.row=b.row)):=by
  show _↔_
  rw [HNB.out,Bool.and_eq_true,Bool.and_eq_true,Bool.and_eq_true,Bool.and_eq_true,HE0.out,HE1.out,HE3.out,HE4.out,HE5.out]
 have HL:Hid (lb=true↔(zjY a.rows.1 b.rows.1 a.rows.2 b.rows.2∧zfv a.data.1 b.data.1 a.data.2 b.data.2∧zfv a.delta.1 b.delta.1 a.delta.2 b.delta.2)):=by
  show _↔_
  rw [HLB.out,Bool.and_eq_true,Bool.and_eq_true,HT6.out,HT7.out,HT8.out]
 clear hnb hlb
 go_enter Tryz.func159,Tryz.ntmps159
 go_upto_region 1 with fail
 obtain ⟨W0,hW0⟩:∃ x,x=(w.alloc (.cells (rwR a xo6 xc6 xo7 xc7 xo8 xc8).toArray 52)).alloc (.cells (rwR b yo6 yc6 yo7 yc7 yo8 yc8).toArray 52):=⟨_,rfl⟩;rw [← hW0] at T0 HT0 ⊢;clear hW0;have x_0:W0.cell? ⟨w.heap.size,0,none⟩=some (.int .i64 a.kind):=T0.b1.cell 0;have x_1:W0.cell? ⟨w.heap.size,1,none⟩=some (.int .i64 a.seq):=T0.b1.cell 1;have x_2:W0.cell? ⟨w.heap.size,2,none⟩=some (.string a.name):=T0.b1.cell 2;have x_3:W0.cell? ⟨w.heap.size,3,none⟩=some (.int .i64 a.length):=T0.b1.cell 3;have x_4:W0.cell? ⟨w.heap.size,4,none⟩=some (.int .i64 a.group):=T0.b1.cell 4;have x_5:W0.cell? ⟨w.heap.size,5,none⟩=some (.int .i64 a.row):=T0.b1.cell 5;have x_6:W0.cell? ⟨w.heap.size,6,none⟩=some (.slice xo6 a.rows.1 xc6):=T0.b1.cell 6;have x_7:W0.cell? ⟨w.heap.size,7,none⟩=some (.slice xo7 a.data.1 xc7):=T0.b1.cell 7;have x_8:W0.cell? ⟨w.heap.size,8,none⟩=some (.slice xo8 a.delta.1 xc8):=T0.b1.cell 8;have y_0:W0.cell? ⟨w.heap.size+1,0,none⟩=some (.int .i64 b.kind):=T0.b2.cell 0;have y_1:W0.cell? ⟨w.heap.size+1,1,none⟩=some (.int .i64 b.seq):=T0.b2.cell 1;have y_2:W0.cell? ⟨w.heap.size+1,2,none⟩=some (.string b.name):=T0.b2.cell 2;have y_3:W0.cell? ⟨w.heap.size+1,3,none⟩=some (.int .i64 b.length):=T0.b2.cell 3;have y_4:W0.cell? ⟨w.heap.size+1,4,none⟩=some (.int .i64 b.group):=T0.b2.cell 4;have y_5:W0.cell? ⟨w.heap.size+1,5,none⟩=some (.int .i64 b.row):=T0.b2.cell 5;have y_6:W0.cell? ⟨w.heap.size+1,6,none⟩=some (.slice yo6 b.rows.1 yc6):=T0.b2.cell 6;have y_7:W0.cell? ⟨w.heap.size+1,7,none⟩=some (.slice yo7 b.data.1 yc7):=T0.b2.cell 7;have y_8:W0.cell? ⟨w.heap.size+1,8,none⟩=some (.slice yo8 b.delta.1 yc8):=T0.b2.cell 8;clear T0
 go_cut [5] (fun v wx=>v=.bool nb∧wx=W0)
 case first=>
  cases e0 with
  | false=>
   go_wp2
   go_meet
   exact ⟨by rw [HNB.out];simp,rfl⟩
  | true=>
  cases e1 with
  | false=>
   go_wp2
   go_meet
   exact ⟨by rw [HNB.out];simp,rfl⟩
  | true=>
  cases e3 with
  | false=>
   go_wp2
   go_meet
   exact ⟨by rw [HNB.out];simp,rfl⟩
  | true=>
  cases e4 with
  | false=>
   go_wp2
   go_meet
   exact ⟨by rw [HNB.out];simp,rfl⟩
  | true=>
  cases e5 with
  | false=>
   go_wp2
   go_meet
   exact ⟨by rw [HNB.out];simp,rfl⟩
  | true=>
  go_wp2
  go_meet
  exact ⟨by rw [HNB.out];simp,rfl⟩
 case rest=>
  obtain ⟨rfl,rfl⟩:=hcut;clear he0 he1 he3 he4 he5
  go_upto_region 2 with fail
  go_cut [6] (fun v wx=>v=.bool lb∧Below wc.heap.size wc wx)
  case first=>
   go_wp2_with fail
   refine (C6 _ HT0.out.bel).mono ?_;rintro e w6 ⟨rfl,b6⟩;have T6:=HT0.out.call b6;have B6:=hid b6
   cases t6 with
   | false=>
    clear T6 b6;go_wp2
    go_meet
    exact ⟨by rw [HLB.out];simp,B6.out⟩
   | true=>
   have x7':w6.cell? ⟨w.heap.size,7,none⟩=some (.slice xo7 a.data.1 xc7):=T6.b1.cell 7;have y7':w6.cell? ⟨w.heap.size+1,7,none⟩=some (.slice yo7 b.data.1 yc7):=T6.b2.cell 7
   go_wp2_with fail
   refine (C7 _ T6.bel).mono ?_;rintro e w7 ⟨rfl,b7⟩;have T7:=T6.call b7;have B7:=hid (B6.out.trans (b7.mono B6.out.size))
   cases t7 with
   | false=>
    clear T7 b7;go_wp2
    go_meet
    exact ⟨by rw [HLB.out];simp,B7.out⟩
   | true=>
   have x8':w7.cell? ⟨w.heap.size,8,none⟩=some (.slice xo8 a.delta.1 xc8):=T7.b1.cell 8;have y8':w7.cell? ⟨w.heap.size+1,8,none⟩=some (.slice yo8 b.delta.1 yc8):=T7.b2.cell 8
   go_wp2_with fail
   refine (C8 _ T7.bel).mono ?_;rintro e w8 ⟨rfl,b8⟩;have T8:=T7.call b8;have B8:=hid (B7.out.trans (b8.mono B7.out.size))
   cases t8 with
   | false=>
    clear T8 b8;go_wp2
    go_meet
    exact ⟨by rw [HLB.out];simp,B8.out⟩
   | true=>
   clear T6 T7 T8 b6 b7 b8;go_wp2
   go_meet
   exact ⟨by rw [HLB.out];simp,B8.out⟩
  case rest=>
   obtain ⟨rfl,b9⟩:=hcut;obtain ⟨w9,rfl⟩:∃ x,x=wc:=⟨_,rfl⟩;have T9:=HT0.out.call b9;have x2':w9.cell? ⟨w.heap.size,2,none⟩=some (.string a.name):=T9.b1.cell 2;have y2':w9.cell? ⟨w.heap.size+1,2,none⟩=some (.string b.name):=T9.b2.cell 2;have HB:=hid T9.bel;clear T9 b9
   cases nb with
   | false=>
    go_wp2;go_ret;exact zaq rfl (fun h=>by have:=HN.out.2 ⟨h.kind,h.seq,h.length,h.group,h.row⟩;simp at this) HB.out
   | true=>
   cases e2 with
   | false=>
    go_wp2;go_ret;exact zaq rfl (fun h=>by have:=HE2.out.2 h.name;simp at this) HB.out
   | true=>
   cases lb with
   | false=>
    go_wp2;go_ret;exact zaq rfl (fun h=>by have:=HL.out.2 ⟨h.rows,h.data,h.delta⟩;simp at this) HB.out
   | true=>
    have N:=HN.out.1 (by simp);have M:=HL.out.1 (by simp);have HY:Hid (SameR a b):=⟨N.1,N.2.1,HE2.out.1 (by simp),N.2.2.1,N.2.2.2.1,N.2.2.2.2,M.1,M.2.1,M.2.2⟩;clear N M;go_wp2;go_ret;exact zaK rfl HY.out HB.out
end Go.Proofs.YtmehgpcmoejfcaaGreat
namespace Go.Proofs.YtmehgpcmoejfcaaGreat
open Go.RowKit
section
variable {P:Program} {ops:Array Oper} {Q:Exit→Act→World→Prop} {md:Region.Mode} {S:World→Prop} {L:Nat}
theorem zgo {i:Nat} {oi:Oper} {v:Value} (hi:ops[i]?=some oi) (hsel:∀ (j:Nat) (o:Oper) cs b,ops[j]?=some o→o.op≠.select cs b)
 (hQ:∀ c a w,Q (.panic c) (a.put oi.dst v) w→Q (.panic c) a w) (hN:ops.size≤L) :
 ∀ (fuel:Nat) (listed:Array Bool) (a:Act) (w:World),zcX md ops listed→listed.size=ops.size→
  (∀ j oj,ops[j]?=some oj→j≠i→listed.getD j true=false→(∀ e∈oj.after,Region.binds md e=true→e.on≠i)→oi.apart ops oj=true)→
  i∈Region.ready md ops listed→YieldsIf P ops S oi v a→S w→
  zaV P md ops Q S L fuel (listed.setIfInBounds i true) (a.put oi.dst v) w→zaV P md ops Q S L (fuel+1) listed a w:=by
 intro fuel;have hil:i<ops.size:=(Array.getElem?_eq_some_iff.1 hi).1
 have hLi:L≠i:=by omega
 induction fuel with
 | zero=>
  intro listed a w _ _ _ hr hy hS H;refine ⟨fun h=>(by rw [h] at hr;cases hr),fun j hj=>?_⟩
  by_cases hji:j=i
  ·subst hji;exact hy.wpOp hi hS ⟨fun _=>hS,H⟩
  ·have:=ready_mono hj hji
   rw [H.1] at this
   cases this
 | succ fuel ih=>
  intro listed a w hcl hls hfree hr hy hS H;refine ⟨fun h=>(by rw [h] at hr;cases hr),fun j hj=>?_⟩
  by_cases hji:j=i
  ·subst hji;exact hy.wpOp hi hS ⟨fun _=>hS,H⟩
  ·have hjL:j≠L:=fun h=>by
    obtain ⟨_,oj,hoj,_⟩:=mem_ready.1 hj;have:=(Array.getElem?_eq_some_iff.1 hoj).1;omega
   have h1:=H.2 j (ready_mono hj hji);obtain ⟨hjun,oj,hoj,hall⟩:=mem_ready.1 hj
   have hnot:∀ e∈oj.after,Region.binds md e=true→e.on≠i:=fun e he hb heq=>by
    have h1:=hall e he hb;have h0:=zbe (mem_ready.1 hr).1;rw [heq,h0] at h1
    cases h1
   have h2:=wpOp_putIf hoj (hfree j oj hoj hji hjun hnot) (fun cs b=>hsel i oi cs b hi) (fun cs b=>hsel j oj cs b hoj) hQ hy h1
   have hfree':∀ k ok,ops[k]?=some ok→k≠i→(listed.setIfInBounds j true).getD k true=false→
    (∀ e∈ok.after,Region.binds md e=true→e.on≠i)→oi.apart ops ok=true:=fun k ok hk hki hun hno=>by
    refine hfree k ok hk hki ?_ hno
    by_cases hjk:j=k
    ·subst hjk;exact hjun
    ·rw [getD_set_ne true hjk] at hun;exact hun
   have hLn:(listed.setIfInBounds j true).getD L false=false:=by
    rw [getD_set_ne false hjL];rw [Array.getD_eq_getD_getElem?,Array.getElem?_eq_none (by omega)];rfl
   have hLn2:((listed.setIfInBounds i true).setIfInBounds j true).getD L false=false:=by
    rw [← Array.setIfInBounds_comm _ _ hji,getD_set_ne false (Ne.symm hLi)];exact hLn
   refine wpOp_mono (fun a' w' h3=>⟨fun _=>h3.2.1 hLn2,ih (listed.setIfInBounds j true) a' w' (zcY hcl hj) (by simp [hls]) hfree' (ready_mono hr (Ne.symm hji)) h3.1 (h3.2.1 hLn2) ?_⟩) h2;rw [Array.setIfInBounds_comm _ _ hji];exact h3.2.2
theorem zaC {i:Nat} {oi:Oper} {v:Value} {fuel:Nat} {listed:Array Bool} {a:Act} {w:World} (hi:ops[i]?=some oi)
 (hs:(Region.noSelect ops&&Region.free md ops listed i&&(Region.ready md ops listed).contains i&&decide (ops.size≤L)&&decide (listed.size=ops.size)&&zbQ md ops listed)=true)
 (hQ:∀ c a w,Q (.panic c) (a.put oi.dst v) w→Q (.panic c) a w) (hy:YieldsIf P ops S oi v a) (hS:S w)
 (h:zaV P md ops Q S L fuel (listed.setIfInBounds i true) (a.put oi.dst v) w):zaV P md ops Q S L (fuel+1) listed a w:=by
 simp only [Bool.and_eq_true,decide_eq_true_eq] at hs
 obtain ⟨⟨⟨⟨⟨h1,h2⟩,h3⟩,h4⟩,h5⟩,h6⟩:=hs;exact zgo hi (Region.noSelect_spec h1) hQ h4 fuel listed a w (zdk h6) h5 (Region.free_spec hi h2) (by simpa using h3) hy hS h
end
end Go.Proofs.YtmehgpcmoejfcaaGreat
namespace Go.Proofs.YtmehgpcmoejfcaaGreat
open Go.RowKit F256
noncomputable def zdo (p:Nat→Prop):Nat→Int
 | 0=>-1
 | k+1=>@ite _ (p k) (Classical.propDecidable _) (k:Int) (zdo p k)
theorem zcq {p:Nat→Prop} {k:Nat} (h:¬ p k):zdo p (k+1)=zdo p k:=if_neg h
theorem zec {p:Nat→Prop} {k:Nat} (h:p k):zdo p (k+1)=(k:Int):=if_pos h
theorem zdR (p:Nat→Prop):∀ k,zdo p k=-1∨∃ i:Nat,i<k∧zdo p k=(i:Int)∧p i
 | 0=>.inl rfl
 | k+1=>by
  by_cases h:p k
  ·exact .inr ⟨k,by omega,zec h,h⟩
  ·rw [zcq h]
   rcases zdR p k with e | ⟨i,h1,h2,h3⟩
   ·exact .inl e
   ·exact .inr ⟨i,by omega,h2,h3⟩
def itm (x:Nat→RecD) (nm:ByteArray) (i:Nat):Prop:=(x i).kind=1∧(x i).name=nm
theorem zgp (x:Nat→RecD) (ce:Nat→List Value) (nm:ByteArray):∀ N,(zdo (itm x nm) N=-1→newF x ce N (.string nm)=none)∧∀ i:Nat,zdo (itm x nm) N=(i:Int)→newF x ce N (.string nm)=some (.agg (ce i).toArray)
 | 0=>⟨fun _=>rfl,fun i h=>by have h':(-1:Int)=(i:Int):=h;omega⟩
 | N+1=>by
  have ih:=zgp x ce nm N;unfold newF at ih ⊢
  by_cases hk:(x N).kind=1
  ·rw [zfm hk]
   by_cases hn:(x N).name=nm
   ·rw [zec (show itm x nm N from ⟨hk,hn⟩),hn,zeb]
    exact ⟨fun h=>by omega,fun i h=>by
     obtain rfl:N=i:=by omega
     rfl⟩
   ·rw [zcq (fun h:itm x nm N=>hn h.2),zep _ _ (fun h=>hn (by cases h;rfl))]
    exact ih
  ·rw [zcq (fun h:itm x nm N=>hk h.1),zb4 hk]
   exact ih
set_option maxRecDepth 20000 in
theorem zhu (v:Value) (n:Nat) (x:Nat→RecD) (nm:ByteArray) (hi:Nat) (w:World) (h:(zab.slice 52).rd w hi (n,x) [v]) (hhi:hi≤w.heap.size) (hn:n≤1048576) :
 Calls Tryz.prog 87 #[v,.string nm] w (fun e w'=>e=.returned (.int .i64 (zdo (itm x nm) n))∧Below w.heap.size w w'):=by
 obtain ⟨ao,cap,e,hmm,hc⟩:=h
 obtain rfl:v=.slice ao n cap:=by simpa using e
 have HC:=hid hc;clear e hmm hc
 go_enter Tryz.func87,Tryz.ntmps87
 go_wp2
 go_loopw [5,6] (fun a z wr=>∃ k:Nat,k≤n∧z=.int .i64 k∧a=.int .i64 (zdo (itm x nm) k)∧Below w.heap.size w wr) (fun _ z _=>n-(intOf z).toNat)
 case atStart=>exact ⟨0,Nat.zero_le _,rfl,rfl,Below.refl _ _⟩
 case round=>
  obtain ⟨k,hk,rfl,rfl,hbl⟩:=hrel;have HB:=hid hbl;obtain ⟨at_,hat⟩:∃ a,a=zdo (itm x nm) k:=⟨_,rfl⟩;have HAT:=hid hat;rw [← hat];clear hat
  by_cases hlt:k<n
  ·obtain ⟨b,off,rfl,hbh,hel⟩:=HC.out (by omega)
   obtain ⟨ce,hy,hcell⟩:=zaJ (t:=52) hel hbl hhi hbh hlt;obtain ⟨ao6,cap6,ao7,cap7,ao8,cap8,rfl,-,-,-,-⟩:=zaF hy;obtain ⟨r,hr⟩:∃ r,r=x k:=⟨_,rfl⟩;have HRR:=hid hr;rw [← hr] at hcell
   have y0:wr.cell? ⟨b,off+k*9,none⟩=some (.int .i64 r.kind):=by have:=hcell 0 (by decide);exact this
   have y2:wr.cell? ⟨b,off+k*9+2,none⟩=some (.string r.name):=by have:=hcell 2 (by decide);exact this
   have i1:(0:Int)≤(k:Int):=by omega
   have i2:(k:Int)<(n:Int):=by omega
   clear hcell hel hy hr hbl
   by_cases c1:r.kind=1
   ·have d1:(r.kind==1)=true:=by simp [c1]
    have HC1:=hid c1;clear c1
    by_cases c2:r.name=nm
    ·have d2:(r.name.toList==nm.toList)=true:=by rw [beq_iff_eq,c2]
     have d3:decide (r.name.toList=nm.toList)=true:=decide_eq_true (by rw [c2])
     have d4:r.name.toList=nm.toList:=by rw [c2]
     have HC2:=hid c2;clear c2;go_wp2
     go_roundw
     case rel=>exact ⟨k+1,by omega,by go_num,(by rw [zec (show itm x nm k from ⟨by rw [← HRR.out];exact HC1.out,by rw [← HRR.out];exact HC2.out⟩)]),HB.out⟩
     case measure=>simp [intOf];omega
    ·have d2:(r.name.toList==nm.toList)=false:=by rw [beq_eq_false_iff_ne];exact fun h=>c2 (toList_inj.1 h)
     have d3:decide (r.name.toList=nm.toList)=false:=decide_eq_false (fun h=>c2 (toList_inj.1 h));have d4:¬ r.name.toList=nm.toList:=fun h=>c2 (toList_inj.1 h);have HC2:=hid c2;clear c2;go_wp2
     go_roundw
     case rel=>exact ⟨k+1,by omega,by go_num,(by rw [zcq (fun h:itm x nm k=>HC2.out (by rw [HRR.out];exact h.2)),← HAT.out]),HB.out⟩
     case measure=>simp [intOf];omega
   ·have d1:(r.kind==1)=false:=by simp [c1]
    have HC1:=hid c1;clear c1;go_wp2
    go_roundw
    case rel=>exact ⟨k+1,by omega,by go_num,(by rw [zcq (fun h:itm x nm k=>HC1.out (by rw [HRR.out];exact h.1)),← HAT.out]),HB.out⟩
    case measure=>simp [intOf];omega
  ·obtain rfl:k=n:=by omega
   rw [HAT.out];go_wp2;go_ret;exact ⟨rfl,HB.out⟩
theorem zdG {w:World} {hi:Nat} {r:RecD} {cs:List Value} (h:zab.rd w hi r cs):∀ v,v∈cs→v.oneCell'=true:=by
 obtain ⟨ao6,cap6,ao7,cap7,ao8,cap8,rfl,-⟩:=zaF h;intro v hv
 simp only [List.mem_cons,List.not_mem_nil,or_false] at hv
 rcases hv with rfl | rfl | rfl | rfl | rfl | rfl | rfl | rfl | rfl<;>rfl
theorem zk3:(Tryz.prog.info? 176).map (fun i=>(i.zero.map (·.cells),i.size))=some (some #[.int .i64 0,.int .i64 0,.string ⟨#[]⟩,.int .i64 0,.int .i64 0,.int .i64 0,.slice none 0 0,.slice none 0 0,.slice none 0 0],9):=by kernel_rfl
theorem zcy:(Tryz.prog.info? 52).map (·.size)=some 9:=by kernel_rfl
theorem zm0 (u:World):(zeroValue 176).run Tryz.prog u=.ok (.agg #[.int .i64 0,.int .i64 0,.string ⟨#[]⟩,.int .i64 0,.int .i64 0,.int .i64 0,.slice none 0 0,.slice none 0 0,.slice none 0 0]) u:=by kernel_rfl
theorem zmd {w:World} {b:Nat} {t:TypeId} {c:List Value} (h:Box w b c.toArray t):w.rangeAt b 0 c:=fun j v hv=>by
 rw [Nat.zero_add,h.cell j]
 simp only [List.getElem?_toArray]
 exact hv
theorem zhv {w:World} (b:Nat) (cs:Array Value):ChgL [b] w (w.setRow b cs):=
 ⟨rfl,rfl,rfl,by simp,fun k _ hn=>setRow_other w b k cs (fun h=>hn (by simp [h]))⟩
theorem zfD {ops:Array Oper} {o:Oper} {a:Act} {w:World} {K:Act→World→Prop} {Q:Exit→Act→World→Prop} {F:Prop} (T:TypeId) (x y:Operand) (ho:o.op=.store T x y) (hgd:o.guard=none) (b:Nat) (hx:a.eval x=.pointer (some ⟨b,0,none⟩)) {cs old:List Value} (hy:a.eval y=.agg cs.toArray) (hB:Box w b old.toArray T) {n:Nat} (hi:(Tryz.prog.info? T).map (·.size)=some n) (hl:cs.length=n) (hol:old.length=n) (h1:∀ v,v∈cs→v.oneCell'=true)
 (h:∀ w',Box w' b cs.toArray T→ChgL [b] w w'→w'.heap.size=w.heap.size→K (a.put o.dst undef) w'):if Region.wanted o (yielded ops a.tmps)=true then Oper.wp Tryz.prog o a w K Q else F:=by
 have hw:Region.wanted o (yielded ops a.tmps)=true:=by simp [Region.wanted,hgd]
 rw [if_pos hw];refine wp_store_row T x y ho b cs.toArray hx hy T old.toArray hB (by rw [hi];simp [hl]) (by simp [hl,hol]) (by simp;exact h1) ?_;exact h _ (setRow_heap w b _ cs.toArray T (0,0) hB) (zhv b _) (by simp)
end Go.Proofs.YtmehgpcmoejfcaaGreat
namespace Go.Proofs.YtmehgpcmoejfcaaGreat
open Go.RowKit Go.Maps Go.Sort F256
abbrev nmL (r:RecD):List UInt8:=r.name.data.toList
def LiveP (x:Nat→RecD) (N i:Nat):Prop:=i<N∧(x i).kind=1∧¬ (x i).length<0∧zdo (itm x (x i).name) N=(i:Int)
def Live (x:Nat→RecD) (N:Nat) (l:List Nat):Prop:=(∀ i,i∈l↔LiveP x N i)∧l.Pairwise (fun a b=>nmL (x a)<nmL (x b))
theorem Live.nodup {x:Nat→RecD} {N:Nat} {l:List Nat} (h:Live x N l):l.Nodup:=h.2.imp (fun {a b} hlt e=>by subst e;exact List.lt_irrefl _ hlt)
theorem Live.uniq {x:Nat→RecD} {N:Nat} {l m:List Nat} (h:Live x N l) (k:Live x N m):l=m:=by
 refine List.Perm.eq_of_pairwise (le:=fun a b=>nmL (x a)<nmL (x b)) (fun a b _ _ h1 h2=>absurd (List.lt_trans h1 h2) (List.lt_irrefl _)) h.2 k.2 ?_;exact (List.perm_ext_iff_of_nodup h.nodup k.nodup).2 (fun i=>by rw [h.1 i,k.1 i])
theorem Live.lt {x:Nat→RecD} {N:Nat} {l:List Nat} (h:Live x N l) {i:Nat} (hi:i∈l):i<N:=((h.1 i).1 hi).1
theorem zi0 {p:Nat→Prop}:∀ {k i:Nat},p i→i<k→(i:Int)≤zdo p k
 | 0,i,_,h=>by omega
 | k+1,i,hp,h=>by
  by_cases hk:p k
  ·rw [zec hk];omega
  ·rw [zcq hk]
   by_cases e:i=k
   ·subst e;exact absurd hp hk
   ·exact zi0 hp (by omega)
theorem ziv (b:ByteArray):(⟨b.data.toList.toArray⟩:ByteArray)=b:=by cases b;simp
section
variable {w:World} {b n:Nat} {D:DataW Value}
theorem zk4 (hown:w.ownsMap Tryz.prog 9 zfC b n D) (s:List UInt8):Maps.has D (.string s)=true↔s∈strKeys D:=by
 obtain ⟨es,rfl,hko⟩:=hown.keysOf
 have hk:∀ p∈es,∃ y,p.1=.string y:=fun p hp=>by
  obtain ⟨v,hv⟩:=hko p hp;obtain ⟨y,_,hy,_⟩:=Maps.keyOf_str Tryz.underlying9 hv;exact ⟨y,hy⟩
 rw [Maps.has_eq,List.any_eq_true]
 show _↔s∈es.map fun p=>strOf p.1
 rw [List.mem_map]
 constructor
 ·rintro ⟨p,hp',hs⟩
  obtain ⟨a,ha⟩:=hk p hp';rw [ha] at hs;exact ⟨p,hp',by rw [ha];simpa [Lit.sameKey,strOf] using hs⟩
 ·rintro ⟨p,hp',rfl⟩
  obtain ⟨a,ha⟩:=hk p hp';exact ⟨p,hp',by rw [ha];simp [Lit.sameKey,strOf]⟩
theorem zj1 (hown:w.ownsMap Tryz.prog 9 zfC b n D):(strKeys D).Nodup:=by
 obtain ⟨es,hD,hpw,_⟩:=hown.entries keyS;obtain ⟨es',hD',hko⟩:=hown.keysOf
 obtain rfl:es=es':=by rw [hD] at hD';simpa using hD'
 subst hD
 show (es.map fun p=>strOf p.1).Nodup
 refine List.pairwise_map.2 (hpw.imp_of_mem fun {p q} hp' hq' hne e=>hne ?_);obtain ⟨v,hv⟩:=hko p hp';obtain ⟨a,_,ha,_⟩:=Maps.keyOf_str Tryz.underlying9 hv;obtain ⟨v',hv'⟩:=hko q hq';obtain ⟨c,_,hc,_⟩:=Maps.keyOf_str Tryz.underlying9 hv';rw [ha,hc] at e ⊢;exact congrArg _ e
structure Names (x:Nat→RecD) (N:Nat) (ns:List (List UInt8)):Prop where
 rise:ns.Pairwise (·<·)
 at_:∀ s,s∈ns→s.length≤maxLen∧∃ i:Nat,i<N∧zdo (itm x ⟨s.toArray⟩) N=(i:Int)∧itm x ⟨s.toArray⟩ i
 all:∀ i,i<N→(x i).kind=1→nmL (x i)∈ns
theorem zlO {x:Nat→RecD} {ce:Nat→List Value} {N:Nat} (hown:w.ownsMap Tryz.prog 9 zfC b n D) (hf:∀ y l,keyOf Tryz.prog 9 y=some l→Maps.has D l=(newF x ce N y).isSome∧∀ z,D.atKey l (.held z)=.held ((newF x ce N y).getD z)) (hnm:∀ i,i<N→(x i).name.size≤maxLen) {ss:List (List UInt8)} (hS:ss.Perm (strKeys D)):Names x N (ss.mergeSort (fun x y=>decide (x≤y))):=by
 have tr:∀ a b c:List UInt8,leB a b=true→leB b c=true→leB a c=true:=fun a b c h1 h2=>by simp only [leB,decide_eq_true_eq] at *;exact List.le_trans h1 h2
 have tot:∀ a b:List UInt8,(leB a b||leB b a)=true:=fun a b=>by simp only [leB,Bool.or_eq_true,decide_eq_true_eq];exact List.le_total a b
 have hp:=(List.mergeSort_perm ss (fun x y=>decide (x≤y))).trans hS;have nd:(ss.mergeSort (fun x y=>decide (x≤y))).Nodup:=hp.nodup_iff.2 (zj1 hown);have pw:=List.pairwise_mergeSort (le:=leB) tr tot ss;refine ⟨?_,fun s hs=>?_,fun i hi hk=>?_⟩
 ·refine (pw.and nd).imp (fun {a c} h=>?_)
  obtain ⟨h1,h2⟩:=h
  simp only [leB,decide_eq_true_eq] at h1
  apply Classical.byContradiction
  intro hn;exact h2 (List.le_antisymm h1 (List.not_lt.1 hn))
 ·have hm:s∈strKeys D:=hp.mem_iff.1 hs
  have hl:=strKeys_le hown Tryz.underlying9 s hm;refine ⟨hl,?_⟩;have hk:=WideMaps.keyOf_string_mk (P:=Tryz.prog) (k:=9) Tryz.underlying9 (s:=⟨s.toArray⟩) (by show s.toArray.size≤maxLen;simpa using hl)
  have e:(⟨s.toArray⟩:ByteArray).data.toList=s:=by simp
  rw [e] at hk;have h1:=(hf _ _ hk).1;rw [(zk4 hown s).2 hm] at h1
  rcases zdR (itm x ⟨s.toArray⟩) N with e | ⟨i,q1,q2,q3⟩
  ·rw [(zgp x ce _ N).1 e] at h1
   cases h1
  ·exact ⟨i,q1,q2,q3⟩
 ·have hk1:=WideMaps.keyOf_string_mk (P:=Tryz.prog) (k:=9) Tryz.underlying9 (hnm i hi)
  have h1:=(hf _ _ hk1).1;have hge:=zi0 (p:=itm x (x i).name) ⟨hk,rfl⟩ hi
  rcases zdR (itm x (x i).name) N with e | ⟨j,q1,q2,q3⟩
  ·omega
  ·rw [(zgp x ce _ N).2 j q2] at h1
   exact hp.mem_iff.2 ((zk4 hown _).1 h1)
end
noncomputable def idx (x:Nat→RecD) (N:Nat) (s:List UInt8):Nat:=(zdo (itm x ⟨s.toArray⟩) N).toNat
noncomputable def lvL (x:Nat→RecD) (N:Nat) (ns:List (List UInt8)):List Nat:=(ns.map (idx x N)).filter (fun i=>decide ((x i).length≠-1))
theorem Names.idx_is {x:Nat→RecD} {N:Nat} {ns:List (List UInt8)} (h:Names x N ns) {s:List UInt8} (hs:s∈ns):idx x N s<N∧zdo (itm x ⟨s.toArray⟩) N=(idx x N s:Int)∧(x (idx x N s)).kind=1∧(x (idx x N s)).name=⟨s.toArray⟩:=by
 obtain ⟨_,i,h1,h2,h3⟩:=h.at_ s hs
 have e:idx x N s=i:=by unfold idx;rw [h2];rfl
 rw [e];exact ⟨h1,h2,h3⟩
theorem zmv {x:Nat→RecD} {N:Nat} {ns:List (List UInt8)} (h:Names x N ns) (hk:∀ i,i<N→(x i).kind=1→((x i).length<0↔(x i).length=-1)):Live x N (lvL x N ns):=by
 constructor
 ·intro i
  unfold lvL;rw [List.mem_filter,List.mem_map]
  constructor
  ·rintro ⟨⟨s,hs,rfl⟩,hl⟩
   obtain ⟨h1,h2,h3,h4⟩:=h.idx_is hs;refine ⟨h1,h3,fun c=>?_,by rw [h4];exact h2⟩;rw [(hk _ h1 h3).1 c] at hl
   simp at hl
  ·rintro ⟨h1,h2,h3,h4⟩
   refine ⟨⟨nmL (x i),h.all i h1 h2,?_⟩,by
    rw [decide_eq_true_eq]
    exact fun c=>h3 ((hk i h1 h2).2 c)⟩
   unfold idx;rw [ziv,h4];rfl
 ·unfold lvL
  refine List.Pairwise.filter _ (List.pairwise_map.2 (h.rise.imp_of_mem (fun {a c} ha hc hlt=>?_)));have ea:=(h.idx_is ha).2.2.2;have ec:=(h.idx_is hc).2.2.2
  show (x (idx x N a)).name.data.toList<(x (idx x N c)).name.data.toList
  rw [ea,ec]
  simpa using hlt
theorem zlP (x:Nat→RecD) (N:Nat) (ns:List (List UInt8)) (s:List UInt8):lvL x N (ns++[s])=lvL x N ns++(if (x (idx x N s)).length=-1 then [] else [idx x N s]):=by
 unfold lvL;rw [List.map_append,List.filter_append]
 congr 1
 by_cases c:(x (idx x N s)).length=-1
 ·simp [c]
 ·simp [c]
theorem zmw (x:Nat→RecD) (N:Nat) (ns:List (List UInt8)):(lvL x N ns).length≤ns.length:=by
 unfold lvL;have:=List.length_filter_le (fun i=>decide ((x i).length≠-1)) (ns.map (idx x N))
 simpa using this
end Go.Proofs.YtmehgpcmoejfcaaGreat
namespace Go.Proofs.YtmehgpcmoejfcaaGreat
open Go.RowKit F256
theorem zb5 {l:List Nat} {i:Nat} (h:i<l.length):l.getD i 0=l[i]:=by rw [List.getD_eq_getElem?_getD,List.getElem?_eq_getElem h];rfl
theorem SameR.trans {a b c:RecD} (h:SameR a b) (k:SameR b c):SameR a c:=by
 obtain ⟨h1,h2,h3,h4,h5,h6,⟨e7,h7⟩,⟨e8,h8⟩,⟨e9,h9⟩⟩:=h;obtain ⟨k1,k2,k3,k4,k5,k6,⟨f7,k7⟩,⟨f8,k8⟩,⟨f9,k9⟩⟩:=k;exact ⟨h1.trans k1,h2.trans k2,h3.trans k3,h4.trans k4,h5.trans k5,h6.trans k6,⟨e7.trans f7,fun i hi=>(h7 i hi).trans (k7 i (by omega))⟩,⟨e8.trans f8,fun i hi=>(h8 i hi).trans (k8 i (by omega))⟩,⟨e9.trans f9,fun i hi=>(h9 i hi).trans (k9 i (by omega))⟩⟩
theorem SameR.num {a b:RecD} (h:SameR a b):numC a b=0:=zdl.2 ⟨h.seq,h.kind,h.group⟩
def Fst (x0:Nat→RecD) (i:Nat):Prop:=∀ j,j<i→¬ SameR (x0 j) (x0 i)
theorem zk5 {x0:Nat→RecD}:∀ {i j:Nat},j<i→SameR (x0 j) (x0 i)→∃ j0,j0<i∧SameR (x0 j0) (x0 i)∧Fst x0 j0:=by
 intro i j
 induction j using Nat.strongRecOn with
 | _ j ih=>
  intro hj hs
  by_cases c:Fst x0 j
  ·exact ⟨j,hj,hs,c⟩
  ·obtain ⟨k,hk⟩:∃ k,¬ (k<j→¬ SameR (x0 k) (x0 j)):=Classical.not_forall.1 c
   have h1:k<j:=Classical.byContradiction fun h=>hk (fun h'=>absurd h' h);have h2:SameR (x0 k) (x0 j):=Classical.byContradiction fun h=>hk (fun _=>h);exact ih k h1 (by omega) (h2.trans hs)
theorem zm1 {lt:Nat→Nat→Prop} (O:Sym.Ord lt):∀ l l':List Nat,l.Pairwise lt→l'.Pairwise lt→(∀ i,i∈l↔i∈l')→l=l'
 | [],[],_,_,_=>rfl
 | [],b::t,_,_,h=>absurd ((h b).2 (by simp)) (by simp)
 | a::t,[],_,_,h=>absurd ((h a).1 (by simp)) (by simp)
 | a::s,b::t,h1,h2,h=>by
  obtain ⟨p1,p2⟩:=List.pairwise_cons.1 h1;obtain ⟨q1,q2⟩:=List.pairwise_cons.1 h2
  have e:a=b:=by
   rcases List.mem_cons.1 ((h a).1 (by simp)) with e | m
   ·exact e
   ·rcases List.mem_cons.1 ((h b).2 (by simp)) with e | m'
    ·exact e.symm
    ·exact absurd (O.trans (q1 a m) (p1 b m')) (O.irr _)
  subst e;rw [zm1 O s t p2 q2 (fun i=>⟨fun m=>?_,fun m=>?_⟩)]
  ·rcases List.mem_cons.1 ((h i).1 (List.mem_cons_of_mem _ m)) with e | m'
   ·subst e;exact absurd (p1 _ m) (O.irr _)
   ·exact m'
  ·rcases List.mem_cons.1 ((h i).2 (List.mem_cons_of_mem _ m)) with e | m'
   ·subst e;exact absurd (q1 _ m) (O.irr _)
   ·exact m'
structure Cnt (x0:Nat→RecD) (N:Nat) (l:List Nat):Prop where
 srt:l.Pairwise (numL x0)
 mem:∀ i,i∈l↔(i<N∧Fst x0 i)
theorem Cnt.uniq {x0:Nat→RecD} {N:Nat} {l l':List Nat} (h:Cnt x0 N l) (h':Cnt x0 N l'):l=l':=zm1 (zbA x0) l l' h.srt h'.srt fun i=>by rw [h.mem,h'.mem]
theorem Cnt.nil (x0:Nat→RecD):Cnt x0 0 []:=⟨List.Pairwise.nil,fun i=>by simp⟩
theorem Cnt.has {x0:Nat→RecD} {N:Nat} {l:List Nat} (h:Cnt x0 N l):(∃ o,o∈l∧SameR (x0 o) (x0 N))↔¬ Fst x0 N:=by
 constructor
 ·rintro ⟨o,ho,hs⟩ hf
  exact hf o ((h.mem o).1 ho).1 hs
 ·intro hf
  obtain ⟨k,hk⟩:∃ k,¬ (k<N→¬ SameR (x0 k) (x0 N)):=Classical.not_forall.1 hf;have h1:k<N:=Classical.byContradiction fun h=>hk (fun h'=>absurd h' h);have h2:SameR (x0 k) (x0 N):=Classical.byContradiction fun h=>hk (fun _=>h);obtain ⟨j0,a,b,c⟩:=zk5 h1 h2;exact ⟨j0,(h.mem j0).2 ⟨a,c⟩,b⟩
theorem Cnt.skip {x0:Nat→RecD} {N:Nat} {l:List Nat} (h:Cnt x0 N l) (hf:¬ Fst x0 N):Cnt x0 (N+1) l:=⟨h.srt,fun i=>by
 rw [h.mem]
 constructor
 ·rintro ⟨a,b⟩;exact ⟨by omega,b⟩
 ·rintro ⟨a,b⟩
  refine ⟨?_,b⟩
  by_cases c:i=N
  ·subst c;exact absurd b hf
  ·omega⟩
theorem Cnt.ins {x0:Nat→RecD} {N:Nat} {l:List Nat} (h:Cnt x0 N l) (hf:Fst x0 N) (at_:Nat) (ha:at_≤l.length)
 (hb:∀ k,at_≤k→k<l.length→numC (x0 N) (x0 (l.getD k 0))<0) (hs:at_=0∨¬ numC (x0 N) (x0 (l.getD (at_-1) 0))<0):Cnt x0 (N+1) (l.take at_++N::l.drop at_):=by
 have hD:∀ o,o∈l.drop at_→numL x0 N o:=fun o ho=>by
  obtain ⟨k,hk,rfl⟩:=List.mem_iff_getElem.1 ho;rw [List.getElem_drop]
  have hk':at_+k<l.length:=by rw [List.length_drop] at hk;omega
  have:=hb (at_+k) (by omega) hk';rw [zb5 hk'] at this;exact zfc this
 have hT:∀ o,o∈l.take at_→numL x0 o N:=fun o ho=>by
  obtain ⟨k,hk,rfl⟩:=List.mem_iff_getElem.1 ho;rw [List.getElem_take];rw [List.length_take] at hk
  have h1:at_-1<l.length:=by omega
  rcases hs with hs | hs
  ·omega
  ·rw [zb5 h1] at hs
   have hlt:l[at_-1]<N:=((h.mem _).1 (List.getElem_mem h1)).1;have hl:=zhe hlt hs
   by_cases c:k=at_-1
   ·subst c;exact hl
   ·exact (zbA x0).trans (List.pairwise_iff_getElem.1 h.srt k (at_-1) (by omega) h1 (by omega)) hl
 refine ⟨?_,fun i=>?_⟩
 ·rw [List.pairwise_append]
  refine ⟨h.srt.sublist (List.take_sublist _ _),List.pairwise_cons.2 ⟨hD,h.srt.sublist (List.drop_sublist _ _)⟩,fun a ha b hb=>?_⟩
  rcases List.mem_cons.1 hb with rfl | hb
  ·exact hT a ha
  ·exact (zbA x0).trans (hT a ha) (hD b hb)
 ·rw [List.mem_append,List.mem_cons]
  have e:i∈l↔(i∈l.take at_∨i∈l.drop at_):=by
   conv=>lhs;rw [← List.take_append_drop at_ l]
   exact List.mem_append
  have hm:=h.mem i;rw [e] at hm
  constructor
  ·rintro (a | rfl | a)
   ·have:=hm.1 (.inl a);exact ⟨by omega,this.2⟩
   ·exact ⟨by omega,hf⟩
   ·have:=hm.1 (.inr a);exact ⟨by omega,this.2⟩
  ·rintro ⟨a,b⟩
   by_cases c:i=N
   ·exact .inr (.inl c)
   ·rcases hm.2 ⟨by omega,b⟩ with a | a
    ·exact .inl a
    ·exact .inr (.inr a)
structure CntQ (x0:Nat→RecD) (q:Nat→Nat) (k:Nat) (l:List Nat):Prop where
 srt:l.Pairwise (numL x0)
 mem:∀ i,i∈l↔((∃ j,j<k∧q j=i)∧Fst x0 i)
theorem CntQ.nil (x0:Nat→RecD) (q:Nat→Nat):CntQ x0 q 0 []:=⟨List.Pairwise.nil,fun i=>by simp⟩
theorem zk6 {N:Nat} {q:Nat→Nat} (h:Sym.Re 0 N (fun i=>i) q) {i:Nat} (hi:i<N):∃ j,j<N∧q j=i:=by
 obtain ⟨s,t,h1,h2,h3,h4⟩:=h;refine ⟨t i,?_,by rw [h1,h3]⟩
 by_cases c:t i<N
 ·exact c
 ·have:=h4 (t i) (by omega)
  rw [h3] at this;omega
theorem zk7 {N:Nat} {q:Nat→Nat} (h:Sym.Re 0 N (fun i=>i) q) {i:Nat} (hi:i<N):q i<N:=by
 obtain ⟨j,⟨_,hj⟩,e⟩:=h.from (i:=i) ⟨by omega,hi⟩
 rw [e];exact hj
theorem CntQ.all {x0:Nat→RecD} {q:Nat→Nat} {N:Nat} {l:List Nat} (h:CntQ x0 q N l) (hR:Sym.Re 0 N (fun i=>i) q):Cnt x0 N l:=⟨h.srt,fun i=>by
 rw [h.mem]
 constructor
 ·rintro ⟨⟨j,hj,rfl⟩,b⟩;exact ⟨zk7 hR hj,b⟩
 ·rintro ⟨a,b⟩;exact ⟨zk6 hR a,b⟩⟩
structure Alk (x0:Nat→RecD) (l:List Nat) (al:Nat):Prop where
 nil:l=[]→al=0
 lt:l≠[]→al<l.length
 before:∀ e,e∈l.take al→∀ f,f∈l.drop al→numC (x0 e) (x0 f)<0
 after:∀ e,e∈l.drop al→∀ f,f∈l.drop al→numC (x0 e) (x0 f)=0
theorem Alk.start (x0:Nat→RecD):Alk x0 [] 0:=⟨fun _=>rfl,fun h=>absurd rfl h,fun e he=>by simp at he,fun e he=>by simp at he⟩
theorem zj2 {a b c:RecD} (h:numC a b<0) (k:numC b c=0):numC a c<0:=by rw [zdP] at *;rw [zdl] at k;omega
theorem zj3 {a b c:RecD} (h:numC a b=0) (k:numC b c<0):numC a c<0:=by rw [zdP] at *;rw [zdl] at h;omega
theorem zj4 {a b c:RecD} (h:numC a b<0) (k:numC b c<0):numC a c<0:=by rw [zdP] at *;omega
theorem zj5 {a b c:RecD} (h:numC a b=0) (k:numC b c=0):numC a c=0:=by rw [zdl] at *;omega
theorem zhw (a:RecD):numC a a=0:=zdl.2 ⟨rfl,rfl,rfl⟩
theorem zlQ {a b:RecD} (h:numC a b=0):numC b a=0:=by rw [zdl] at *;omega
section
variable {x0:Nat→RecD} {q:Nat→Nat} {N k:Nat} {l:List Nat} {al:Nat}
theorem CntQ.behind (h:CntQ x0 q k l) (hS:Sym.Srt (numL x0) q 0 N) (hk:k<N) {o:Nat} (ho:o∈l):numL x0 o (q k):=by
 obtain ⟨⟨j,hj,rfl⟩,_⟩:=(h.mem o).1 ho;exact hS j k (by omega) hj hk
theorem Alk.here (a:Alk x0 l al) (hne:l≠[]):l.getD al 0∈l.drop al:=by
 have:=a.lt hne;rw [zb5 this];exact List.mem_iff_getElem.2 ⟨0,by rw [List.length_drop];omega,by rw [List.getElem_drop];simp⟩
theorem Alk.fresh (a:Alk x0 l al) (h:CntQ x0 q k l) (hS:Sym.Srt (numL x0) q 0 N) (hk:k<N) (hne:l≠[]) (hn:numC (x0 (l.getD al 0)) (x0 (q k))≠0):∀ e,e∈l→numC (x0 e) (x0 (q k))<0:=by
 have hh:=a.here hne;have h1:=h.behind hS hk (List.mem_of_mem_drop hh)
 have h2:numC (x0 (l.getD al 0)) (x0 (q k))<0:=by
  rcases h1 with h1 | h1
  ·exact h1
  ·exact absurd h1.1 hn
 intro e he;rw [← List.take_append_drop al l] at he
 rcases List.mem_append.1 he with he | he
 ·exact zj4 (a.before e he _ hh) h2
 ·exact zj3 (a.after e he _ hh) h2
theorem CntQ.has (h:CntQ x0 q k l) (hS:Sym.Srt (numL x0) q 0 N) (hR:Sym.Re 0 N (fun i=>i) q) (hk:k<N) (hb:∀ e,e∈l.take al→numC (x0 e) (x0 (q k))<0):(∃ o,o∈l.drop al∧SameR (x0 o) (x0 (q k)))↔¬ Fst x0 (q k):=by
 constructor
 ·rintro ⟨o,ho,hs⟩ hf
  have:=h.behind hS hk (List.mem_of_mem_drop ho)
  rcases this with h1 | h1
  ·rw [hs.num] at h1;omega
  ·exact hf o h1.2 hs
 ·intro hf
  obtain ⟨m,hm⟩:∃ m,¬ (m<q k→¬ SameR (x0 m) (x0 (q k))):=Classical.not_forall.1 hf;have h1:m<q k:=Classical.byContradiction fun h=>hm (fun h'=>absurd h' h);have h2:SameR (x0 m) (x0 (q k)):=Classical.byContradiction fun h=>hm (fun _=>h);obtain ⟨j0,a,b,c⟩:=zk5 h1 h2;have hqk:=zk7 hR hk;obtain ⟨k0,hk0,e0⟩:=zk6 hR (i:=j0) (by omega)
  have hlt:k0<k:=by
   by_cases c1:k0<k
   ·exact c1
   ·exfalso
    by_cases c2:k0=k
    ·subst c2;omega
    ·have h3:=hS k k0 (by omega) (by omega) hk0
     rw [e0] at h3;have h4:numL x0 j0 (q k):=.inr ⟨b.num,a⟩;exact (zbA x0).irr _ ((zbA x0).trans h3 h4)
  have hin:j0∈l:=(h.mem j0).2 ⟨⟨k0,hlt,e0⟩,c⟩;rw [← List.take_append_drop al l] at hin
  rcases List.mem_append.1 hin with hin | hin
  ·have:=hb j0 hin
   rw [b.num] at this;omega
  ·exact ⟨j0,hin,b⟩
theorem CntQ.skip (h:CntQ x0 q k l) (hf:¬ Fst x0 (q k)):CntQ x0 q (k+1) l:=⟨h.srt,fun i=>by
 rw [h.mem]
 constructor
 ·rintro ⟨⟨j,hj,e⟩,b⟩;exact ⟨⟨j,by omega,e⟩,b⟩
 ·rintro ⟨⟨j,hj,e⟩,b⟩
  refine ⟨⟨j,?_,e⟩,b⟩
  by_cases c:j=k
  ·subst c;rw [e] at hf;exact absurd b hf
  ·omega⟩
theorem CntQ.more (h:CntQ x0 q k l) (hS:Sym.Srt (numL x0) q 0 N) (hk:k<N) (hf:Fst x0 (q k)):CntQ x0 q (k+1) (l++[q k]):=⟨by
 rw [List.pairwise_append];refine ⟨h.srt,List.pairwise_singleton _ _,fun a ha b hb=>?_⟩;rw [List.mem_singleton] at hb;subst hb
 exact h.behind hS hk ha,fun i=>by
 rw [List.mem_append,List.mem_singleton,h.mem]
 constructor
 ·rintro (⟨⟨j,hj,e⟩,b⟩ | rfl)
  ·exact ⟨⟨j,by omega,e⟩,b⟩
  ·exact ⟨⟨k,by omega,rfl⟩,hf⟩
 ·rintro ⟨⟨j,hj,e⟩,b⟩
  by_cases c:j=k
  ·subst c;exact .inr e.symm
  ·exact .inl ⟨⟨j,by omega,e⟩,b⟩⟩
theorem Alk.stay (a:Alk x0 l al) (hne:l≠[]) {r:Nat} (hn:numC (x0 (l.getD al 0)) (x0 r)=0):(∀ e,e∈l.take al→numC (x0 e) (x0 r)<0)∧Alk x0 (l++[r]) al:=by
 have hh:=a.here hne;have h0:=a.lt hne;have hB:∀ e,e∈l.take al→numC (x0 e) (x0 r)<0:=fun e he=>zj2 (a.before e he _ hh) hn;have hA:∀ e,e∈l.drop al→numC (x0 e) (x0 r)=0:=fun e he=>zj5 (a.after e he _ hh) hn;refine ⟨hB,⟨fun h=>by simp at h,fun _=>by rw [List.length_append];omega,fun e he f hf=>?_,fun e he f hf=>?_⟩⟩
 ·rw [List.take_append_of_le_length (by omega)] at he
  rw [List.drop_append_of_le_length (by omega),List.mem_append,List.mem_singleton] at hf
  rcases hf with hf | rfl
  ·exact a.before e he f hf
  ·exact hB e he
 ·rw [List.drop_append_of_le_length (by omega),List.mem_append,List.mem_singleton] at he hf
  rcases he with he | rfl
  ·rcases hf with hf | rfl
   ·exact a.after e he f hf
   ·exact hA e he
  ·rcases hf with hf | rfl
   ·exact zlQ (hA f hf)
   ·exact zhw _
theorem Alk.open_ {r:Nat} (hB:∀ e,e∈l→numC (x0 e) (x0 r)<0):Alk x0 (l++[r]) l.length:=by
 refine ⟨fun h=>by simp at h,fun _=>by rw [List.length_append];simp,fun e he f hf=>?_,fun e he f hf=>?_⟩
 ·rw [List.take_append_of_le_length (by omega),List.take_length] at he
  rw [List.drop_append_of_le_length (by omega),List.drop_length,List.nil_append,List.mem_singleton] at hf;subst hf;exact hB e he
 ·rw [List.drop_append_of_le_length (by omega),List.drop_length,List.nil_append,List.mem_singleton] at he hf
  subst he hf;exact zhw _
end
theorem zgq {l:List Nat} {r i:Nat} (c:i<l.length):(l++[r]).getD i 0=l.getD i 0:=by rw [List.getD_eq_getElem?_getD,List.getElem?_append_left c,← List.getD_eq_getElem?_getD]
theorem zed {l:List Nat} {r:Nat}:(l++[r]).getD l.length 0=r:=by rw [List.getD_eq_getElem?_getD,List.getElem?_append_right (Nat.le_refl _)];simp
theorem zck {l:List Nat} {al:Nat} {P:Nat→Prop}:(∃ o,o∈l.drop al∧P o)↔∃ j,j<l.length-al∧P (l.getD (al+j) 0):=by
 constructor
 ·rintro ⟨o,ho,hp⟩
  obtain ⟨k,hk,rfl⟩:=List.mem_iff_getElem.1 ho;rw [List.length_drop] at hk;refine ⟨k,hk,?_⟩;rw [List.getElem_drop] at hp;rw [zb5 (show al+k<l.length by omega)];exact hp
 ·rintro ⟨j,hj,hp⟩
  rw [zb5 (show al+j<l.length by omega)] at hp;exact ⟨_,List.mem_iff_getElem.2 ⟨j,by rw [List.length_drop];omega,by rw [List.getElem_drop]⟩,hp⟩
theorem zdp (g n cap m:Nat) (hm:m≤n) (w:World):(Instr.slice 30 (.slice (some ⟨g,0,none⟩) n cap) (some (.int .i64 (m:Int))) none none).run Tryz.prog w=.ok (.slice (if cap=m then some ⟨g,0,none⟩ else some ⟨g,m*9,none⟩) (n-m) (cap-m)) w:=by
 have e1:(m:Int)≤(n:Int):=by omega
 by_cases h:cap=m
 ·subst h
  simp [Instr.slice,run_underlying Tryz.underlying30,Instr.sliceBounds,Instr.sliceBound,asIntOf,go_sem,e1,hm]
 ·simp [Instr.slice,run_underlying Tryz.underlying30,Instr.sliceBounds,Instr.sliceBound,asIntOf,go_sem,e1,hm,h]
theorem zdq (g n cap m:Nat) (hm:m≤n) (hc:n≤cap) (w:World):(Instr.slice 30 (.slice (some ⟨g,0,none⟩) n cap) none (some (.int .i64 (m:Int))) none).run Tryz.prog w=.ok (.slice (some ⟨g,0,none⟩) m cap) w:=by
 have e1:(m:Int)≤(cap:Int):=by omega
 have e2:m≤cap:=by omega
 simp [Instr.slice,run_underlying Tryz.underlying30,Instr.sliceBounds,Instr.sliceBound,asIntOf,go_sem,e1,e2]
theorem zdr (w:World):(Instr.slice 30 (.slice none 0 0) (some (.int .i64 ((0:Nat):Int))) none none).run Tryz.prog w=.ok (.slice none 0 0) w:=by
 simp [Instr.slice,run_underlying Tryz.underlying30,Instr.sliceBounds,Instr.sliceBound,asIntOf,go_sem]
theorem zds (w:World):(Instr.slice 30 (.slice none 0 0) none (some (.int .i64 ((0:Nat):Int))) none).run Tryz.prog w=.ok (.slice none 0 0) w:=by
 simp [Instr.slice,run_underlying Tryz.underlying30,Instr.sliceBounds,Instr.sliceBound,asIntOf,go_sem]
section
variable {w:World} {lo hi n:Nat} {v:Value} {x:Nat→RecD} {ce:Nat→List Value}
theorem View.form2 (h:View zab 52 w lo hi v n x ce):(v=.slice none 0 0∧n=0)∨∃ g cap,v=.slice (some ⟨g,0,none⟩) n cap∧n≤cap∧g<w.heap.size:=by
 have hlt:=fun b hb=>(h.row.lt b hb).2
 rcases h.row.2 with hn | ⟨g,cap,cur,rfl,hbg,hgg,hnc,hcm,rest⟩
 ·exact .inl hn
 ·exact .inr ⟨g,cap,rfl,hnc,hlt g rfl⟩
theorem zme {ao:Option Addr} {m c:Nat} {y:Nat→RecD} {cy:Nat→List Value} (hs:Src zab w hi ao m y cy) (hh:hi≤w.heap.size) (hm:m≤maxLen) (hb:∀ b off,ao=some ⟨b,off,none⟩→b<w.heap.size):(zab.slice 52).rd w w.heap.size (m,y) [.slice ao m c]:=by
 refine ⟨ao,c,rfl,hm,fun h0=>?_⟩;obtain ⟨b,off,e,hc⟩:=hs.1 h0;exact ⟨b,off,e,hb b off e,fun i hi=>⟨cy i,zab.rd_mono (hs.2 i hi) hh,hc i hi⟩⟩
theorem View.from_ (h:View zab 52 w lo hi v n x ce) (hh:hi≤w.heap.size) {al:Nat} (ha:al≤n):∃ ao c,(∀ w',(Instr.slice 30 v (some (.int .i64 (al:Int))) none none).run Tryz.prog w'=.ok (.slice ao (n-al) c) w')∧Src zab w hi ao (n-al) (fun j=>x (al+j)) (fun j=>ce (al+j))∧(zab.slice 52).rd w w.heap.size (n-al,fun j=>x (al+j)) [.slice ao (n-al) c]∧(ao=none→c=0∨n-al=0):=by
 have hl:=h.len
 rcases h.form2 with ⟨rfl,rfl⟩ | ⟨g,cap,rfl,hnc,hg⟩
 ·obtain rfl:al=0:=by omega
  have S:Src zab w hi none 0 (fun j=>x (0+j)) (fun j=>ce (0+j)):=⟨fun h=>absurd rfl h,fun j hj=>by omega⟩;exact ⟨none,0,zdr,S,zme S hh (by omega) (fun b off e=>by cases e),fun _=>.inl rfl⟩
 ·have S:Src zab w hi (if cap=al then some ⟨g,0,none⟩ else some ⟨g,al*9,none⟩) (n-al) (fun j=>x (al+j)) (fun j=>ce (al+j)):=⟨fun h0=>by
   rw [if_neg (by omega)];refine ⟨g,al*9,rfl,fun j hj k hk=>?_⟩;have:=h.cell (i:=al+j) (by omega) hk;rw [← this]
   congr 2
   show al*9+(j*9+k)=(al+j)*9+k
   omega,fun j hj=>h.each _ (by omega)⟩
  refine ⟨_,_,zdp g n cap al ha,S,zme S hh (by omega) (fun b off e=>?_),fun e=>?_⟩
  ·split at e<;>cases e<;>exact hg
  ·split at e<;>cases e
theorem View.upto_ (h:View zab 52 w lo hi v n x ce) (hh:hi≤w.heap.size) {al:Nat} (ha:al≤n):∃ ao c,(∀ w',(Instr.slice 30 v none (some (.int .i64 (al:Int))) none).run Tryz.prog w'=.ok (.slice ao al c) w')∧Src zab w hi ao al x ce∧(ao=none→c=0∨al=0):=by
 rcases h.form2 with ⟨rfl,rfl⟩ | ⟨g,cap,rfl,hnc,hg⟩
 ·obtain rfl:al=0:=by omega
  exact ⟨none,0,zds,⟨fun h=>absurd rfl h,fun j hj=>by omega⟩,fun _=>.inl rfl⟩
 ·exact ⟨_,_,zdq g n cap al ha hnc,⟨fun h0=>⟨g,0,rfl,fun j hj k hk=>by rw [Nat.zero_add];exact h.cell (by omega) hk⟩,fun j hj=>h.each _ (by omega)⟩,fun e=>by cases e⟩
theorem zi1 {ao:Option Addr} {m c:Nat} {y:Nat→RecD} (h:(zab.slice 52).rd w hi (m,y) [.slice ao m c]):∃ cy,Src zab w hi ao m y cy∧(ao=none→c=0∨m=0):=by
 obtain ⟨ao',cap',e,hm,hc⟩:=h
 simp only [List.cons.injEq,Value.slice.injEq,true_and,and_true] at e
 obtain ⟨rfl,rfl⟩:=e
 by_cases h0:m=0
 ·subst h0
  exact ⟨fun _=>[],⟨fun h=>absurd rfl h,fun j hj=>by omega⟩,fun _=>.inr rfl⟩
 ·obtain ⟨b,off,rfl,hb,hel⟩:=hc h0
  have ch:∀ i,∃ ce,i<m→(zab.rd w hi (y i) ce∧∀ j,j<zab.sz→w.cell? ⟨b,off+(i*zab.sz+j),none⟩=ce[j]?):=fun i=>by
   by_cases c:i<m
   ·obtain ⟨ce,h1,h2⟩:=hel i c
    exact ⟨ce,fun _=>⟨h1,h2⟩⟩
   ·exact ⟨[],fun h=>absurd h c⟩
  obtain ⟨cy,hcy⟩:=Classical.axiomOfChoice ch;exact ⟨cy,⟨fun _=>⟨b,off,rfl,fun j hj=>(hcy j hj).2⟩,fun j hj=>(hcy j hj).1⟩,fun e=>by cases e⟩
end
end Go.Proofs.YtmehgpcmoejfcaaGreat
