/- Walk of slices.IndexFunc over records that are struck. -/
import Derived.Test.YtajibninhikdgaaGreatZPspentan
set_option linter.unusedVariables false
set_option linter.unusedSimpArgs false
set_option maxHeartbeats 16000000
namespace Go.Proofs.YtajibninhikdgaaGreat
open Go.RowKit F256
def mixF {β:Type} (p:Nat→Bool) (j:Nat) (f:Nat→β):Nat→β:=fun m=>if m<(zbq p j).length then f (selF p j m) else f m
theorem zk6 {β:Type} {p:Nat→Bool} {j m:Nat} (f:Nat→β) (h:(zbq p j).length≤m):mixF p j f m=f m:=by unfold mixF;rw [if_neg (by omega)]
theorem zeq {β:Type} {p:Nat→Bool} {j:Nat} (f:Nat→β) (h:p j=false) (m:Nat):mixF p (j+1) f m=mixF p j f m:=by
 unfold mixF;rw [zdP h]
 by_cases c:m<(zbq p j).length
 ·rw [if_pos c,if_pos c,zg2 c]
 ·rw [if_neg c,if_neg c]
theorem zih {β:Type} {p:Nat→Bool} {j:Nat} (f:Nat→β) (h:p j=true) (m:Nat):upd (mixF p j f) (zbq p j).length (f j) m=mixF p (j+1) f m:=by
 have e:(zbq p (j+1)).length=(zbq p j).length+1:=by rw [zcw,if_pos h];simp
 unfold mixF
 by_cases c:m=(zbq p j).length
 ·subst c
  rw [zaX,if_pos (by omega),zke h]
 ·rw [za9 _ _ c]
  by_cases c2:m<(zbq p j).length
  ·rw [if_pos c2,if_pos (by omega),zg2 c2]
  ·rw [if_neg c2,if_neg (by omega)]
theorem zer {p:Nat→Bool} {n:Nat} (h:∀ i,i<n→p i=true):zbq p n=List.range n:=by
 unfold zbq;exact List.filter_eq_self.2 (fun i hi=>h i (List.mem_range.1 hi))
theorem zhT {p:Nat→Bool} {n m:Nat} (h:∀ i,i<n→p i=true) (hm:m<n):selF p n m=m:=by
 unfold selF;rw [zer h,List.getD_eq_getElem?_getD,List.getElem?_range hm];rfl
theorem zkf {β:Type} {p:Nat→Bool} {j:Nat} (f:Nat→β) (h:∀ i,i<j→p i=true) (m:Nat):mixF p j f m=f m:=by
 unfold mixF
 by_cases c:m<(zbq p j).length
 ·rw [if_pos c,zhT h (by rw [zer h] at c;simpa using c)]
 ·rw [if_neg c]
theorem zkg {p:Nat→Bool} {n i:Nat} (hi:i<n) (h:p i=false):(zbq p n).length<n:=by
 induction n with
 | zero=>omega
 | succ n ih=>
  by_cases c:i=n
  ·subst c
   rw [zdP h];have:=zlw p i;omega
  ·have:=ih (by omega)
   have h2:(zbq p (n+1)).length≤(zbq p n).length+1:=by rw [zcw];split<;>simp
   omega
theorem zkS (w:World):(zeroValue 83).run Tryz.prog w=.ok (.agg #[.int .i64 0,.int .i64 0,.string ByteArray.empty,.int .i64 0,.int .i64 0,.int .i64 0,.slice none 0 0,.slice none 0 0,.slice none 0 0]) w:=by kernel_rfl
theorem zkh (n:Nat):∀ v,v∈(Builtin.zeroCells #[.int .i64 0,.int .i64 0,.string ByteArray.empty,.int .i64 0,.int .i64 0,.int .i64 0,.slice none 0 0,.slice none 0 0,.slice none 0 0] n).toList→v.oneCell'=true:=fun v hv=>by
 simp only [Builtin.zeroCells,Array.toList_map,List.mem_map] at hv
 obtain ⟨i,_,rfl⟩:=hv;have hi:i%9<9:=Nat.mod_lt _ (by decide)
 show (#[.int .i64 0,.int .i64 0,.string ByteArray.empty,.int .i64 0,.int .i64 0,.int .i64 0,.slice none 0 0,.slice none 0 0,.slice none 0 0]:Array Value)[i%9]!.oneCell'=true
 generalize i%9=j at hi
 match j,hi with
 | 0,_=>rfl
 | 1,_=>rfl
 | 2,_=>rfl
 | 3,_=>rfl
 | 4,_=>rfl
 | 5,_=>rfl
 | 6,_=>rfl
 | 7,_=>rfl
 | 8,_=>rfl
theorem zjb (z:Value) (zs:Array Value) (hv:∀ w,(zeroValue 83).run Tryz.prog w=.ok z w) (hz:z.cells=zs) (h9:zs.size=9) (hone:∀ n v,v∈(Builtin.zeroCells zs n).toList→v.oneCell'=true) (w:World) (ty g o n c:Nat) (cur:Array Value) (hg:w.heap[g]?=some (.cells cur 83 (0,0))) (hn:0<n) (hl:o+n*9≤cur.size):∃ row:Array Value,(Builtin.clear_ #[30] ty #[.slice (some ⟨g,o,none⟩) n c]).run Tryz.prog w=.ok (.tuple #[]) (w.setRow g row)∧row.size=cur.size∧row.toList.take o=cur.toList.take o:=by
 obtain ⟨Z,hZ⟩:∃ Z,Z=(Builtin.zeroCells zs n).toList:=⟨_,rfl⟩
 have hlen:Z.length=n*9:=by rw [hZ];simp [Builtin.zeroCells,h9]
 have hst:=run_storeCells_at (P:=Tryz.prog) g o 83 Z 0 cur w hg (by rw [hlen];omega) (by rw [hZ];exact hone n)
 simp only [Nat.add_zero] at hst
 refine ⟨(cur.toList.take o++Z++cur.toList.drop (o+Z.length)).toArray,?_,?_,?_⟩
 ·obtain ⟨m,rfl⟩:∃ m,n=m+1:=⟨n-1,by omega⟩
  simp [Builtin.clear_,run_underlying Tryz.underlying30,hv,hz,← hZ,hst]
 ·simp only [List.size_toArray,List.length_append,List.length_take,List.length_drop,hlen,Array.length_toList]
  omega
 ·simp only [List.toList_toArray]
  rw [List.append_assoc,List.take_append_of_le_length (by simp;omega),List.take_take,Nat.min_self]
theorem zjc (w:World) (ty g o n c:Nat) (cur:Array Value) (hg:w.heap[g]?=some (.cells cur 83 (0,0))) (hn:0<n) (hl:o+n*9≤cur.size):∃ row:Array Value,(Builtin.clear_ #[30] ty #[.slice (some ⟨g,o,none⟩) n c]).run Tryz.prog w=.ok (.tuple #[]) (w.setRow g row)∧row.size=cur.size∧row.toList.take o=cur.toList.take o:=
 zjb (.agg #[.int .i64 0,.int .i64 0,.string ByteArray.empty,.int .i64 0,.int .i64 0,.int .i64 0,.slice none 0 0,.slice none 0 0,.slice none 0 0]) #[.int .i64 0,.int .i64 0,.string ByteArray.empty,.int .i64 0,.int .i64 0,.int .i64 0,.slice none 0 0,.slice none 0 0,.slice none 0 0] zkS rfl rfl zkh w ty g o n c cur hg hn hl
theorem zjd (g n cap i:Nat) (hi:i<n) (hn:n≤cap) (w:World):(Instr.slice 30 (.slice (some ⟨g,0,none⟩) n cap) (some (.int .i64 (i:Int))) none none).run Tryz.prog w=.ok (.slice (some ⟨g,i*9,none⟩) (n-i) (cap-i)) w:=by
 have e1:(i:Int)≤(n:Int):=by omega
 have e6:i≤n:=by omega
 have e7:¬ cap=i:=by omega
 simp [Instr.slice,run_underlying Tryz.underlying30,Instr.sliceBounds,Instr.sliceBound,asIntOf,go_sem,e1,e6,e7]
theorem zkT (g n cap i:Nat) (hi:i≤cap) (w:World):(Instr.slice 30 (.slice (some ⟨g,0,none⟩) n cap) none (some (.int .i64 (i:Int))) none).run Tryz.prog w=.ok (.slice (some ⟨g,0,none⟩) i cap) w:=by
 have e1:(i:Int)≤(cap:Int):=by omega
 simp [Instr.slice,run_underlying Tryz.underlying30,Instr.sliceBounds,Instr.sliceBound,asIntOf,go_sem,e1,hi]
theorem zki {n m s:Nat} {ce:Nat→List Value} (h:∀ i,i<n→(ce i).length=s) (hm:m≤n):(catN n ce).take (m*s)=catN m ce:=by
 induction n with
 | zero=>
  obtain rfl:m=0:=by omega
  simp [catN]
 | succ n ih=>
  by_cases c:m=n+1
  ·subst c
   exact List.take_of_length_le (by rw [zbw h];exact Nat.le_refl _)
  ·have hl:(catN n ce).length=n*s:=zbw (fun i hi=>h i (by omega))
   have hms:m*s≤n*s:=Nat.mul_le_mul_right s (by omega);rw [za5,List.take_append_of_le_length (by omega)];exact ih (fun i hi=>h i (by omega)) (by omega)
theorem zk7:WideMaps.KeyLaw Tryz.prog 112:=deep_law_laid zfH (m:=2) (by omega) (of_decide_eq_true (by kernel_rfl)) (by kernel_rfl) (by kernel_rfl)
theorem zk8:Go.Maps.Keyed Tryz.prog 112:=Go.Maps.Keyed.of_law zk7
theorem zg3 {a b:Int} (ha:-9223372036854775808≤a∧a≤9223372036854775807) (hb:-9223372036854775808≤b∧b≤9223372036854775807):∃ l,keyOf Tryz.prog 112 (.agg #[.int .i64 a,.int .i64 b])=some l:=by
 have h1:Tryz.prog.keyType 112=true:=by kernel_rfl
 have h2:Tryz.prog.cellsOf 112=2:=by kernel_rfl
 have h3:Tryz.prog.cellsOf 2=1:=by kernel_rfl
 obtain ⟨m,hm⟩:∃ m,Tryz.prog.types.size=m+1:=⟨Tryz.prog.types.size-1,by have:0<Tryz.prog.types.size:=of_decide_eq_true (by kernel_rfl);omega⟩
 have k1:∀ x:Int,(-9223372036854775808≤x∧x≤9223372036854775807)→Tryz.prog.keyLits (m+1) 2 [.int .i64 x]=some [.int .i64 x]:=fun x hx=>by
  unfold Program.keyLits;rw [Tryz.underlying2]
  simp [wf64 hx]
 have k2:∃ ls,Tryz.prog.keyLits (m+1+1) 112 [.int .i64 a,.int .i64 b]=some ls:=by
  unfold Program.keyLits;rw [Tryz.underlying112]
  simp [h2,h3,k1 a ha,k1 b hb,List.range_succ,List.range_zero]
 obtain ⟨ls,k3⟩:=k2;refine ⟨.string (keyBytes ls),?_⟩;unfold keyOf;rw [Tryz.underlying112]
 have h4:(Value.agg #[.int .i64 a,.int .i64 b]).formed Tryz.prog 112=true:=by simp [Value.formed,Tryz.underlying112,h2]
 have h5:(Value.agg #[.int .i64 a,.int .i64 b]).cells.toList=[.int .i64 a,.int .i64 b]:=rfl
 simp only [h1,h4,h5,hm,k3,Bool.and_self,if_true,Option.map_some]
noncomputable def zff (s:Nat→Int) (x:Nat→RecD) (N:Nat):Nat→Bool:=fun i=>decide ((x i).seq=zc7 N x)||decide (0<cN (fun i=>¬ SptP s x N i) (fun i=>.agg #[.int .i64 (x i).kind,.int .i64 (x i).seq]) (.agg #[.int .i64 (x i).kind,.int .i64 (x i).seq]) N)
theorem zkj {s:Nat→Int} {x:Nat→RecD} {N:Nat} (hC:Csd x N) {i:Nat} (hi:i<N):(!(zff s x N i))=spa s x N i:=by
 have ht:=zlW hC hi
 have hc:0<cN (fun i=>¬ SptP s x N i) (fun i=>.agg #[.int .i64 (x i).kind,.int .i64 (x i).seq]) (.agg #[.int .i64 (x i).kind,.int .i64 (x i).seq]) N↔∃ j,j<N∧¬ SptP s x N j∧((x j).kind=(x i).kind∧(x j).seq=(x i).seq):=by
  rw [zgU];exact ⟨fun ⟨j,a,b,c⟩=>⟨j,a,b,by simpa using c⟩,fun ⟨j,a,b,c⟩=>⟨j,a,b,by rw [c.1,c.2]⟩⟩
 by_cases h:SpaP s x N i
 ·rw [(zka s x N i).2 h]
  have h1:¬ (x i).seq=zc7 N x:=by have:=h.1;omega
  have h2:¬ 0<cN (fun i=>¬ SptP s x N i) (fun i=>.agg #[.int .i64 (x i).kind,.int .i64 (x i).seq]) (.agg #[.int .i64 (x i).kind,.int .i64 (x i).seq]) N:=fun q=>by
   obtain ⟨j,a,b,c⟩:=hc.1 q;exact b (h.2 j a c.1 c.2)
  unfold zff;rw [decide_eq_false h1,decide_eq_false h2];rfl
 ·rw [zkb h]
  by_cases h1:(x i).seq=zc7 N x
  ·unfold zff
   rw [decide_eq_true h1];rfl
  ·have h2:0<cN (fun i=>¬ SptP s x N i) (fun i=>.agg #[.int .i64 (x i).kind,.int .i64 (x i).seq]) (.agg #[.int .i64 (x i).kind,.int .i64 (x i).seq]) N:=Classical.byContradiction fun q=>h ⟨by omega,fun k hk e1 e2=>Classical.byContradiction fun hs=>q (hc.2 ⟨k,hk,hs,e1,e2⟩)⟩
   unfold zff;rw [decide_eq_true h2,Bool.or_true];rfl
theorem zii {s:Nat→Int} {x:Nat→RecD} {N:Nat} (hC:Csd x N):zbq (fun i=>!(zff s x N i)) N=zbl (spa s x N) N:=by
 show (List.range N).filter _=(List.range N).filter _
 exact List.filter_congr (fun i hi=>zkj hC (List.mem_range.1 hi))
theorem zlx {s:Nat→Int} {x:Nat→RecD} {N:Nat} (hC:Csd x N) (m:Nat):selF (fun i=>!(zff s x N i)) N m=zbN (spa s x N) N m:=by
 show (zbq _ N).getD m 0=(zbl _ N).getD m 0
 rw [zii hC]
theorem zkU (r:RecD) (ao6 ao7 ao8:Option Addr) (cap6 cap7 cap8:Nat):∀ v,v∈([.int .i64 r.kind,.int .i64 r.seq,.string r.name,.int .i64 r.length,.int .i64 r.group,.int .i64 r.row,.slice ao6 r.rows.1 cap6,.slice ao7 r.data.1 cap7,.slice ao8 r.delta.1 cap8]:List Value)→v.oneCell'=true:=fun v hv=>by
 simp only [List.mem_cons,List.not_mem_nil,or_false] at hv
 rcases hv with rfl | rfl | rfl | rfl | rfl | rfl | rfl | rfl | rfl<;>rfl
set_option maxRecDepth 100000 in
theorem zje (r:RecD) (ao6 ao7 ao8:Option Addr) (cap6 cap7 cap8:Nat) (w:World) :
 Calls Tryz.prog 175 #[.agg #[.int .i64 r.kind,.int .i64 r.seq,.string r.name,.int .i64 r.length,.int .i64 r.group,.int .i64 r.row,.slice ao6 r.rows.1 cap6,.slice ao7 r.data.1 cap7,.slice ao8 r.delta.1 cap8]] w fun e w'=>e=.returned (.agg #[.int .i64 r.kind,.int .i64 r.seq,.string r.name,.int .i64 r.length,.int .i64 r.group,.int .i64 r.row,.slice ao6 r.rows.1 cap6,.slice ao7 r.data.1 cap7,.slice ao8 r.delta.1 cap8])∧Below w.heap.size w w':=by
 have T0:=zaD w (rwR r ao6 cap6 ao7 cap7 ao8 cap8).toArray #[.int .i64 0,.int .i64 0,.string ByteArray.empty,.int .i64 0,.int .i64 0,.int .i64 0,.slice none 0 0,.slice none 0 0,.slice none 0 0] 144 83;have y_0:((w.alloc (.cells (rwR r ao6 cap6 ao7 cap7 ao8 cap8).toArray 144)).alloc (.cells #[.int .i64 0,.int .i64 0,.string ByteArray.empty,.int .i64 0,.int .i64 0,.int .i64 0,.slice none 0 0,.slice none 0 0,.slice none 0 0] 83)).cell? ⟨w.heap.size,0,none⟩=some (.int .i64 r.kind):=T0.b1.cell 0;have y_1:((w.alloc (.cells (rwR r ao6 cap6 ao7 cap7 ao8 cap8).toArray 144)).alloc (.cells #[.int .i64 0,.int .i64 0,.string ByteArray.empty,.int .i64 0,.int .i64 0,.int .i64 0,.slice none 0 0,.slice none 0 0,.slice none 0 0] 83)).cell? ⟨w.heap.size,1,none⟩=some (.int .i64 r.seq):=T0.b1.cell 1;have y_2:((w.alloc (.cells (rwR r ao6 cap6 ao7 cap7 ao8 cap8).toArray 144)).alloc (.cells #[.int .i64 0,.int .i64 0,.string ByteArray.empty,.int .i64 0,.int .i64 0,.int .i64 0,.slice none 0 0,.slice none 0 0,.slice none 0 0] 83)).cell? ⟨w.heap.size,2,none⟩=some (.string r.name):=T0.b1.cell 2;have y_3:((w.alloc (.cells (rwR r ao6 cap6 ao7 cap7 ao8 cap8).toArray 144)).alloc (.cells #[.int .i64 0,.int .i64 0,.string ByteArray.empty,.int .i64 0,.int .i64 0,.int .i64 0,.slice none 0 0,.slice none 0 0,.slice none 0 0] 83)).cell? ⟨w.heap.size,3,none⟩=some (.int .i64 r.length):=T0.b1.cell 3;have y_4:((w.alloc (.cells (rwR r ao6 cap6 ao7 cap7 ao8 cap8).toArray 144)).alloc (.cells #[.int .i64 0,.int .i64 0,.string ByteArray.empty,.int .i64 0,.int .i64 0,.int .i64 0,.slice none 0 0,.slice none 0 0,.slice none 0 0] 83)).cell? ⟨w.heap.size,4,none⟩=some (.int .i64 r.group):=T0.b1.cell 4;have y_5:((w.alloc (.cells (rwR r ao6 cap6 ao7 cap7 ao8 cap8).toArray 144)).alloc (.cells #[.int .i64 0,.int .i64 0,.string ByteArray.empty,.int .i64 0,.int .i64 0,.int .i64 0,.slice none 0 0,.slice none 0 0,.slice none 0 0] 83)).cell? ⟨w.heap.size,5,none⟩=some (.int .i64 r.row):=T0.b1.cell 5
 have y_6:((w.alloc (.cells (rwR r ao6 cap6 ao7 cap7 ao8 cap8).toArray 144)).alloc (.cells #[.int .i64 0,.int .i64 0,.string ByteArray.empty,.int .i64 0,.int .i64 0,.int .i64 0,.slice none 0 0,.slice none 0 0,.slice none 0 0] 83)).cell? ⟨w.heap.size,6,none⟩=some (.slice ao6 r.rows.1 cap6):=T0.b1.cell 6;have y_7:((w.alloc (.cells (rwR r ao6 cap6 ao7 cap7 ao8 cap8).toArray 144)).alloc (.cells #[.int .i64 0,.int .i64 0,.string ByteArray.empty,.int .i64 0,.int .i64 0,.int .i64 0,.slice none 0 0,.slice none 0 0,.slice none 0 0] 83)).cell? ⟨w.heap.size,7,none⟩=some (.slice ao7 r.data.1 cap7):=T0.b1.cell 7;have y_8:((w.alloc (.cells (rwR r ao6 cap6 ao7 cap7 ao8 cap8).toArray 144)).alloc (.cells #[.int .i64 0,.int .i64 0,.string ByteArray.empty,.int .i64 0,.int .i64 0,.int .i64 0,.slice none 0 0,.slice none 0 0,.slice none 0 0] 83)).cell? ⟨w.heap.size,8,none⟩=some (.slice ao8 r.delta.1 cap8):=T0.b1.cell 8
 go_enter Tryz.func175,Tryz.ntmps175
 go_wp2_with (refine zcf 83 _ _ rfl rfl (w.heap.size+1) rfl (cs:=(rwR r ao6 cap6 ao7 cap7 ao8 cap8)) rfl (T0.b2) zgX rfl rfl (zkU r ao6 ao7 ao8 cap6 cap7 cap8) ?_;intro w9 X9 C9 z9)
 refine zd1 Tryz.results175 rfl X9 Tryz.underlying83 zgX rfl rfl ?_;exact ⟨rfl,T0.bel.trans (C9.bel (fun b hb=>by simp at hb;omega) T0.bel.size)⟩
set_option maxRecDepth 20000 in
theorem zkk {ops:Array Oper} {rest:List Oper} {o:Oper} {a:Act} {W:World} {Q:Exit→Act→World→Prop} (hg:o.guard=none) (x:Operand) (name:String) (hop:o.op=Op.call { callee:=Callee.invoke x name,args:=#[],argTypes:=#[] })
 {T : TypeId} {V V' : Value} {n : Nat} (hx : a.eval x = .iface T V) (hm : (method (Tryz.prog.types.size + Made.depth) T V name).run Tryz.prog W = .ok (n, V') W) {fn : Func} (hfn : Tryz.prog.funcs[n]? = some fn) (hnm : (fn.name == "runtime.NumGoroutine") = false) (hbd : fn.body.isSome = true)
 {R:Ending→World→Prop} (hc:Calls Tryz.prog n #[V'] W R) (hK:∀ e w',R e w'→∃ v,e=.returned v∧wpList Tryz.prog ops Q rest (a.put o.dst v) w'):wpList Tryz.prog ops Q (o::rest) a W:=by
 have hn' : ¬ fn.name = "runtime.NumGoroutine" := by simpa using hnm
 have hb':¬ fn.body=none:=by intro h;rw [h] at hbd;cases hbd
 have hcm:(callMethod (.iface T V) name #[]).run Tryz.prog W=(callFunc n #[V']).run Tryz.prog W:=by
  simp only [callMethod,Sem.run_bind,run_program,Result.andThen_ok]
  rw [hm]
  simp
 refine wpList_plain hg fun K hK'=>?_;unfold Oper.wp
 simp [execOp,hop,hx,resolve,invoke,hcm,Result.andThen,Deferred.ofValue,callFunc,Oper.upon,hfn,hn',hb']
 refine hc.mono fun e w' h=>?_;obtain ⟨v,rfl,hk⟩:=hK e w' h;exact hK' _ _ hk
set_option maxRecDepth 20000 in
theorem zkl (c0 c1 c2 c3 c4 c5 c6 c7 c8 : Value) (w : World) : (method (Tryz.prog.types.size + Made.depth) 146 (.agg #[c0, c1, c2, c3, c4, c5, c6, c7, c8]) "loop.example/g00089/impl.record").run Tryz.prog w = .ok (175, .agg #[c0, c1, c2, c3, c4, c5, c6, c7, c8]) w := by kernel_rfl
set_option maxRecDepth 20000 in
theorem zkm (c0 c1 c2 c3 c4 c5 c6 c7 c8 : Value) (w : World) : (method (Tryz.prog.types.size + Made.depth) 147 (.agg #[c0, c1, c2, c3, c4, c5, c6, c7, c8]) "loop.example/g00089/impl.record").run Tryz.prog w = .ok (175, .agg #[c0, c1, c2, c3, c4, c5, c6, c7, c8]) w := by kernel_rfl
set_option maxRecDepth 20000 in
theorem zkn (c0 c1 c2 c3 c4 c5 c6 c7 c8 : Value) (w : World) : (method (Tryz.prog.types.size + Made.depth) 148 (.agg #[c0, c1, c2, c3, c4, c5, c6, c7, c8]) "loop.example/g00089/impl.record").run Tryz.prog w = .ok (175, .agg #[c0, c1, c2, c3, c4, c5, c6, c7, c8]) w := by kernel_rfl
set_option maxRecDepth 20000 in
theorem zjf (c0 c1 c2 c3 c4 c5 c6 c7 c8 : Value) (w : World) : (method (Tryz.prog.types.size + Made.depth) 151 (.agg #[c0, c1, c2, c3, c4, c5, c6, c7, c8]) "loop.example/g00089/impl.record").run Tryz.prog w = .ok (175, .agg #[c0, c1, c2, c3, c4, c5, c6, c7, c8]) w := by kernel_rfl
set_option maxRecDepth 100000 in
theorem zko (G Q bm n:Nat) (gr:Int) (f:Value→Option Value) (c:Nat) (r:RecD) (ao6 ao7 ao8:Option Addr) (cap6 cap7 cap8:Nat) (w:World) (hG:Box w G #[.int .i64 gr] 2) (hQ:Box w Q #[.map (some bm)] 109) (hM:MapV w 112 bm n f) (hf:(f (.agg #[.int .i64 r.kind,.int .i64 r.seq])).getD (.int .i64 0)=.int .i64 (c:Int))
 (hk:-9223372036854775808≤r.kind∧r.kind≤9223372036854775807) (hs:-9223372036854775808≤r.seq∧r.seq≤9223372036854775807) :
 Calls Tryz.prog 69 #[.agg #[.int .i64 r.kind,.int .i64 r.seq,.string r.name,.int .i64 r.length,.int .i64 r.group,.int .i64 r.row,.slice ao6 r.rows.1 cap6,.slice ao7 r.data.1 cap7,.slice ao8 r.delta.1 cap8],.pointer (some ⟨G,0,none⟩),.pointer (some ⟨Q,0,none⟩)] w fun e w'=>e=.returned (.bool (decide (r.seq=gr)||decide (0<c)))∧Below w.heap.size w w':=by
 have T0:=zaE w (rwR r ao6 cap6 ao7 cap7 ao8 cap8).toArray 83;have HB:=hid T0.bel;obtain ⟨kl,hkl⟩:=zg3 hk hs;have g0:(w.alloc (.cells (rwR r ao6 cap6 ao7 cap7 ao8 cap8).toArray 83)).cell? ⟨G,0,none⟩=some (.int .i64 gr):=(hG.below T0.bel hG.lt).cell 0;have q0:(w.alloc (.cells (rwR r ao6 cap6 ao7 cap7 ao8 cap8).toArray 83)).cell? ⟨Q,0,none⟩=some (.map (some bm)):=(hQ.below T0.bel hQ.lt).cell 0
 have lk:(Instr.lookup 109 (.map (some bm)) (.agg #[.int .i64 r.kind,.int .i64 r.seq]) false).run Tryz.prog (w.alloc (.cells (rwR r ao6 cap6 ao7 cap7 ao8 cap8).toArray 83))=.ok (.int .i64 (c:Int)) (w.alloc (.cells (rwR r ao6 cap6 ao7 cap7 ao8 cap8).toArray 83)):=by
  have h1:=(hM.block (T0.bel.block bm hM.lt)).look zk8 Tryz.underlying109 (zc2 _) hkl;rw [hf] at h1;exact h1
 clear T0 hG hQ hM hf hkl hk hs
 by_cases h1:r.seq=gr
 ·have d1:(r.seq==gr)=true:=by simp [h1]
  have d2:decide (r.seq=gr)=true:=decide_eq_true h1;rw [d2];clear h1
  go_enter Tryz.func69,Tryz.ntmps69
  go_wp2;go_ret;exact ⟨rfl,HB.out⟩
 ·have d1:(r.seq==gr)=false:=by simp [h1]
  have d2:decide (r.seq=gr)=false:=decide_eq_false h1;rw [d2];clear h1
  by_cases h2:0<c
  ·have t1:(0:Int)<(c:Int):=by omega
   have d3:decide (0<c)=true:=decide_eq_true h2;rw [d3];clear h2
   go_enter Tryz.func69,Tryz.ntmps69
   go_wp2;go_ret;exact ⟨rfl,HB.out⟩
  ·obtain rfl:c=0:=by omega
   clear h2
   go_enter Tryz.func69,Tryz.ntmps69
   go_wp2;go_ret;exact ⟨rfl,HB.out⟩
set_option maxRecDepth 100000 in
theorem zhU (g cap n lo hi:Nat) (x:Nat→RecD) (ce:Nat→List Value) (a0 a1:Nat) (del:Nat→Bool) (w:World) (hV:View zab 83 w lo hi (.slice (some ⟨g,0,none⟩) n cap) n x ce) (hhi:hi≤w.heap.size) (hn:n≤1048576) (CD:∀ k,k<n→∀ w',ChgL [g] w w'→Calls Tryz.prog 69 #[.agg (ce k).toArray,.pointer (some ⟨a0,0,none⟩),.pointer (some ⟨a1,0,none⟩)] w' (fun e w''=>e=.returned (.bool (del k))∧Below w'.heap.size w' w'')) :
 Calls Tryz.prog 110 #[.slice (some ⟨g,0,none⟩) n cap,.func (.func 69) #[] #[.pointer (some ⟨a0,0,none⟩),.pointer (some ⟨a1,0,none⟩)]] w fun e w'=>((e=.returned (.int .i64 (-1))∧∀ i,i<n→del i=false)∨∃ i:Nat,i<n∧e=.returned (.int .i64 (i:Int))∧del i=true∧∀ t,t<i→del t=false)∧Below w.heap.size w w':=by
 have HV:=hid hV;have HCD:=hid CD;clear hV CD
 go_enter Tryz.func110,Tryz.ntmps110
 go_wp2
 go_loopw [8] (fun z wr=>∃ k:Nat,k≤n∧z=.int .i64 k∧(∀ t,t<k→del t=false)∧Below w.heap.size w wr) (fun z _=>n-(intOf z).toNat)
 case atStart=>exact ⟨0,Nat.zero_le _,rfl,fun t ht=>by omega,Below.refl _ _⟩
 case round=>
  obtain ⟨k,hk,rfl,hall,hbl⟩:=hrel;obtain ⟨wx,rfl⟩:∃ y,y=wr:=⟨_,rfl⟩;have HALL:=hid hall;have HBL:=hid hbl;have zx:=hbl.size;clear hall
  by_cases hlt:k<n
  ·have VX:=HV.out.below hbl hhi
   have rgK:wx.rangeAt g (k*9) (ce k):=VX.range hlt;have hcK:(ce k).length=9:=VX.lens k hlt;have CS:=HCD.out k hlt wx (ChgL.of_below hbl);obtain ⟨cK,hcKe⟩:∃ c,c=ce k:=⟨_,rfl⟩;rw [← hcKe] at rgK hcK CS;obtain ⟨t,ht⟩:∃ t,t=del k:=⟨_,rfl⟩;rw [← ht] at CS;have HT:=hid ht
   have i1:(0:Int)≤(k:Int):=by omega
   have i2:(k:Int)<(n:Int):=by omega
   clear hbl hcKe VX ht
   go_wp2_with (refine wpList_load_mid rfl 83 (.tmp 14) rfl g (k*9) (by simp [Act.eval]) cK _ rgK Tryz.underlying83 rfl (zag hcK) ?_)
   refine CS.mono ?_;rintro e w5 ⟨rfl,b5⟩;have B5:=hid (HBL.out.trans (b5.mono zx));clear b5 CS rgK
   cases t with
   | true=>
    go_wp2;go_ret;exact ⟨.inr ⟨k,hlt,rfl,HT.out.symm,HALL.out⟩,B5.out⟩
   | false=>
    go_wp2
    go_roundw
    case rel=>exact ⟨k+1,by omega,by go_num,fun t ht=>by
     by_cases c:t=k
     ·rw [c];exact HT.out.symm
     ·exact HALL.out t (by omega),B5.out⟩
    case measure=>simp [intOf];omega
  ·obtain rfl:k=n:=by omega
   clear hbl;go_wp2;go_ret;exact ⟨.inl ⟨rfl,HALL.out⟩,HBL.out⟩
set_option maxRecDepth 100000 in
theorem zg4 (g cap n lo hi:Nat) (x:Nat→RecD) (ce:Nat→List Value) (a0 a1:Nat) (del:Nat→Bool) (w:World) (hV:View zab 83 w lo hi (.slice (some ⟨g,0,none⟩) n cap) n x ce) (hlo:hi≤lo) (hlw:lo≤w.heap.size) (hn:n≤1048576) (CD:∀ k,k<n→∀ w',ChgL [g] w w'→Calls Tryz.prog 69 #[.agg (ce k).toArray,.pointer (some ⟨a0,0,none⟩),.pointer (some ⟨a1,0,none⟩)] w' (fun e w''=>e=.returned (.bool (del k))∧Below w'.heap.size w' w'')) :
 Calls Tryz.prog 68 #[.slice (some ⟨g,0,none⟩) n cap,.func (.func 69) #[] #[.pointer (some ⟨a0,0,none⟩),.pointer (some ⟨a1,0,none⟩)]] w fun e w'=>e=.returned (.slice (some ⟨g,0,none⟩) (zbq (fun i=>!(del i)) n).length cap)∧View zab 83 w' lo hi (.slice (some ⟨g,0,none⟩) (zbq (fun i=>!(del i)) n).length cap) (zbq (fun i=>!(del i)) n).length (fun i=>x (selF (fun i=>!(del i)) n i)) (fun i=>ce (selF (fun i=>!(del i)) n i))∧ChgL [g] w w':=by
 have HV:=hid hV;have HCD:=hid CD
 have hnc:n≤cap:=by
  rcases hV.row.2 with ⟨hn,_⟩ | ⟨g',cap',cur,he,hbg,hgg,hnc,_⟩
  ·cases hn
  ·cases he;exact hnc
 have HNC:=hid hnc;have hgl:=hV.row.lt g rfl;have CI:=zhU g cap n lo hi x ce a0 a1 del w hV (by omega) hn CD;clear hV CD hnc
 go_enter Tryz.func68,Tryz.ntmps68
 go_wp2_with fail
 refine CI.mono ?_;rintro e w1 ⟨hcase,b1⟩;have HB1:=hid b1;have z1:=b1.size;clear CI b1
 rcases hcase with ⟨rfl,hall⟩ | ⟨i0,hi0,rfl,hp0,hbef⟩
 ·have HALL:Hid (∀ i,i<n→(fun i=>!(del i)) i=true):=fun i hi=>by show (!(del i))=true;rw [hall i hi];rfl
  clear hall
  have te:((-1:Int)==-1)=true:=by decide
  go_wp2;go_ret
  have em:(zbq (fun i=>!(del i)) n).length=n:=by rw [zer HALL.out];simp
  rw [em];exact ⟨rfl,(HV.out.below HB1.out (by omega)).congr2 (fun i hi=>by rw [zhT HALL.out hi]) (fun i hi=>by rw [zhT HALL.out hi]),ChgL.of_below HB1.out⟩
 have HP0:Hid ((fun i=>!(del i)) i0=false):=by show (!(del i0))=false;rw [hp0];rfl
 have HBEF:Hid (∀ t,t<i0→(fun i=>!(del i)) t=true):=fun t ht=>by show (!(del t))=true;rw [hbef t ht];rfl
 clear hp0 hbef;have te:((i0:Int)==-1)=false:=beq_eq_false_iff_ne.2 (by omega)
 have zi:IntKind.i64.wrap ((i0:Int)+1)=(i0:Int)+1:=by rw [IntKind.wrap_i64];omega
 go_wp2
 go_loopw [5,6] (fun v z wr=>∃ j:Nat,j≤n∧i0<j∧z=.int .i64 j∧v=.int .i64 ((zbq (fun i=>!(del i)) j).length:Nat)∧View zab 83 wr lo hi (.slice (some ⟨g,0,none⟩) n cap) n (mixF (fun i=>!(del i)) (j) x) (mixF (fun i=>!(del i)) (j) ce)∧ChgL [g] w wr) (fun _ z _=>n-(intOf z).toNat)
 case atStart=>
  refine ⟨i0+1,by omega,by omega,by simp,?_,?_,ChgL.of_below HB1.out⟩
  ·rw [zdP HP0.out,zer HBEF.out];simp
  ·exact (HV.out.below HB1.out (by omega)).congr2 (fun m _=>by rw [zeq x HP0.out,zkf x HBEF.out]) (fun m _=>by rw [zeq ce HP0.out,zkf ce HBEF.out])
 case round=>
  obtain ⟨j,hj,hij,rfl,rfl,hrow,hch⟩:=hrel;obtain ⟨wx,rfl⟩:∃ y,y=wr:=⟨_,rfl⟩;have HCH:=hid hch;have HRW:=hid hrow;have zx:=hch.size;have hless:(zbq (fun i=>!(del i)) j).length<j:=zkg hij HP0.out;clear hch
  by_cases hlt:j<n
  ·have em:(mixF (fun i=>!(del i)) (j) ce) j=ce j:=zk6 ce (Nat.le_of_lt hless)
   have ex:(mixF (fun i=>!(del i)) (j) x) j=x j:=zk6 x (Nat.le_of_lt hless)
   have rgJ:wx.rangeAt g (j*9) (ce j):=by have:=hrow.range hlt;rw [em] at this;exact this
   have hcJ:(ce j).length=9:=by have:=hrow.lens j hlt;rw [em] at this;exact this
   have rdJ:zab.rd wx hi (x j) (ce j):=by have:=hrow.each j hlt;rw [em,ex] at this;exact this
   obtain ⟨cJ,hcJe⟩:∃ c,c=ce j:=⟨_,rfl⟩;have HCJ:=hid hcJe;rw [← hcJe] at rgJ hcJ rdJ;have oneJ:∀ v,v∈cJ→v.oneCell'=true:=zaM _ _ _ _ rdJ;have HRJ:=hid rdJ
   have i1:(0:Int)≤(j:Int):=by omega
   have i2:(j:Int)<(n:Int):=by omega
   have bV:=bAl wx (.cells cJ.toArray 83);have V1:=zao wx cJ.toArray 83;clear em ex hrow rdJ hcJe
   go_upto_region 8 with (first | (refine wpList_load_mid rfl 83 (.tmp 24) rfl g (j*9) (by simp [Act.eval]) cJ _ rgJ Tryz.underlying83 rfl (zag hcJ) ?_) | (refine zbe 83 7 (.tmp 25) cJ _ 9 rfl rfl rfl rfl rfl rfl rfl rfl zeT rfl hcJ oneJ ?_))
   obtain ⟨W5,hW5⟩:∃ y,y=wx.alloc (.cells cJ.toArray 83):=⟨_,rfl⟩;rw [← hW5] at bV V1 ⊢;clear hW5 rgJ;have z5:=bV.size;have HV1:=hid V1;have z5':=V1.lt;have C5:ChgL [g] w W5:=HCH.out.trans (ChgL.of_below bV);have CS:=HCD.out j hlt W5 C5;rw [← HCJ.out] at CS;obtain ⟨t,ht⟩:∃ t,t=del j:=⟨_,rfl⟩;rw [← ht] at CS
   have HT:Hid ((fun i=>!(del i)) j=!t):=by rw [ht];exact rfl
   have HC5:=hid C5;have HR5:Hid (View zab 83 W5 lo hi (.slice (some ⟨g,0,none⟩) n cap) n (mixF (fun i=>!(del i)) (j) x) (mixF (fun i=>!(del i)) (j) ce)):=HRW.out.below bV (by omega);have HRJ5:Hid (zab.rd W5 hi (x j) cJ):=zab.rd_below HRJ.out bV (by omega);clear ht C5 V1 bV
   go_wp2_with (refine zaF 83 (.tmp 7) rfl rfl (wx.heap.size) rfl HV1.out Tryz.underlying83 zdI hcJ ?_)
   refine CS.mono ?_;rintro e w6 ⟨rfl,b6⟩;have z6:=b6.size;have HV6:Hid (Box w6 wx.heap.size cJ.toArray 83):=HV1.out.below b6 z5';have C6:Hid (ChgL [g] w w6):=HC5.out.trans (ChgL.of_below b6);have HS6:Hid (View zab 83 w6 lo hi (.slice (some ⟨g,0,none⟩) n cap) n (mixF (fun i=>!(del i)) (j) x) (mixF (fun i=>!(del i)) (j) ce)):=HR5.out.below b6 (by omega);have HRJ6:Hid (zab.rd w6 hi (x j) cJ):=zab.rd_below HRJ5.out b6 (by omega);clear b6 CS HV1 HC5 HR5 HRJ5
   cases t with
   | true=>
    go_wp2
    go_roundw
    case rel=>exact ⟨j+1,by omega,by omega,by go_num,by rw [zdP HT.out],HS6.out.congr2 (fun m _=>(zeq x HT.out m).symm) (fun m _=>(zeq ce HT.out m).symm),C6.out⟩
    case measure=>simp [intOf];omega
   | false=>
    obtain ⟨q,hq⟩:∃ q,q=(zbq (fun i=>!(del i)) j).length:=⟨_,rfl⟩;have HQ:=hid hq
    have hqn:q<n:=by omega
    rw [← hq]
    have k1:(0:Int)≤(q:Int):=by omega
    have k2:(q:Int)<(n:Int):=by omega
    have hth:w6.there g (q*9) cJ.length:=by rw [hcJ];exact HS6.out.there hqn
    have hpk:(fun i=>!(del i)) j=true:=HT.out
    have hnx:(zbq (fun i=>!(del i)) (j+1)).length=q+1:=by rw [hq,zcw,if_pos hpk];simp
    have HNX:=hid hnx
    have HV7:Hid (View zab 83 (w6.setCells g (q*9) cJ) lo hi (.slice (some ⟨g,0,none⟩) n cap) n (mixF (fun i=>!(del i)) (j+1) x) (mixF (fun i=>!(del i)) (j+1) ce)):=by
     have:=HS6.out.put (by decide) hlo hqn HRJ6.out;refine this.congr2 (fun m _=>?_) (fun m _=>?_)
     ·have:=zih (p:=(fun i=>!(del i))) (j:=j) x hpk m
      rw [← hq] at this;exact this
     ·have:=zih (p:=(fun i=>!(del i))) (j:=j) ce hpk m
      rw [← hq,← HCJ.out] at this;exact this
    have C7:Hid (ChgL [g] w (w6.setCells g (q*9) cJ)):=C6.out.trans (zb7 g cJ w6 _)
    have zq:IntKind.i64.wrap ((q:Int)+1)=(q:Int)+1:=by rw [IntKind.wrap_i64];omega
    clear hq hnx hpk
    go_wp2_with (first | (refine zaF 83 (.tmp 7) rfl rfl (wx.heap.size) rfl HV6.out Tryz.underlying83 zdI hcJ ?_) | (refine wpList_store_mid rfl 83 (.tmp 33) (.tmp 32) rfl g (q*9) cJ.toArray (by simp [Act.eval]) (by simp [Act.eval]) (show w6.there g (q*9) cJ.toArray.size by rw [List.size_toArray];exact hth) (show _=some cJ.toArray.size by rw [List.size_toArray];exact zag hcJ) (all_oneCell_toArray oneJ) ?_;rw [show cJ.toArray.toList=cJ from rfl]))
    go_roundw
    case rel=>exact ⟨j+1,by omega,by omega,by go_num,by rw [HNX.out];simp,HV7.out,C7.out⟩
    case measure=>simp [intOf];omega
  ·obtain rfl:j=n:=by omega
   obtain ⟨q,hq⟩:∃ q,q=(zbq (fun i=>!(del i)) j).length:=⟨_,rfl⟩;have HQ:=hid hq;have S5:=HRW.out;have hlens:=S5.lens
   rcases S5.row.2 with ⟨hnn,_⟩ | ⟨g',cap',cur,he,hbg,hgg,hnc',hcm,hcs,htk⟩
   ·cases hnn
   cases he
   have hqn:q<j:=by omega
   obtain ⟨row,hcl,hrs,hrt⟩:=zjc wx 0 g (q*9) (j-q) (cap-q) cur hgg (by omega) (by
    have h9:cur.size=cap*9:=hcs
    have:q*9+(j-q)*9≤cap*9:=by rw [← Nat.add_mul];exact Nat.mul_le_mul_right 9 (by omega)
    omega)
   have hf:=zjd g j cap q hqn HNC.out;have ht:=fun w'=>zkT g j cap q (by omega) w';obtain ⟨W7,hW7⟩:∃ y,y=wx.setRow g row:=⟨_,rfl⟩;rw [← hW7] at hcl
   have C7:Hid (ChgL [g] w W7):=by
    rw [hW7];exact HCH.out.trans (zcK g row)
   have C7x:ChgL [g] wx W7:=by rw [hW7];exact zcK g row
   have bX:Below lo wx W7:=C7x.bel (fun b hb=>by simp at hb;omega) (by omega)
   have R7:Hid (View zab 83 W7 lo hi (.slice (some ⟨g,0,none⟩) q cap) q (fun i=>x (selF (fun i=>!(del i)) j i)) (fun i=>ce (selF (fun i=>!(del i)) j i))):=by
    have e1:catN q (mixF (fun i=>!(del i)) (j) ce)=catN q (fun i=>ce (selF (fun i=>!(del i)) j i)):=zbO (fun i hi=>by
     show mixF _ j ce i=_
     unfold mixF
     rw [if_pos (by rw [← hq];exact hi)])
    have hl9:∀ i,i<q→(ce (selF (fun i=>!(del i)) j i)).length=zab.sz:=fun i hi=>by
     have:=hlens i (by omega);unfold mixF at this;rw [if_pos (by rw [← hq];exact hi)] at this;exact this
    refine ⟨⟨zbw hl9,.inr ⟨g,cap,row,rfl,hbg,by rw [hW7];exact setRow_heap wx g cur row 83 (0,0) hgg,by omega,hcm,by rw [hrs];exact hcs,?_⟩⟩,fun i hi=>?_⟩
    ·rw [← e1,← zki hlens (Nat.le_of_lt hqn),← htk,List.take_take,Nat.min_eq_left (Nat.mul_le_mul_right _ (Nat.le_of_lt hqn))]
     exact hrt
    ·have h1:=S5.each i (by omega)
     unfold mixF at h1;rw [if_pos (by rw [← hq];exact hi),if_pos (by rw [← hq];exact hi)] at h1;exact zab.rd_below h1 bX hlo
   clear S5 hlens hgg htk hcs hcm hnc' hbg hrs hrt hW7 hless C7x bX;rw [← hq];clear hq
   go_wp2_with (simp only [hcl])
   go_ret;rw [← HQ.out];exact ⟨rfl,R7.out,C7.out⟩
set_option maxRecDepth 20000 in
theorem zhV (ao:Option Addr) (cap:Nat) (fv:Value) (w:World) :
 Calls Tryz.prog 68 #[.slice ao 0 cap,fv] w fun e w'=>e=.returned (.slice ao 0 cap)∧w'=w:=by
 have CI:Calls Tryz.prog 110 #[.slice ao 0 cap,fv] w fun e w'=>e=.returned (.int .i64 (-1))∧w'=w:=by
  go_enter Tryz.func110,Tryz.ntmps110
  go_wp2
  go_loop [8] (fun z=>z=.int .i64 0) (fun _=>0)
  case atStart=>rfl
  case round=>
   subst hrel;go_wp2;go_ret;exact ⟨rfl,rfl⟩
 have te:((-1:Int)==-1)=true:=by decide
 go_enter Tryz.func68,Tryz.ntmps68
 go_wp2_with fail
 refine CI.mono ?_;rintro e w1 ⟨rfl,e1⟩;obtain rfl:=e1.symm;go_wp2;go_ret;exact ⟨rfl,rfl⟩
set_option maxRecDepth 100000 in
theorem ze0 {w:World} {lo B hi:Nat} {s:Nat→Int} {N:Nat} {x:Nat→RecD} {ce:Nat→List Value} {v:Value} {b1 b2 b3 b4 b5:Nat} (h:Ldg w lo B s N N x ce (v) b1 b2 b3 b4 b5) (hok:zah s) (hC:Csd x N) (hN:N≤1000000) (hhi:hi≤w.heap.size) (hr:∀ i,i<N→zab.rd w hi (x i) (ce i)) (hkd:∀ i,i<N→InP (x i).kind 1 4) :
 Calls Tryz.prog 27 #[.pointer (some ⟨B,0,none⟩)] w fun e w'=>∃ u cu,e=.returned u∧View zab 83 w' (w.heap.size+2) hi u (zbl (spa s x N) N).length (fun i=>x (zbN (spa s x N) N i)) cu∧(zab.slice 83).rd w' w'.heap.size ((zbl (spa s x N) N).length,fun i=>x (zbN (spa s x N) N i)) [u]∧Below w.heap.size w w':=by
 have HL:=hid h;have HOK:=hid hok;have HCS:=hid hC;have HR:=hid hr;have HKD:=hid hkd;obtain ⟨ao,cap,hv⟩:=zbu h.row;subst hv;have bM:Below w.heap.size w (w.alloc (.map #[] 0)):=(Below.refl _ _).alloc (Nat.le_refl _) _
 have eM:(w.alloc (.map #[] 0)).heap.size=w.heap.size+1:=by simp
 have T0:=zao (w.alloc (.map #[] 0)) #[.map (some w.heap.size)] 109;rw [eM] at T0;have bQ:Below (w.heap.size+1) (w.alloc (.map #[] 0)) ((w.alloc (.map #[] 0)).alloc (.cells #[.map (some w.heap.size)] 109)):=(Below.refl _ _).alloc (by omega) _;have M0:MapV ((w.alloc (.map #[] 0)).alloc (.cells #[.map (some w.heap.size)] 109)) 112 w.heap.size 0 (cntF (fun i=>¬ SptP s x N i) (fun i=>.agg #[.int .i64 (x i).kind,.int .i64 (x i).seq]) 0):=(zct w 112).block (bQ.block _ (by omega));have B0:=bM.trans (bQ.mono (Nat.le_succ _));obtain ⟨W0,hW0⟩:∃ y,y=(w.alloc (.map #[] 0)).alloc (.cells #[.map (some w.heap.size)] 109):=⟨_,rfl⟩
 have x9:W0.cell? ⟨B,9,none⟩=some (.slice ao N cap):=by rw [hW0];exact (h.keepAll (fun b hb'=>B0.block b hb')).box.cell 9
 have HB0:Hid (Below w.heap.size w W0):=by rw [hW0];exact B0
 have HM0:Hid (MapV W0 112 w.heap.size 0 (cntF (fun i=>¬ SptP s x N i) (fun i=>.agg #[.int .i64 (x i).kind,.int .i64 (x i).seq]) 0)):=by rw [hW0];exact M0
 have HQ0:Hid (Box W0 (w.heap.size+1) #[.map (some w.heap.size)] 109):=by rw [hW0];exact T0
 clear h hok hC hr hkd bM T0 bQ M0 B0;have hmm:=@run_makeMap Tryz.prog
 go_enter Tryz.func27,Tryz.ntmps27
 go_upto_region 3 with fail
 rw [← hW0];clear hW0 eM hmm;go_wp2
 go_loopw [4,15] (fun u i wr=>∃ (k:Nat) (cu:Nat→List Value),k≤N∧i=.int .i64 k∧View zab 83 wr (w.heap.size+2) hi u k x cu∧Box wr (w.heap.size+1) #[.map (some w.heap.size)] 109∧MapV wr 112 w.heap.size k (cntF (fun i=>¬ SptP s x N i) (fun i=>.agg #[.int .i64 (x i).kind,.int .i64 (x i).seq]) k)∧Below w.heap.size w wr) (fun _ i _=>N-(intOf i).toNat)
 case atStart=>exact ⟨0,fun _=>[],Nat.zero_le _,rfl,View.nil _ _ _ _ _,HQ0.out,HM0.out,HB0.out⟩
 case round=>
  clear x9 HB0 HM0 HQ0;obtain ⟨k,cu,hk,rfl,hV,hQ,hM,hb⟩:=hrel;obtain ⟨au,cau,hu⟩:=hV.form;subst hu;have HV:=hid hV;have HQ:=hid hQ;have HM:=hid hM;have HB:=hid hb;have zr:w.heap.size+1<wr.heap.size:=hQ.lt;clear hV hQ hM
  by_cases hlt:k<N
  ·have Lr:=HL.out.keepAll (fun b hb'=>hb.block b hb')
   obtain ⟨ge,cge,cur,hge,q1,q2,q3,q4,q5,q6⟩:∃ g0 cap0 cur,(Value.slice ao N cap)=.slice (some ⟨g0,0,none⟩) N cap0∧lo≤g0∧wr.heap[g0]?=some (.cells cur 107 (0,0))∧N≤cap0∧cap0≤maxLen∧cur.size=cap0*1∧cur.toList.take (N*1)=entL x ce N:=by
    rcases Lr.row.2 with ⟨_,e⟩ | h
    ·omega
    ·exact h
   have hga:ao=some ⟨ge,0,none⟩:=by cases hge;rfl
   have hcg:cap=cge:=by cases hge;rfl
   subst hga;subst hcg
   have ye:wr.cell? ⟨ge,k,none⟩=some (entV (x k).kind (ce k)):=by
    have e1:cur.toList[k]?=some (entV (x k).kind (ce k)):=by
     have:(cur.toList.take (N*1))[k]?=some (entV (x k).kind (ce k)):=by
      rw [q6];unfold entL;rw [List.getElem?_map,List.getElem?_range hlt];rfl
     rw [List.getElem?_take,if_pos (by omega)] at this;exact this
    rw [cell_of_row wr ge k cur _ _ q2]
    simpa using e1
   have t1:(k:Int)<(N:Int):=by omega
   have i1:(0:Int)≤(k:Int):=by omega
   clear hb hge q1 q2 q3 q4 q5 q6 Lr;obtain ⟨ao6,cap6,ao7,cap7,ao8,cap8,ec,-,-,-,k0,k1,k2,k3,k4,k5⟩:=zaw (HR.out k hlt);obtain ⟨td,htd⟩:=exB (SptP s x N k);have HTD:=hid htd;have CSP:Hid (∀ w',Below w.heap.size w w'→Calls Tryz.prog 66 #[.pointer (some ⟨B,0,none⟩),entV (x k).kind (ce k)] w' fun e w''=>e=.returned (.bool td)∧Below w'.heap.size w' w''):=fun w' hb'=>zbb (zhS (HL.out.keepAll (fun b hb2=>hb'.block b hb2)) HOK.out HCS.out (Nat.le_trans hhi hb'.size) (fun i hi'=>zab.rd_below (HR.out i hi') hb' hhi) HKD.out hlt) HTD.out;have HK14:=HKD.out k hlt
   obtain ⟨T, hT, hm⟩ : ∃ T, entV (x k).kind (ce k) = .iface T (.agg #[.int .i64 (x k).kind, .int .i64 (x k).seq, .string (x k).name, .int .i64 (x k).length, .int .i64 (x k).group, .int .i64 (x k).row, .slice ao6 (x k).rows.1 cap6, .slice ao7 (x k).data.1 cap7, .slice ao8 (x k).delta.1 cap8]) ∧ ∀ w, (method (Tryz.prog.types.size + Made.depth) T (.agg #[.int .i64 (x k).kind, .int .i64 (x k).seq, .string (x k).name, .int .i64 (x k).length, .int .i64 (x k).group, .int .i64 (x k).row, .slice ao6 (x k).rows.1 cap6, .slice ao7 (x k).data.1 cap7, .slice ao8 (x k).delta.1 cap8]) "loop.example/g00089/impl.record").run Tryz.prog w = .ok (175, .agg #[.int .i64 (x k).kind, .int .i64 (x k).seq, .string (x k).name, .int .i64 (x k).length, .int .i64 (x k).group, .int .i64 (x k).row, .slice ao6 (x k).rows.1 cap6, .slice ao7 (x k).data.1 cap7, .slice ao8 (x k).delta.1 cap8]) w := by
    rw [ec];obtain ⟨u1,u2⟩:=HK14
    have hc:(x k).kind=1∨(x k).kind=2∨(x k).kind=3∨(x k).kind=4:=by omega
    rcases hc with e | e | e | e
    ·exact ⟨146,by unfold entV entT;simp [e],fun w=>zkl _ _ _ _ _ _ _ _ _ w⟩
    ·exact ⟨147,by unfold entV entT;simp [e],fun w=>zkm _ _ _ _ _ _ _ _ _ w⟩
    ·exact ⟨148,by unfold entV entT;simp [e],fun w=>zkn _ _ _ _ _ _ _ _ _ w⟩
    ·exact ⟨151,by unfold entV entT;simp [e],fun w=>zjf _ _ _ _ _ _ _ _ _ w⟩
   rw [hT] at ye
   have CSP2:Hid (∀ w',Below w.heap.size w w'→Calls Tryz.prog 66 #[.pointer (some ⟨B,0,none⟩),.iface T (.agg #[.int .i64 (x k).kind,.int .i64 (x k).seq,.string (x k).name,.int .i64 (x k).length,.int .i64 (x k).group,.int .i64 (x k).row,.slice ao6 (x k).rows.1 cap6,.slice ao7 (x k).data.1 cap7,.slice ao8 (x k).delta.1 cap8])] w' fun e w''=>e=.returned (.bool td)∧Below w'.heap.size w' w''):=by
    show ∀ w',Below w.heap.size w w'→Calls Tryz.prog 66 #[.pointer (some ⟨B,0,none⟩),.iface T (.agg #[.int .i64 (x k).kind,.int .i64 (x k).seq,.string (x k).name,.int .i64 (x k).length,.int .i64 (x k).group,.int .i64 (x k).row,.slice ao6 (x k).rows.1 cap6,.slice ao7 (x k).data.1 cap7,.slice ao8 (x k).delta.1 cap8])] w' fun e w''=>e=.returned (.bool td)∧Below w'.heap.size w' w''
    rw [← hT];exact CSP.out
   obtain ⟨r,hrr⟩:∃ r,r=x k:=⟨_,rfl⟩;have HRR:=hid hrr
   have HQ0:Hid (-9223372036854775808≤r.kind∧r.kind≤9223372036854775807):=by rw [hrr];exact k0
   have HQ1:Hid (-9223372036854775808≤r.seq∧r.seq≤9223372036854775807):=by rw [hrr];exact k1
   rw [← hrr] at ye hm CSP2 ec
   have HRX:Hid (zab.rd w hi r [.int .i64 r.kind,.int .i64 r.seq,.string r.name,.int .i64 r.length,.int .i64 r.group,.int .i64 r.row,.slice ao6 r.rows.1 cap6,.slice ao7 r.data.1 cap7,.slice ao8 r.delta.1 cap8]):=by
    show zab.rd w hi r [.int .i64 r.kind,.int .i64 r.seq,.string r.name,.int .i64 r.length,.int .i64 r.group,.int .i64 r.row,.slice ao6 r.rows.1 cap6,.slice ao7 r.data.1 cap7,.slice ao8 r.delta.1 cap8]
    rw [← ec,hrr];exact HR.out k hlt
   clear htd hT CSP HK14 ec hrr k0 k1 k2 k3 k4 k5
   go_upto_region 7 with (refine zkk rfl (.tmp 19) "loop.example/g00089/impl.record" rfl (by simp [Act.eval, Act.put]) (hm _) Tryz.func175 (by kernel_rfl) (by kernel_rfl) (zje r ao6 ao7 ao8 cap6 cap7 cap8 _) ?_; rintro e w1 ⟨rfl, b1⟩; refine ⟨_, rfl, ?_⟩)
   have bA:=bAl w1 (.cells #[.int .i64 r.kind,.int .i64 r.seq,.string r.name,.int .i64 r.length,.int .i64 r.group,.int .i64 r.row,.slice ao6 r.rows.1 cap6,.slice ao7 r.data.1 cap7,.slice ao8 r.delta.1 cap8] 83);have X6:=zao w1 #[.int .i64 r.kind,.int .i64 r.seq,.string r.name,.int .i64 r.length,.int .i64 r.group,.int .i64 r.row,.slice ao6 r.rows.1 cap6,.slice ao7 r.data.1 cap7,.slice ao8 r.delta.1 cap8] 83;have z1:wr.heap.size≤w1.heap.size:=b1.size;have b16:=b1.trans (bA.mono z1);obtain ⟨W6,hW6⟩:∃ y,y=w1.alloc (.cells #[.int .i64 r.kind,.int .i64 r.seq,.string r.name,.int .i64 r.length,.int .i64 r.group,.int .i64 r.row,.slice ao6 r.rows.1 cap6,.slice ao7 r.data.1 cap7,.slice ao8 r.delta.1 cap8] 83):=⟨_,rfl⟩;rw [← hW6] at X6 b16 ⊢;have HX6:=hid X6;have z6:w1.heap.size<W6.heap.size:=X6.lt;have HV6:Hid (View zab 83 W6 (w.heap.size+2) hi (.slice au k cau) k x cu):=HV.out.below b16 (by omega);have HQ6:Hid (Box W6 (w.heap.size+1) #[.map (some w.heap.size)] 109):=HQ.out.below b16 (by omega);have HM6:Hid (MapV W6 112 w.heap.size k (cntF (fun i=>¬ SptP s x N i) (fun i=>.agg #[.int .i64 (x i).kind,.int .i64 (x i).seq]) k)):=HM.out.block (b16.block _ (by omega));have HB6:Hid (Below w.heap.size w W6):=HB.out.trans (b16.mono (by omega));have HOWN:Hid (∀ g,(Value.slice au k cau).ownBlock=some g→w.heap.size+2≤g∧g<wr.heap.size):=fun g h=>HV.out.row.lt g h;have bA2:=bAl W6 (.cells #[.int .i64 r.kind,.int .i64 r.seq,.string r.name,.int .i64 r.length,.int .i64 r.group,.int .i64 r.row,.slice ao6 r.rows.1 cap6,.slice ao7 r.data.1 cap7,.slice ao8 r.delta.1 cap8] 83);have HRX6:=hid (zab.rd_below HRX.out HB6.out hhi);obtain ⟨v8,w8,hrun,V8,G8,b8⟩:=za7 zcu zaM 30 (HV6.out.below bA2 (by omega)) 1 (zdV (b:=W6.heap.size) (hi:=hi) (y:=r) (cs:=[.int .i64 r.kind,.int .i64 r.seq,.string r.name,.int .i64 r.length,.int .i64 r.group,.int .i64 r.row,.slice ao6 r.rows.1 cap6,.slice ao7 r.data.1 cap7,.slice ao8 r.delta.1 cap8]) (fun j hj=>((zao W6 #[.int .i64 r.kind,.int .i64 r.seq,.string r.name,.int .i64 r.length,.int .i64 r.group,.int .i64 r.row,.slice ao6 r.rows.1 cap6,.slice ao7 r.data.1 cap7,.slice ao8 r.delta.1 cap8] 83).cell j).trans (by simp)) (zab.rd_below HRX6.out bA2 (by omega))) (by simp;omega) (by omega) (by omega) (fun e=>by cases e)
   have b68:Below (w.heap.size+2) W6 w8:=(bA2.mono (by omega)).trans b8
   have HV8:Hid (View zab 83 w8 (w.heap.size+2) hi v8 (k+1) x (cat2 cu k (fun _=>[.int .i64 r.kind,.int .i64 r.seq,.string r.name,.int .i64 r.length,.int .i64 r.group,.int .i64 r.row,.slice ao6 r.rows.1 cap6,.slice ao7 r.data.1 cap7,.slice ao8 r.delta.1 cap8]))):=by
    refine V8.congr (fun i hi'=>?_)
    by_cases c1:i<k
    ·rw [zbK _ _ c1]
    ·obtain rfl:i=k:=by omega
     have e9:=zbS x i (fun _=>r) 0;rw [Nat.add_zero] at e9;rw [e9,HRR.out]
   have HX8:Hid (Box w8 w1.heap.size #[.int .i64 r.kind,.int .i64 r.seq,.string r.name,.int .i64 r.length,.int .i64 r.group,.int .i64 r.row,.slice ao6 r.rows.1 cap6,.slice ao7 r.data.1 cap7,.slice ao8 r.delta.1 cap8] 83):=(G8.block w1.heap.size (by simp;omega) (fun e=>by have:=(HOWN.out _ e.symm).2;omega)).trans ((X6.below bA2 (by omega)));have HQ8:Hid (Box w8 (w.heap.size+1) #[.map (some w.heap.size)] 109):=HQ6.out.below b68 (by omega);have HM8:Hid (MapV w8 112 w.heap.size k (cntF (fun i=>¬ SptP s x N i) (fun i=>.agg #[.int .i64 (x i).kind,.int .i64 (x i).seq]) k)):=HM6.out.block (b68.block _ (by omega));have HB8:Hid (Below w.heap.size w w8):=HB6.out.trans (b68.mono (by omega));have z8:W6.heap.size≤w8.heap.size:=b68.size;obtain ⟨a8,c8,hv8⟩:=V8.form;subst hv8;have HOWN8:Hid (∀ g,(Value.slice a8 (k+1) c8).ownBlock=some g→w.heap.size+2≤g∧g<w8.heap.size):=fun g h=>HV8.out.row.lt g h;have y_0:W6.cell? ⟨w1.heap.size,0,none⟩=some (.int .i64 r.kind):=X6.cell 0;have y_1:W6.cell? ⟨w1.heap.size,1,none⟩=some (.int .i64 r.seq):=X6.cell 1;have y_2:W6.cell? ⟨w1.heap.size,2,none⟩=some (.string r.name):=X6.cell 2;have y_3:W6.cell? ⟨w1.heap.size,3,none⟩=some (.int .i64 r.length):=X6.cell 3;have y_4:W6.cell? ⟨w1.heap.size,4,none⟩=some (.int .i64 r.group):=X6.cell 4;have y_5:W6.cell? ⟨w1.heap.size,5,none⟩=some (.int .i64 r.row):=X6.cell 5;have y_6:W6.cell? ⟨w1.heap.size,6,none⟩=some (.slice ao6 r.rows.1 cap6):=X6.cell 6;have y_7:W6.cell? ⟨w1.heap.size,7,none⟩=some (.slice ao7 r.data.1 cap7):=X6.cell 7;have y_8:W6.cell? ⟨w1.heap.size,8,none⟩=some (.slice ao8 r.delta.1 cap8):=X6.cell 8;clear hW6 bA b1 b16 X6 HV HQ HM HB ye bA2 V8 G8 b8 b68 hm i1
   go_wp2_with (at_builtin;refine zcC rfl (.tmp 21) (.tmp 23) rfl ?_ ?_ hrun ?_;(simp [Act.eval]);(simp [Act.eval]))
   clear hrun y_0 y_1 y_2 y_3 y_4 y_5 y_6 y_7 y_8;have CS8:=CSP2.out w8 HB8.out
   try go_wp2_with fail
   refine CS8.mono ?_;rintro e w9 ⟨rfl,b9⟩;have HV9:Hid (View zab 83 w9 (w.heap.size+2) hi (.slice a8 (k+1) c8) (k+1) x (cat2 cu k (fun _=>[.int .i64 r.kind,.int .i64 r.seq,.string r.name,.int .i64 r.length,.int .i64 r.group,.int .i64 r.row,.slice ao6 r.rows.1 cap6,.slice ao7 r.data.1 cap7,.slice ao8 r.delta.1 cap8]))):=HV8.out.below b9 (by omega);have HX9:Hid (Box w9 w1.heap.size #[.int .i64 r.kind,.int .i64 r.seq,.string r.name,.int .i64 r.length,.int .i64 r.group,.int .i64 r.row,.slice ao6 r.rows.1 cap6,.slice ao7 r.data.1 cap7,.slice ao8 r.delta.1 cap8] 83):=HX8.out.below b9 (by omega);have HQ9:Hid (Box w9 (w.heap.size+1) #[.map (some w.heap.size)] 109):=HQ8.out.below b9 (by omega);have HM9:Hid (MapV w9 112 w.heap.size k (cntF (fun i=>¬ SptP s x N i) (fun i=>.agg #[.int .i64 (x i).kind,.int .i64 (x i).seq]) k)):=HM8.out.block (b9.block _ (by omega));have HB9:Hid (Below w.heap.size w w9):=HB8.out.trans (b9.mono (by omega));have z9:w8.heap.size≤w9.heap.size:=b9.size;clear CS8 b9 HV8 HX8 HQ8 HM8 HB8 HV6 HQ6 HM6 HB6 HX6 HRX6
   cases td with
   | true=>
    have HE:Hid (cntF (fun i=>¬ SptP s x N i) (fun i=>.agg #[.int .i64 (x i).kind,.int .i64 (x i).seq]) (k+1)=cntF (fun i=>¬ SptP s x N i) (fun i=>.agg #[.int .i64 (x i).kind,.int .i64 (x i).seq]) k):=zbv (fun h=>h (HTD.out.1 rfl));go_wp2
    go_roundw
    case rel=>exact ⟨k+1,_,by omega,by go_num,HV9.out,HQ9.out,by rw [HE.out];exact HM9.out.mono (Nat.le_succ k),HB9.out⟩
    case measure=>simp [intOf];omega
   | false=>
    have hns:¬ SptP s x N k:=fun h=>by have:=HTD.out.2 h;cases this
    obtain ⟨kl,hkl⟩:=zg3 HQ0.out HQ1.out;have hcn:=zjN (fun i=>¬ SptP s x N i) (fun i=>.agg #[.int .i64 (x i).kind,.int .i64 (x i).seq]) (.agg #[.int .i64 r.kind,.int .i64 r.seq]) k;have hget:(cntF (fun i=>¬ SptP s x N i) (fun i=>.agg #[.int .i64 (x i).kind,.int .i64 (x i).seq]) k (.agg #[.int .i64 r.kind,.int .i64 r.seq])).getD (.int .i64 0)=.int .i64 (cN (fun i=>¬ SptP s x N i) (fun i=>.agg #[.int .i64 (x i).kind,.int .i64 (x i).seq]) (.agg #[.int .i64 r.kind,.int .i64 r.seq]) k:Int):=zcj _ _ _ _;obtain ⟨cn,hcn2⟩:∃ cn,cn=cN (fun i=>¬ SptP s x N i) (fun i=>.agg #[.int .i64 (x i).kind,.int .i64 (x i).seq]) (.agg #[.int .i64 r.kind,.int .i64 r.seq]) k:=⟨_,rfl⟩
    have HE:Hid (cntF (fun i=>¬ SptP s x N i) (fun i=>.agg #[.int .i64 (x i).kind,.int .i64 (x i).seq]) (k+1)=putF (cntF (fun i=>¬ SptP s x N i) (fun i=>.agg #[.int .i64 (x i).kind,.int .i64 (x i).seq]) k) (.agg #[.int .i64 r.kind,.int .i64 r.seq]) (.int .i64 ((cn:Int)+1))):=by
     show cntF (fun i=>¬ SptP s x N i) (fun i=>.agg #[.int .i64 (x i).kind,.int .i64 (x i).seq]) (k+1)=putF (cntF (fun i=>¬ SptP s x N i) (fun i=>.agg #[.int .i64 (x i).kind,.int .i64 (x i).seq]) k) (.agg #[.int .i64 r.kind,.int .i64 r.seq]) (.int .i64 ((cn:Int)+1))
     rw [hcn2,HRR.out];exact zen hns
    rw [← hcn2] at hcn hget;have bD:Below w9.heap.size w9 w9.drew:=⟨rfl,rfl,rfl,Nat.le_refl _,fun _ _=>rfl⟩;have M3:MapV w9.drew 112 w.heap.size k (cntF (fun i=>¬ SptP s x N i) (fun i=>.agg #[.int .i64 (x i).kind,.int .i64 (x i).seq]) k):=HM9.out.block rfl;have Q3:Box w9.drew (w.heap.size+1) #[.map (some w.heap.size)] 109:=HQ9.out;have X3:Box w9.drew w1.heap.size #[.int .i64 r.kind,.int .i64 r.seq,.string r.name,.int .i64 r.length,.int .i64 r.group,.int .i64 r.row,.slice ao6 r.rows.1 cap6,.slice ao7 r.data.1 cap7,.slice ao8 r.delta.1 cap8] 83:=HX9.out;have hlook:=M3.look zk8 Tryz.underlying109 (zc2 _) hkl;obtain ⟨st,w5,hent,z5,G5,hlk5,hst⟩:=M3.entry zk7 Tryz.underlying109 (by unfold maxLen;omega) zc2 hkl;rw [hget] at hlook hent hlk5
    have hwr:IntKind.i64.wrap ((cn:Int)+1)=(cn:Int)+1:=by rw [IntKind.wrap_i64];omega
    obtain ⟨w6,hrun6,M6,G6,S6⟩:=hst (.int .i64 ((cn:Int)+1));have S3:w9.drew.cell? ⟨w.heap.size+1,0,none⟩=some (.map (some w.heap.size))∧w9.drew.cell? ⟨w1.heap.size,0,none⟩=some (.int .i64 r.kind)∧w9.drew.cell? ⟨w1.heap.size,1,none⟩=some (.int .i64 r.seq)∧(Instr.lookup 109 (.map (some w.heap.size)) (.agg #[.int .i64 r.kind,.int .i64 r.seq]) false).run Tryz.prog w9.drew=.ok (.int .i64 (cn:Int)) w9.drew:=⟨Q3.cell 0,X3.cell 0,X3.cell 1,hlook⟩;have nb:∀ b,b<w9.drew.heap.size→b≠w.heap.size→w5.heap[b]?=w9.drew.heap[b]?:=fun b hb hn=>G5.block b hb (fun e=>hn (by cases e;rfl));have S5:w5.cell? ⟨w.heap.size+1,0,none⟩=some (.map (some w.heap.size))∧w5.cell? ⟨w1.heap.size,0,none⟩=some (.int .i64 r.kind)∧w5.cell? ⟨w1.heap.size,1,none⟩=some (.int .i64 r.seq)∧(Instr.lookup 109 (.map (some w.heap.size)) (.agg #[.int .i64 r.kind,.int .i64 r.seq]) false).run Tryz.prog w5=.ok (.int .i64 (cn:Int)) w5:=⟨(World.cell?_of_block (w:=w9.drew) (nb (w.heap.size+1) Q3.lt (by omega))).trans (Q3.cell 0),(World.cell?_of_block (w:=w9.drew) (nb w1.heap.size X3.lt (by omega))).trans (X3.cell 0),(World.cell?_of_block (w:=w9.drew) (nb w1.heap.size X3.lt (by omega))).trans (X3.cell 1),hlk5⟩
    have HMN:Hid (MapV w6 112 w.heap.size (k+1) (cntF (fun i=>¬ SptP s x N i) (fun i=>.agg #[.int .i64 (x i).kind,.int .i64 (x i).seq]) (k+1))):=by
     show MapV w6 112 w.heap.size (k+1) (cntF (fun i=>¬ SptP s x N i) (fun i=>.agg #[.int .i64 (x i).kind,.int .i64 (x i).seq]) (k+1))
     rw [HE.out];exact M6
    have HE6:Hid (∀ b,b<w9.drew.heap.size→b≠w.heap.size→w6.heap[b]?=w9.drew.heap[b]?):=fun b hb hn=>G6.block b hb (fun e=>hn (by cases e;rfl));have HQN:Hid (Box w6 (w.heap.size+1) #[.map (some w.heap.size)] 109):=(HE6.out _ Q3.lt (by omega)).trans Q3;have BN:Below w.heap.size w9.drew w6:=⟨G6.os,G6.tape,G6.output,G6.size,fun b hb=>G6.block b (by have:w9.drew.heap.size=w9.heap.size:=rfl;omega) (fun e=>by cases e;omega)⟩;have HBN:Hid (Below w.heap.size w w6):=(HB9.out.trans (bD.mono (by omega))).trans BN;have HVN:Hid (View zab 83 w6 (w.heap.size+2) hi (.slice a8 (k+1) c8) (k+1) x (cat2 cu k (fun _=>[.int .i64 r.kind,.int .i64 r.seq,.string r.name,.int .i64 r.length,.int .i64 r.group,.int .i64 r.row,.slice ao6 r.rows.1 cap6,.slice ao7 r.data.1 cap7,.slice ao8 r.delta.1 cap8]))):=(View.below HV9.out bD (by omega)).kept (fun b hb=>HE6.out b (by have:w9.drew.heap.size=w9.heap.size:=rfl;have:=(HOWN8.out b hb).2;omega) (by have:=(HOWN8.out b hb).1;omega)) (BN.mono hhi);clear M6 G6 G5 hst X3 Q3 M3 hkl hcn2 hget nb hlook hlk5 BN bD hns HV9 HX9 HQ9 HM9 HB9
    go_upto_region 9 with fail
    refine zax 10 (fun w'=>w'.cell? ⟨w.heap.size+1,0,none⟩=some (.map (some w.heap.size))∧w'.cell? ⟨w1.heap.size,0,none⟩=some (.int .i64 r.kind)∧w'.cell? ⟨w1.heap.size,1,none⟩=some (.int .i64 r.seq)∧(Instr.lookup 109 (.map (some w.heap.size)) (.agg #[.int .i64 r.kind,.int .i64 r.seq]) false).run Tryz.prog w'=.ok (.int .i64 (cn:Int)) w') zk0 S3 (fun hHeld=>?_);refine zlO 0 rfl ?_
    try simp only [Act.put,SL]
    refine zlN 1 rfl ?_
    try simp only [Act.put,SL]
    refine zlO 2 rfl ?_
    try simp only [Act.put,SL]
    refine zlN 3 rfl ?_
    try simp only [Act.put,SL]
    refine zlO 4 rfl ?_
    try simp only [Act.put,SL]
    refine zlN 5 rfl ?_
    try simp only [Act.put,SL]
    refine zlO 6 rfl ?_
    try simp only [Act.put,SL]
    refine zlN 7 rfl ?_
    try simp only [Act.put,SL]
    refine za3 (i:=8) (o:=_) rfl (by kernel_rfl) (fun KC hKC=>?_);refine zfn rfl 109 _ _ rfl w.heap.size _ _ (by simp [Act.eval,Act.put]) (by simp [Act.eval,Act.put]) hent ?_;refine hKC _ _ S5 ?_;clear hKC KC
    try simp only [Act.put,SL]
    refine zaa (i:=9) (oi:=_) (v:=?_) rfl (by kernel_rfl) (fun _ _ _ h=>h) (Or.inl ⟨by kernel_rfl,?_⟩) S5 ?_
    rotate_left
    ·intro w' hSw;go_simp;try with_reducible rfl
    try simp only [Act.put,SL]
    refine zar (i:=10) (o:=_) rfl (by kernel_rfl) (by kernel_rfl) (fun KC hKC=>?_);refine zeG rfl 109 _ _ _ rfl w.heap.size _ _ (by simp [Act.eval,Act.put]) (by simp [Act.eval,Act.put]) (by simp [Act.eval,Act.put]) hrun6 ?_;refine hKC _ _ ?_;clear hKC KC
    try simp only [Act.put,SL]
    refine zas (by kernel_rfl) ?_ _;clear S5 S3 hHeld hent hrun6 z5;go_wp2
    go_roundw
    case rel=>exact ⟨k+1,_,by omega,by go_num,HVN.out,HQN.out,HMN.out,HBN.out⟩
    case measure=>simp [intOf];omega
  ·obtain rfl:k=N:=by omega
   obtain ⟨tq,htq⟩:∃ tq,tq=zc7 k x:=⟨_,rfl⟩;have HTQ:=hid htq;have CG:=zeY (.slice au k cau) k x wr.heap.size wr (HV.out.rd (by omega)) (by omega);rw [← htq] at CG;have G2:=zao wr #[.int .i64 tq] 2;have bG:=bAl wr (.cells #[.int .i64 tq] 2);obtain ⟨W2,hW2⟩:∃ y,y=wr.alloc (.cells #[.int .i64 tq] 2):=⟨_,rfl⟩;rw [← hW2] at G2 bG;have HG2:=hid G2;have HV2:Hid (View zab 83 W2 (w.heap.size+2) hi (.slice au k cau) k x cu):=HV.out.below bG (by omega);have HQ2:Hid (Box W2 (w.heap.size+1) #[.map (some w.heap.size)] 109):=HQ.out.below bG (by omega);have HM2:Hid (MapV W2 112 w.heap.size k (cntF (fun i=>¬ SptP s x k i) (fun i=>.agg #[.int .i64 (x i).kind,.int .i64 (x i).seq]) k)):=HM.out.block (bG.block _ (by omega));have HB2:Hid (Below w.heap.size w W2):=HB.out.trans (bG.mono (by omega));have z2:wr.heap.size<W2.heap.size:=G2.lt;have HOWN:Hid (∀ g,(Value.slice au k cau).ownBlock=some g→w.heap.size+2≤g∧g<wr.heap.size):=fun g h=>HV.out.row.lt g h;clear hb htq G2 bG HV HQ HM HB
   go_upto_region 12 with (go_at_call 67;refine CG.mono ?_;rintro e w3 ⟨rfl,e3⟩;obtain rfl:=e3.symm)
   try rw [← hW2]
   clear CG hW2
   by_cases h0:k=0
   ·subst h0
    have CD:=zhV au cau (.func (.func 69) #[] #[.pointer (some ⟨wr.heap.size,0,none⟩),.pointer (some ⟨w.heap.size+1,0,none⟩)]) W2;have HVW:Hid (View zab 83 W2 (w.heap.size+2) hi (.slice au 0 cau) (zbl (spa s x 0) 0).length (fun i=>x (zbN (spa s x 0) 0 i)) cu):=HV2.out.congr (fun i hi'=>by omega)
    go_wp2_with fail
    refine CD.mono ?_;rintro e w3 ⟨rfl,e3⟩;obtain rfl:=e3.symm;clear CD;go_wp2;go_ret;exact ⟨_,cu,rfl,HVW.out,HVW.out.rd (by omega),HB2.out⟩
   ·obtain ⟨g,cap9,hu9⟩:=HV2.out.form0 h0
    have hau:au=some ⟨g,0,none⟩:=by cases hu9;rfl
    subst hau;have hgb:=HOWN.out g rfl
    have CD:=zg4 g cau k (w.heap.size+2) hi x cu wr.heap.size (w.heap.size+1) (zff s x k) W2 HV2.out (by omega) (by omega) (by omega) (fun j hj w' hch=>by
     obtain ⟨bo6,bap6,bo7,bap7,bo8,bap8,hce,-⟩:=zaw (HV2.out.each j hj);obtain ⟨co6,cap6',co7,cap7',co8,cap8',-,-,-,-,k0,k1,-⟩:=zaw (HR.out j hj);rw [hce];have:=zko wr.heap.size (w.heap.size+1) w.heap.size k tq (cntF (fun i=>¬ SptP s x k i) (fun i=>.agg #[.int .i64 (x i).kind,.int .i64 (x i).seq]) k) (cN (fun i=>¬ SptP s x k i) (fun i=>.agg #[.int .i64 (x i).kind,.int .i64 (x i).seq]) (.agg #[.int .i64 (x j).kind,.int .i64 (x j).seq]) k) (x j) bo6 bo7 bo8 bap6 bap7 bap8 w' ((hch.block _ HG2.out.lt (by simp;omega)).trans HG2.out) ((hch.block _ HQ2.out.lt (by simp;omega)).trans HQ2.out) (HM2.out.block (hch.block _ HM2.out.lt (by simp;omega))) (zcj _ _ _ _) k0 k1;rw [HTQ.out] at this
     exact this)
    clear h0
    go_wp2_with fail
    refine CD.mono ?_;rintro e w3 ⟨rfl,V3,c3⟩
    have HVW:Hid (View zab 83 w3 (w.heap.size+2) hi (.slice (some ⟨g,0,none⟩) (zbq (fun i=>!(zff s x k i)) k).length cau) (zbl (spa s x k) k).length (fun i=>x (zbN (spa s x k) k i)) (fun i=>cu (selF (fun i=>!(zff s x k i)) k i))):=by
     have h9:=V3;have e5:=zii (s:=s) HCS.out;rw [show (fun i=>x (zbN (spa s x k) k i))=(fun i=>x (selF (fun i=>!(zff s x k i)) k i)) from funext (fun i=>by rw [zlx HCS.out])];rw [← e5];exact h9
    have HZ3:Hid (hi≤w3.heap.size):=by have:=c3.size;show hi≤w3.heap.size;omega
    have HB3:Hid (Below w.heap.size w w3):=HB2.out.trans (c3.bel (fun b hb=>by simp at hb;omega) (by omega));clear CD V3 c3;go_wp2;go_ret;exact ⟨_,_,rfl,HVW.out,HVW.out.rd HZ3.out,HB3.out⟩
noncomputable def undOf (d:WorldD) (t:Int) (l:List Nat):Nat×(Nat→RecD):=((zbl (und d.shape t (fun i=>recT d.tapes.2 2 (l.getD i 0)) l.length) l.length).length,fun i=>recT d.tapes.2 2 (l.getD (zbN (und d.shape t (fun i=>recT d.tapes.2 2 (l.getD i 0)) l.length) l.length i) 0))
theorem zkV (p:Nat→Bool) (f:Nat→Nat) (n:Nat):sumN (fun i=>f (zbN p n i)) (zbl p n).length≤sumN f n∧(zbl p n).length≤n:=by
 have:=zfN f n (zbl p n) (zi8 p n) (fun i hi=>zlp hi);rw [← zig f] at this;exact this
theorem ze1 {n:Nat} {args:Array Value} {w:World} {R:Ending→World→Prop} (h:Calls Tryz.prog n args w R):Calls Tryz.prog n (args++#[]) w R:=by rw [Array.append_empty];exact h
theorem zly {cs:List Value} (h:cs.length=9):(Tryz.prog.info? 34).map (·.size)=some cs.length:=by rw [h];kernel_rfl
theorem zfg {ops:Array Oper} {o:Oper} {a:Act} {w:World} {K:Act→World→Prop} {Q:Exit→Act→World→Prop} {F:Prop} (T:TypeId) (x y:Operand) (ho:o.op=.store T x y) (hgd:o.guard=none) (b:Nat) (hx:a.eval x=.pointer (some ⟨b,0,none⟩)) {cs old:List Value} (hy:a.eval y=.agg cs.toArray) (hB:Box w b old.toArray T) {n:Nat} (hi:(Tryz.prog.info? T).map (·.size)=some n) (hl:cs.length=n) (hol:old.length=n) (h1:∀ v,v∈cs→v.oneCell'=true)
 (h:∀ w',Box w' b cs.toArray T→ChgL [b] w w'→w'.heap.size=w.heap.size→K (a.put o.dst undef) w'):if Region.wanted o (yielded ops a.tmps)=true then Oper.wp Tryz.prog o a w K Q else F:=by
 have hw:Region.wanted o (yielded ops a.tmps)=true:=by simp [Region.wanted,hgd]
 rw [if_pos hw];refine wp_store_row T x y ho b cs.toArray hx hy T old.toArray hB (by rw [hi];simp [hl]) (by simp [hl,hol]) (by simp;exact h1) ?_;exact h _ (setRow_heap w b _ cs.toArray T (0,0) hB) (zcK b _) (by simp)
end Go.Proofs.YtajibninhikdgaaGreat
