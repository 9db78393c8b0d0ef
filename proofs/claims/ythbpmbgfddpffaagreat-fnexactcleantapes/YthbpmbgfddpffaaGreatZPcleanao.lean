/- Spent records: what the program lists. -/
import Derived.Defers
import Derived.Recover
import Derived.Laws.LoneSync
import Derived.Laws.Pointers
import Derived.RegionCalls
import Derived.Test.YthbpmbgfddpffaaGreatZPcleanan
set_option linter.unusedVariables false
set_option linter.unusedSimpArgs false
set_option maxHeartbeats 16000000
namespace Go.Proofs.YthbpmbgfddpffaaGreat
open Go.RowKit F256
theorem znh:WideMaps.KeyLaw Tryz.prog 154:=deep_law_laid zha (m:=2) (by omega) (of_decide_eq_true (by kernel_rfl)) (by kernel_rfl) (by kernel_rfl)
theorem zni:Go.Maps.Keyed Tryz.prog 154:=Go.Maps.Keyed.of_law znh
theorem zip {a b:Int} (ha:-9223372036854775808≤a∧a≤9223372036854775807) (hb:-9223372036854775808≤b∧b≤9223372036854775807):∃ l,keyOf Tryz.prog 154 (.agg #[.int .i64 a,.int .i64 b])=some l:=by
 have h1:Tryz.prog.keyType 154=true:=by kernel_rfl
 have h2:Tryz.prog.cellsOf 154=2:=by kernel_rfl
 have h3:Tryz.prog.cellsOf 2=1:=by kernel_rfl
 obtain ⟨m,hm⟩:∃ m,Tryz.prog.types.size=m+1:=⟨Tryz.prog.types.size-1,by have:0<Tryz.prog.types.size:=of_decide_eq_true (by kernel_rfl);omega⟩
 have k1:∀ x:Int,(-9223372036854775808≤x∧x≤9223372036854775807)→Tryz.prog.keyLits (m+1) 2 [.int .i64 x]=some [.int .i64 x]:=fun x hx=>by
  unfold Program.keyLits;rw [Tryz.underlying2]
  simp [wf64 hx]
 have k2:∃ ls,Tryz.prog.keyLits (m+1+1) 154 [.int .i64 a,.int .i64 b]=some ls:=by
  unfold Program.keyLits;rw [Tryz.underlying154]
  simp [h2,h3,k1 a ha,k1 b hb,List.range_succ,List.range_zero]
 obtain ⟨ls,k3⟩:=k2;refine ⟨.string (keyBytes ls),?_⟩;unfold keyOf;rw [Tryz.underlying154]
 have h4:(Value.agg #[.int .i64 a,.int .i64 b]).formed Tryz.prog 154=true:=by simp [Value.formed,Tryz.underlying154,h2]
 have h5:(Value.agg #[.int .i64 a,.int .i64 b]).cells.toList=[.int .i64 a,.int .i64 b]:=rfl
 simp only [h1,h4,h5,hm,k3,Bool.and_self,if_true,Option.map_some]
noncomputable def zgb (s:Nat→Int) (x:Nat→RecD) (N:Nat):Nat→Bool:=fun i=>decide ((x i).seq=zdo N x)||decide (0<cN (fun i=>¬ SptP s x N i) (fun i=>.agg #[.int .i64 (x i).kind,.int .i64 (x i).seq]) (.agg #[.int .i64 (x i).kind,.int .i64 (x i).seq]) N)
theorem zl7 {s:Nat→Int} {x:Nat→RecD} {N:Nat} (hC:Csd x N) {i:Nat} (hi:i<N):(!(zgb s x N i))=spa s x N i:=by
 have ht:=zoi hC hi
 have hc:0<cN (fun i=>¬ SptP s x N i) (fun i=>.agg #[.int .i64 (x i).kind,.int .i64 (x i).seq]) (.agg #[.int .i64 (x i).kind,.int .i64 (x i).seq]) N↔∃ j,j<N∧¬ SptP s x N j∧((x j).kind=(x i).kind∧(x j).seq=(x i).seq):=by
  rw [zik];exact ⟨fun ⟨j,a,b,c⟩=>⟨j,a,b,by simpa using c⟩,fun ⟨j,a,b,c⟩=>⟨j,a,b,by rw [c.1,c.2]⟩⟩
 by_cases h:SpaP s x N i
 ·rw [(zl3 s x N i).2 h]
  have h1:¬ (x i).seq=zdo N x:=by have:=h.1;omega
  have h2:¬ 0<cN (fun i=>¬ SptP s x N i) (fun i=>.agg #[.int .i64 (x i).kind,.int .i64 (x i).seq]) (.agg #[.int .i64 (x i).kind,.int .i64 (x i).seq]) N:=fun q=>by
   obtain ⟨j,a,b,c⟩:=hc.1 q;exact b (h.2 j a c.1 c.2)
  unfold zgb;rw [decide_eq_false h1,decide_eq_false h2];rfl
 ·rw [zl4 h]
  by_cases h1:(x i).seq=zdo N x
  ·unfold zgb
   rw [decide_eq_true h1];rfl
  ·have h2:0<cN (fun i=>¬ SptP s x N i) (fun i=>.agg #[.int .i64 (x i).kind,.int .i64 (x i).seq]) (.agg #[.int .i64 (x i).kind,.int .i64 (x i).seq]) N:=Classical.byContradiction fun q=>h ⟨by omega,fun k hk e1 e2=>Classical.byContradiction fun hs=>q (hc.2 ⟨k,hk,hs,e1,e2⟩)⟩
   unfold zgb;rw [decide_eq_true h2,Bool.or_true];rfl
theorem zj5 {s:Nat→Int} {x:Nat→RecD} {N:Nat} (hC:Csd x N):zai (fun i=>!(zgb s x N i)) N=zbU (spa s x N) N:=by
 show (List.range N).filter _=(List.range N).filter _
 exact List.filter_congr (fun i hi=>zl7 hC (List.mem_range.1 hi))
theorem znJ {s:Nat→Int} {x:Nat→RecD} {N:Nat} (hC:Csd x N) (m:Nat):selF (fun i=>!(zgb s x N i)) N m=zck (spa s x N) N m:=by
 show (zai _ N).getD m 0=(zbU _ N).getD m 0
 rw [zj5 hC]
theorem zmX (r:RecD) (ao6 ao7 ao8:Option Addr) (cap6 cap7 cap8:Nat):∀ v,v∈([.int .i64 r.kind,.int .i64 r.seq,.string r.name,.int .i64 r.length,.int .i64 r.group,.int .i64 r.row,.slice ao6 r.rows.1 cap6,.slice ao7 r.data.1 cap7,.slice ao8 r.delta.1 cap8]:List Value)→v.oneCell'=true:=fun v hv=>by
 simp only [List.mem_cons,List.not_mem_nil,or_false] at hv
 rcases hv with rfl | rfl | rfl | rfl | rfl | rfl | rfl | rfl | rfl<;>rfl
set_option maxRecDepth 100000 in
theorem zkY (r:RecD) (ao6 ao7 ao8:Option Addr) (cap6 cap7 cap8:Nat) (w:World) :
 Calls Tryz.prog 240 #[.agg #[.int .i64 r.kind,.int .i64 r.seq,.string r.name,.int .i64 r.length,.int .i64 r.group,.int .i64 r.row,.slice ao6 r.rows.1 cap6,.slice ao7 r.data.1 cap7,.slice ao8 r.delta.1 cap8]] w fun e w'=>e=.returned (.agg #[.int .i64 r.kind,.int .i64 r.seq,.string r.name,.int .i64 r.length,.int .i64 r.group,.int .i64 r.row,.slice ao6 r.rows.1 cap6,.slice ao7 r.data.1 cap7,.slice ao8 r.delta.1 cap8])∧Below w.heap.size w w':=by
 have T0:=zaz w (rwR r ao6 cap6 ao7 cap7 ao8 cap8).toArray #[.int .i64 0,.int .i64 0,.string ByteArray.empty,.int .i64 0,.int .i64 0,.int .i64 0,.slice none 0 0,.slice none 0 0,.slice none 0 0] 183 85;have y_0:((w.alloc (.cells (rwR r ao6 cap6 ao7 cap7 ao8 cap8).toArray 183)).alloc (.cells #[.int .i64 0,.int .i64 0,.string ByteArray.empty,.int .i64 0,.int .i64 0,.int .i64 0,.slice none 0 0,.slice none 0 0,.slice none 0 0] 85)).cell? ⟨w.heap.size,0,none⟩=some (.int .i64 r.kind):=T0.b1.cell 0;have y_1:((w.alloc (.cells (rwR r ao6 cap6 ao7 cap7 ao8 cap8).toArray 183)).alloc (.cells #[.int .i64 0,.int .i64 0,.string ByteArray.empty,.int .i64 0,.int .i64 0,.int .i64 0,.slice none 0 0,.slice none 0 0,.slice none 0 0] 85)).cell? ⟨w.heap.size,1,none⟩=some (.int .i64 r.seq):=T0.b1.cell 1;have y_2:((w.alloc (.cells (rwR r ao6 cap6 ao7 cap7 ao8 cap8).toArray 183)).alloc (.cells #[.int .i64 0,.int .i64 0,.string ByteArray.empty,.int .i64 0,.int .i64 0,.int .i64 0,.slice none 0 0,.slice none 0 0,.slice none 0 0] 85)).cell? ⟨w.heap.size,2,none⟩=some (.string r.name):=T0.b1.cell 2;have y_3:((w.alloc (.cells (rwR r ao6 cap6 ao7 cap7 ao8 cap8).toArray 183)).alloc (.cells #[.int .i64 0,.int .i64 0,.string ByteArray.empty,.int .i64 0,.int .i64 0,.int .i64 0,.slice none 0 0,.slice none 0 0,.slice none 0 0] 85)).cell? ⟨w.heap.size,3,none⟩=some (.int .i64 r.length):=T0.b1.cell 3;have y_4:((w.alloc (.cells (rwR r ao6 cap6 ao7 cap7 ao8 cap8).toArray 183)).alloc (.cells #[.int .i64 0,.int .i64 0,.string ByteArray.empty,.int .i64 0,.int .i64 0,.int .i64 0,.slice none 0 0,.slice none 0 0,.slice none 0 0] 85)).cell? ⟨w.heap.size,4,none⟩=some (.int .i64 r.group):=T0.b1.cell 4;have y_5:((w.alloc (.cells (rwR r ao6 cap6 ao7 cap7 ao8 cap8).toArray 183)).alloc (.cells #[.int .i64 0,.int .i64 0,.string ByteArray.empty,.int .i64 0,.int .i64 0,.int .i64 0,.slice none 0 0,.slice none 0 0,.slice none 0 0] 85)).cell? ⟨w.heap.size,5,none⟩=some (.int .i64 r.row):=T0.b1.cell 5
 have y_6:((w.alloc (.cells (rwR r ao6 cap6 ao7 cap7 ao8 cap8).toArray 183)).alloc (.cells #[.int .i64 0,.int .i64 0,.string ByteArray.empty,.int .i64 0,.int .i64 0,.int .i64 0,.slice none 0 0,.slice none 0 0,.slice none 0 0] 85)).cell? ⟨w.heap.size,6,none⟩=some (.slice ao6 r.rows.1 cap6):=T0.b1.cell 6;have y_7:((w.alloc (.cells (rwR r ao6 cap6 ao7 cap7 ao8 cap8).toArray 183)).alloc (.cells #[.int .i64 0,.int .i64 0,.string ByteArray.empty,.int .i64 0,.int .i64 0,.int .i64 0,.slice none 0 0,.slice none 0 0,.slice none 0 0] 85)).cell? ⟨w.heap.size,7,none⟩=some (.slice ao7 r.data.1 cap7):=T0.b1.cell 7;have y_8:((w.alloc (.cells (rwR r ao6 cap6 ao7 cap7 ao8 cap8).toArray 183)).alloc (.cells #[.int .i64 0,.int .i64 0,.string ByteArray.empty,.int .i64 0,.int .i64 0,.int .i64 0,.slice none 0 0,.slice none 0 0,.slice none 0 0] 85)).cell? ⟨w.heap.size,8,none⟩=some (.slice ao8 r.delta.1 cap8):=T0.b1.cell 8
 go_enter Tryz.func240,Tryz.ntmps240
 go_wp2_with (refine zbb 85 _ _ rfl rfl (w.heap.size+1) rfl (cs:=(rwR r ao6 cap6 ao7 cap7 ao8 cap8)) rfl (T0.b2) zig rfl rfl (zmX r ao6 ao7 ao8 cap6 cap7 cap8) ?_;intro w9 X9 C9 z9)
 refine zcz Tryz.results240 rfl X9 Tryz.underlying85 zig rfl rfl ?_;exact ⟨rfl,T0.bel.trans (C9.bel (fun b hb=>by simp at hb;omega) T0.bel.size)⟩
set_option maxRecDepth 20000 in
theorem zl8 {ops:Array Oper} {rest:List Oper} {o:Oper} {a:Act} {W:World} {Q:Exit→Act→World→Prop} (hg:o.guard=none) (x:Operand) (name:String) (hop:o.op=Op.call { callee:=Callee.invoke x name,args:=#[],argTypes:=#[] })
 {T : TypeId} {V V' : Value} {n : Nat} (hx : a.eval x = .iface T V) (hm : (method (Tryz.prog.types.size + Made.depth) T V name).run Tryz.prog W = .ok (n, V') W) {fn : Func} (hfn : Tryz.prog.funcs[n]? = some fn) (hnm : (fn.name == "runtime.NumGoroutine") = false) (hbd : fn.body.isSome = true)
 {R:Ending→World→Prop} (hc:Calls Tryz.prog n #[V'] W R) (hK:∀ e w',R e w'→∃ v,e=.returned v∧wpList Tryz.prog ops Q rest (a.put o.dst v) w'):wpList Tryz.prog ops Q (o::rest) a W:=by
 have hn' : ¬ fn.name = "runtime.NumGoroutine" := by simpa using hnm
 have hb':¬ fn.body=none:=by intro h;rw [h] at hbd;cases hbd
 have hcm:(callMethod (.iface T V) name #[]).run Tryz.prog W=(callFunc n #[V']).run Tryz.prog W:=by
  simp only [callMethod,Sem.run_bind,run_program,Result.andThen_ok]
  rw [hm]
  simp
 refine wpList_plain hg fun K hK'=>?_;unfold Oper.wp
 simp [execOp,hop,hx,resolve,invoke,hcm,Result.andThen,Deferred.ofValue,callFunc,Oper.upon,hfn,hn',hb']
 refine hc.mono fun e w' h=>?_;obtain ⟨v,rfl,hk⟩:=hK e w' h;exact hK' _ _ hk
set_option maxRecDepth 20000 in
theorem zl9 (c0 c1 c2 c3 c4 c5 c6 c7 c8 : Value) (w : World) : (method (Tryz.prog.types.size + Made.depth) 185 (.agg #[c0, c1, c2, c3, c4, c5, c6, c7, c8]) "loop.example/g00089/impl.record").run Tryz.prog w = .ok (240, .agg #[c0, c1, c2, c3, c4, c5, c6, c7, c8]) w := by kernel_rfl
set_option maxRecDepth 20000 in
theorem zma (c0 c1 c2 c3 c4 c5 c6 c7 c8 : Value) (w : World) : (method (Tryz.prog.types.size + Made.depth) 186 (.agg #[c0, c1, c2, c3, c4, c5, c6, c7, c8]) "loop.example/g00089/impl.record").run Tryz.prog w = .ok (240, .agg #[c0, c1, c2, c3, c4, c5, c6, c7, c8]) w := by kernel_rfl
set_option maxRecDepth 20000 in
theorem zmb (c0 c1 c2 c3 c4 c5 c6 c7 c8 : Value) (w : World) : (method (Tryz.prog.types.size + Made.depth) 187 (.agg #[c0, c1, c2, c3, c4, c5, c6, c7, c8]) "loop.example/g00089/impl.record").run Tryz.prog w = .ok (240, .agg #[c0, c1, c2, c3, c4, c5, c6, c7, c8]) w := by kernel_rfl
set_option maxRecDepth 20000 in
theorem zkZ (c0 c1 c2 c3 c4 c5 c6 c7 c8 : Value) (w : World) : (method (Tryz.prog.types.size + Made.depth) 190 (.agg #[c0, c1, c2, c3, c4, c5, c6, c7, c8]) "loop.example/g00089/impl.record").run Tryz.prog w = .ok (240, .agg #[c0, c1, c2, c3, c4, c5, c6, c7, c8]) w := by kernel_rfl
set_option maxRecDepth 100000 in
theorem zmc (G Q bm n:Nat) (gr:Int) (f:Value→Option Value) (c:Nat) (r:RecD) (ao6 ao7 ao8:Option Addr) (cap6 cap7 cap8:Nat) (w:World) (hG:Box w G #[.int .i64 gr] 2) (hQ:Box w Q #[.map (some bm)] 151) (hM:MapV w 154 bm n f) (hf:(f (.agg #[.int .i64 r.kind,.int .i64 r.seq])).getD (.int .i64 0)=.int .i64 (c:Int))
 (hk:-9223372036854775808≤r.kind∧r.kind≤9223372036854775807) (hs:-9223372036854775808≤r.seq∧r.seq≤9223372036854775807) :
 Calls Tryz.prog 94 #[.agg #[.int .i64 r.kind,.int .i64 r.seq,.string r.name,.int .i64 r.length,.int .i64 r.group,.int .i64 r.row,.slice ao6 r.rows.1 cap6,.slice ao7 r.data.1 cap7,.slice ao8 r.delta.1 cap8],.pointer (some ⟨G,0,none⟩),.pointer (some ⟨Q,0,none⟩)] w fun e w'=>e=.returned (.bool (decide (r.seq=gr)||decide (0<c)))∧Below w.heap.size w w':=by
 have T0:=zaK w (rwR r ao6 cap6 ao7 cap7 ao8 cap8).toArray 85;have HB:=hid T0.bel;obtain ⟨kl,hkl⟩:=zip hk hs;have g0:(w.alloc (.cells (rwR r ao6 cap6 ao7 cap7 ao8 cap8).toArray 85)).cell? ⟨G,0,none⟩=some (.int .i64 gr):=(hG.below T0.bel hG.lt).cell 0;have q0:(w.alloc (.cells (rwR r ao6 cap6 ao7 cap7 ao8 cap8).toArray 85)).cell? ⟨Q,0,none⟩=some (.map (some bm)):=(hQ.below T0.bel hQ.lt).cell 0
 have lk:(Instr.lookup 151 (.map (some bm)) (.agg #[.int .i64 r.kind,.int .i64 r.seq]) false).run Tryz.prog (w.alloc (.cells (rwR r ao6 cap6 ao7 cap7 ao8 cap8).toArray 85))=.ok (.int .i64 (c:Int)) (w.alloc (.cells (rwR r ao6 cap6 ao7 cap7 ao8 cap8).toArray 85)):=by
  have h1:=(hM.block (T0.bel.block bm hM.lt)).look zni Tryz.underlying151 (zdJ _) hkl;rw [hf] at h1;exact h1
 clear T0 hG hQ hM hf hkl hk hs
 by_cases h1:r.seq=gr
 ·have d1:(r.seq==gr)=true:=by simp [h1]
  have d2:decide (r.seq=gr)=true:=decide_eq_true h1;rw [d2];clear h1
  go_enter Tryz.func94,Tryz.ntmps94
  go_wp2;go_ret;exact ⟨rfl,HB.out⟩
 ·have d1:(r.seq==gr)=false:=by simp [h1]
  have d2:decide (r.seq=gr)=false:=decide_eq_false h1;rw [d2];clear h1
  by_cases h2:0<c
  ·have t1:(0:Int)<(c:Int):=by omega
   have d3:decide (0<c)=true:=decide_eq_true h2;rw [d3];clear h2
   go_enter Tryz.func94,Tryz.ntmps94
   go_wp2;go_ret;exact ⟨rfl,HB.out⟩
  ·obtain rfl:c=0:=by omega
   clear h2
   go_enter Tryz.func94,Tryz.ntmps94
   go_wp2;go_ret;exact ⟨rfl,HB.out⟩
set_option maxRecDepth 100000 in
theorem zjv (g cap n lo hi:Nat) (x:Nat→RecD) (ce:Nat→List Value) (a0 a1:Nat) (del:Nat→Bool) (w:World) (hV:View zab 85 w lo hi (.slice (some ⟨g,0,none⟩) n cap) n x ce) (hhi:hi≤w.heap.size) (hn:n≤1048576) (CD:∀ k,k<n→∀ w',ChgL [g] w w'→Calls Tryz.prog 94 #[.agg (ce k).toArray,.pointer (some ⟨a0,0,none⟩),.pointer (some ⟨a1,0,none⟩)] w' (fun e w''=>e=.returned (.bool (del k))∧Below w'.heap.size w' w'')) :
 Calls Tryz.prog 139 #[.slice (some ⟨g,0,none⟩) n cap,.func (.func 94) #[] #[.pointer (some ⟨a0,0,none⟩),.pointer (some ⟨a1,0,none⟩)]] w fun e w'=>((e=.returned (.int .i64 (-1))∧∀ i,i<n→del i=false)∨∃ i:Nat,i<n∧e=.returned (.int .i64 (i:Int))∧del i=true∧∀ t,t<i→del t=false)∧Below w.heap.size w w':=by
 have HV:=hid hV;have HCD:=hid CD;clear hV CD
 go_enter Tryz.func139,Tryz.ntmps139
 go_wp2
 go_loopw [8] (fun z wr=>∃ k:Nat,k≤n∧z=.int .i64 k∧(∀ t,t<k→del t=false)∧Below w.heap.size w wr) (fun z _=>n-(intOf z).toNat)
 case atStart=>exact ⟨0,Nat.zero_le _,rfl,fun t ht=>by omega,Below.refl _ _⟩
 case round=>
  obtain ⟨k,hk,rfl,hall,hbl⟩:=hrel;obtain ⟨wx,rfl⟩:∃ y,y=wr:=⟨_,rfl⟩;have HALL:=hid hall;have HBL:=hid hbl;have zx:=hbl.size;clear hall
  by_cases hlt:k<n
  ·have VX:=HV.out.below hbl hhi
   have rgK:wx.rangeAt g (k*9) (ce k):=VX.range hlt;have hcK:(ce k).length=9:=VX.lens k hlt;have CS:=HCD.out k hlt wx (ChgL.of_below hbl);obtain ⟨cK,hcKe⟩:∃ c,c=ce k:=⟨_,rfl⟩;rw [← hcKe] at rgK hcK CS;obtain ⟨t,ht⟩:∃ t,t=del k:=⟨_,rfl⟩;rw [← ht] at CS;have HT:=hid ht
   have i1:(0:Int)≤(k:Int):=by omega
   have i2:(k:Int)<(n:Int):=by omega
   clear hbl hcKe VX ht
   go_wp2_with (refine wpList_load_mid rfl 85 (.tmp 14) rfl g (k*9) (by simp [Act.eval]) cK _ rgK Tryz.underlying85 rfl (zam hcK) ?_)
   refine CS.mono ?_;rintro e w5 ⟨rfl,b5⟩;have B5:=hid (HBL.out.trans (b5.mono zx));clear b5 CS rgK
   cases t with
   | true=>
    go_wp2;go_ret;exact ⟨.inr ⟨k,hlt,rfl,HT.out.symm,HALL.out⟩,B5.out⟩
   | false=>
    go_wp2
    go_roundw
    case rel=>exact ⟨k+1,by omega,by go_num,fun t ht=>by
     by_cases c:t=k
     ·rw [c];exact HT.out.symm
     ·exact HALL.out t (by omega),B5.out⟩
    case measure=>simp [intOf];omega
  ·obtain rfl:k=n:=by omega
   clear hbl;go_wp2;go_ret;exact ⟨.inl ⟨rfl,HALL.out⟩,HBL.out⟩
set_option maxRecDepth 100000 in
theorem ziq (g cap n lo hi:Nat) (x:Nat→RecD) (ce:Nat→List Value) (a0 a1:Nat) (del:Nat→Bool) (w:World) (hV:View zab 85 w lo hi (.slice (some ⟨g,0,none⟩) n cap) n x ce) (hlo:hi≤lo) (hlw:lo≤w.heap.size) (hn:n≤1048576) (CD:∀ k,k<n→∀ w',ChgL [g] w w'→Calls Tryz.prog 94 #[.agg (ce k).toArray,.pointer (some ⟨a0,0,none⟩),.pointer (some ⟨a1,0,none⟩)] w' (fun e w''=>e=.returned (.bool (del k))∧Below w'.heap.size w' w'')) :
 Calls Tryz.prog 93 #[.slice (some ⟨g,0,none⟩) n cap,.func (.func 94) #[] #[.pointer (some ⟨a0,0,none⟩),.pointer (some ⟨a1,0,none⟩)]] w fun e w'=>e=.returned (.slice (some ⟨g,0,none⟩) (zai (fun i=>!(del i)) n).length cap)∧View zab 85 w' lo hi (.slice (some ⟨g,0,none⟩) (zai (fun i=>!(del i)) n).length cap) (zai (fun i=>!(del i)) n).length (fun i=>x (selF (fun i=>!(del i)) n i)) (fun i=>ce (selF (fun i=>!(del i)) n i))∧ChgL [g] w w':=by
 have HV:=hid hV;have HCD:=hid CD
 have hnc:n≤cap:=by
  rcases hV.row.2 with ⟨hn,_⟩ | ⟨g',cap',cur,he,hbg,hgg,hnc,_⟩
  ·cases hn
  ·cases he;exact hnc
 have HNC:=hid hnc;have hgl:=hV.row.lt g rfl;have CI:=zjv g cap n lo hi x ce a0 a1 del w hV (by omega) hn CD;clear hV CD hnc
 go_enter Tryz.func93,Tryz.ntmps93
 go_wp2_with fail
 refine CI.mono ?_;rintro e w1 ⟨hcase,b1⟩;have HB1:=hid b1;have z1:=b1.size;clear CI b1
 rcases hcase with ⟨rfl,hall⟩ | ⟨i0,hi0,rfl,hp0,hbef⟩
 ·have HALL:Hid (∀ i,i<n→(fun i=>!(del i)) i=true):=fun i hi=>by show (!(del i))=true;rw [hall i hi];rfl
  clear hall
  have te:((-1:Int)==-1)=true:=by decide
  go_wp2;go_ret
  have em:(zai (fun i=>!(del i)) n).length=n:=by rw [zcE HALL.out];simp
  rw [em];exact ⟨rfl,(HV.out.below HB1.out (by omega)).congr2 (fun i hi=>by rw [zd5 HALL.out hi]) (fun i hi=>by rw [zd5 HALL.out hi]),ChgL.of_below HB1.out⟩
 have HP0:Hid ((fun i=>!(del i)) i0=false):=by show (!(del i0))=false;rw [hp0];rfl
 have HBEF:Hid (∀ t,t<i0→(fun i=>!(del i)) t=true):=fun t ht=>by show (!(del t))=true;rw [hbef t ht];rfl
 clear hp0 hbef;have te:((i0:Int)==-1)=false:=beq_eq_false_iff_ne.2 (by omega)
 have zi:IntKind.i64.wrap ((i0:Int)+1)=(i0:Int)+1:=by rw [IntKind.wrap_i64];omega
 go_wp2
 go_loopw [5,6] (fun v z wr=>∃ j:Nat,j≤n∧i0<j∧z=.int .i64 j∧v=.int .i64 ((zai (fun i=>!(del i)) j).length:Nat)∧View zab 85 wr lo hi (.slice (some ⟨g,0,none⟩) n cap) n (mixF (fun i=>!(del i)) (j) x) (mixF (fun i=>!(del i)) (j) ce)∧ChgL [g] w wr) (fun _ z _=>n-(intOf z).toNat)
 case atStart=>
  refine ⟨i0+1,by omega,by omega,by simp,?_,?_,ChgL.of_below HB1.out⟩
  ·rw [zbM HP0.out,zcE HBEF.out];simp
  ·exact (HV.out.below HB1.out (by omega)).congr2 (fun m _=>by rw [zct x HP0.out,zfA x HBEF.out]) (fun m _=>by rw [zct ce HP0.out,zfA ce HBEF.out])
 case round=>
  obtain ⟨j,hj,hij,rfl,rfl,hrow,hch⟩:=hrel;obtain ⟨wx,rfl⟩:∃ y,y=wr:=⟨_,rfl⟩;have HCH:=hid hch;have HRW:=hid hrow;have zx:=hch.size;have hless:(zai (fun i=>!(del i)) j).length<j:=zfB hij HP0.out;clear hch
  by_cases hlt:j<n
  ·have em:(mixF (fun i=>!(del i)) (j) ce) j=ce j:=zfz ce (Nat.le_of_lt hless)
   have ex:(mixF (fun i=>!(del i)) (j) x) j=x j:=zfz x (Nat.le_of_lt hless)
   have rgJ:wx.rangeAt g (j*9) (ce j):=by have:=hrow.range hlt;rw [em] at this;exact this
   have hcJ:(ce j).length=9:=by have:=hrow.lens j hlt;rw [em] at this;exact this
   have rdJ:zab.rd wx hi (x j) (ce j):=by have:=hrow.each j hlt;rw [em,ex] at this;exact this
   obtain ⟨cJ,hcJe⟩:∃ c,c=ce j:=⟨_,rfl⟩;have HCJ:=hid hcJe;rw [← hcJe] at rgJ hcJ rdJ;have oneJ:∀ v,v∈cJ→v.oneCell'=true:=zaT _ _ _ _ rdJ;have HRJ:=hid rdJ
   have i1:(0:Int)≤(j:Int):=by omega
   have i2:(j:Int)<(n:Int):=by omega
   have bV:=bAl wx (.cells cJ.toArray 85);have V1:=zaq wx cJ.toArray 85;clear em ex hrow rdJ hcJe
   go_upto_region 8 with (first | (refine wpList_load_mid rfl 85 (.tmp 24) rfl g (j*9) (by simp [Act.eval]) cJ _ rgJ Tryz.underlying85 rfl (zam hcJ) ?_) | (refine zbd 85 7 (.tmp 25) cJ _ 9 rfl rfl rfl rfl rfl rfl rfl rfl zfM rfl hcJ oneJ ?_))
   obtain ⟨W5,hW5⟩:∃ y,y=wx.alloc (.cells cJ.toArray 85):=⟨_,rfl⟩;rw [← hW5] at bV V1 ⊢;clear hW5 rgJ;have z5:=bV.size;have HV1:=hid V1;have z5':=V1.lt;have C5:ChgL [g] w W5:=HCH.out.trans (ChgL.of_below bV);have CS:=HCD.out j hlt W5 C5;rw [← HCJ.out] at CS;obtain ⟨t,ht⟩:∃ t,t=del j:=⟨_,rfl⟩;rw [← ht] at CS
   have HT:Hid ((fun i=>!(del i)) j=!t):=by rw [ht];exact rfl
   have HC5:=hid C5;have HR5:Hid (View zab 85 W5 lo hi (.slice (some ⟨g,0,none⟩) n cap) n (mixF (fun i=>!(del i)) (j) x) (mixF (fun i=>!(del i)) (j) ce)):=HRW.out.below bV (by omega);have HRJ5:Hid (zab.rd W5 hi (x j) cJ):=zab.rd_below HRJ.out bV (by omega);clear ht C5 V1 bV
   go_wp2_with (refine zav 85 (.tmp 7) rfl rfl (wx.heap.size) rfl HV1.out Tryz.underlying85 zeu hcJ ?_)
   refine CS.mono ?_;rintro e w6 ⟨rfl,b6⟩;have z6:=b6.size;have HV6:Hid (Box w6 wx.heap.size cJ.toArray 85):=HV1.out.below b6 z5';have C6:Hid (ChgL [g] w w6):=HC5.out.trans (ChgL.of_below b6);have HS6:Hid (View zab 85 w6 lo hi (.slice (some ⟨g,0,none⟩) n cap) n (mixF (fun i=>!(del i)) (j) x) (mixF (fun i=>!(del i)) (j) ce)):=HR5.out.below b6 (by omega);have HRJ6:Hid (zab.rd w6 hi (x j) cJ):=zab.rd_below HRJ5.out b6 (by omega);clear b6 CS HV1 HC5 HR5 HRJ5
   cases t with
   | true=>
    go_wp2
    go_roundw
    case rel=>exact ⟨j+1,by omega,by omega,by go_num,by rw [zbM HT.out],HS6.out.congr2 (fun m _=>(zct x HT.out m).symm) (fun m _=>(zct ce HT.out m).symm),C6.out⟩
    case measure=>simp [intOf];omega
   | false=>
    obtain ⟨q,hq⟩:∃ q,q=(zai (fun i=>!(del i)) j).length:=⟨_,rfl⟩;have HQ:=hid hq
    have hqn:q<n:=by omega
    rw [← hq]
    have k1:(0:Int)≤(q:Int):=by omega
    have k2:(q:Int)<(n:Int):=by omega
    have hth:w6.there g (q*9) cJ.length:=by rw [hcJ];exact HS6.out.there hqn
    have hpk:(fun i=>!(del i)) j=true:=HT.out
    have hnx:(zai (fun i=>!(del i)) (j+1)).length=q+1:=by rw [hq,zbm,if_pos hpk];simp
    have HNX:=hid hnx
    have HV7:Hid (View zab 85 (w6.setCells g (q*9) cJ) lo hi (.slice (some ⟨g,0,none⟩) n cap) n (mixF (fun i=>!(del i)) (j+1) x) (mixF (fun i=>!(del i)) (j+1) ce)):=by
     have:=HS6.out.put (by decide) hlo hqn HRJ6.out;refine this.congr2 (fun m _=>?_) (fun m _=>?_)
     ·have:=zep (p:=(fun i=>!(del i))) (j:=j) x hpk m
      rw [← hq] at this;exact this
     ·have:=zep (p:=(fun i=>!(del i))) (j:=j) ce hpk m
      rw [← hq,← HCJ.out] at this;exact this
    have C7:Hid (ChgL [g] w (w6.setCells g (q*9) cJ)):=C6.out.trans (zcg g cJ w6 _)
    have zq:IntKind.i64.wrap ((q:Int)+1)=(q:Int)+1:=by rw [IntKind.wrap_i64];omega
    clear hq hnx hpk
    go_wp2_with (first | (refine zav 85 (.tmp 7) rfl rfl (wx.heap.size) rfl HV6.out Tryz.underlying85 zeu hcJ ?_) | (refine wpList_store_mid rfl 85 (.tmp 33) (.tmp 32) rfl g (q*9) cJ.toArray (by simp [Act.eval]) (by simp [Act.eval]) (show w6.there g (q*9) cJ.toArray.size by rw [List.size_toArray];exact hth) (show _=some cJ.toArray.size by rw [List.size_toArray];exact zam hcJ) (all_oneCell_toArray oneJ) ?_;rw [show cJ.toArray.toList=cJ from rfl]))
    go_roundw
    case rel=>exact ⟨j+1,by omega,by omega,by go_num,by rw [HNX.out];simp,HV7.out,C7.out⟩
    case measure=>simp [intOf];omega
  ·obtain rfl:j=n:=by omega
   obtain ⟨q,hq⟩:∃ q,q=(zai (fun i=>!(del i)) j).length:=⟨_,rfl⟩;have HQ:=hid hq;have S5:=HRW.out;have hlens:=S5.lens
   rcases S5.row.2 with ⟨hnn,_⟩ | ⟨g',cap',cur,he,hbg,hgg,hnc',hcm,hcs,htk⟩
   ·cases hnn
   cases he
   have hqn:q<j:=by omega
   obtain ⟨row,hcl,hrs,hrt⟩:=zeI wx 0 g (q*9) (j-q) (cap-q) cur hgg (by omega) (by
    have h9:cur.size=cap*9:=hcs
    have:q*9+(j-q)*9≤cap*9:=by rw [← Nat.add_mul];exact Nat.mul_le_mul_right 9 (by omega)
    omega)
   have hf:=zdU g j cap q hqn HNC.out;have ht:=fun w'=>zg5 g j cap q (by omega) w';obtain ⟨W7,hW7⟩:∃ y,y=wx.setRow g row:=⟨_,rfl⟩;rw [← hW7] at hcl
   have C7:Hid (ChgL [g] w W7):=by
    rw [hW7];exact HCH.out.trans (zcl g row)
   have C7x:ChgL [g] wx W7:=by rw [hW7];exact zcl g row
   have bX:Below lo wx W7:=C7x.bel (fun b hb=>by simp at hb;omega) (by omega)
   have R7:Hid (View zab 85 W7 lo hi (.slice (some ⟨g,0,none⟩) q cap) q (fun i=>x (selF (fun i=>!(del i)) j i)) (fun i=>ce (selF (fun i=>!(del i)) j i))):=by
    have e1:catN q (mixF (fun i=>!(del i)) (j) ce)=catN q (fun i=>ce (selF (fun i=>!(del i)) j i)):=za7 (fun i hi=>by
     show mixF _ j ce i=_
     unfold mixF
     rw [if_pos (by rw [← hq];exact hi)])
    have hl9:∀ i,i<q→(ce (selF (fun i=>!(del i)) j i)).length=zab.sz:=fun i hi=>by
     have:=hlens i (by omega);unfold mixF at this;rw [if_pos (by rw [← hq];exact hi)] at this;exact this
    refine ⟨⟨zbO hl9,.inr ⟨g,cap,row,rfl,hbg,by rw [hW7];exact setRow_heap wx g cur row 85 (0,0) hgg,by omega,hcm,by rw [hrs];exact hcs,?_⟩⟩,fun i hi=>?_⟩
    ·rw [← e1,← zfC hlens (Nat.le_of_lt hqn),← htk,List.take_take,Nat.min_eq_left (Nat.mul_le_mul_right _ (Nat.le_of_lt hqn))]
     exact hrt
    ·have h1:=S5.each i (by omega)
     unfold mixF at h1;rw [if_pos (by rw [← hq];exact hi),if_pos (by rw [← hq];exact hi)] at h1;exact zab.rd_below h1 bX hlo
   clear S5 hlens hgg htk hcs hcm hnc' hbg hrs hrt hW7 hless C7x bX;rw [← hq];clear hq
   go_wp2_with (simp only [hcl])
   go_ret;rw [← HQ.out];exact ⟨rfl,R7.out,C7.out⟩
set_option maxRecDepth 20000 in
theorem zjw (ao:Option Addr) (cap:Nat) (fv:Value) (w:World) :
 Calls Tryz.prog 93 #[.slice ao 0 cap,fv] w fun e w'=>e=.returned (.slice ao 0 cap)∧w'=w:=by
 have CI:Calls Tryz.prog 139 #[.slice ao 0 cap,fv] w fun e w'=>e=.returned (.int .i64 (-1))∧w'=w:=by
  go_enter Tryz.func139,Tryz.ntmps139
  go_wp2
  go_loop [8] (fun z=>z=.int .i64 0) (fun _=>0)
  case atStart=>rfl
  case round=>
   subst hrel;go_wp2;go_ret;exact ⟨rfl,rfl⟩
 have te:((-1:Int)==-1)=true:=by decide
 go_enter Tryz.func93,Tryz.ntmps93
 go_wp2_with fail
 refine CI.mono ?_;rintro e w1 ⟨rfl,e1⟩;obtain rfl:=e1.symm;go_wp2;go_ret;exact ⟨rfl,rfl⟩
set_option maxRecDepth 100000 in
theorem zfU {w:World} {lo B hi:Nat} {s:Nat→Int} {N:Nat} {x:Nat→RecD} {ce:Nat→List Value} {v:Value} {b1 b2 b3 b4 b5:Nat} (h:Ldg w lo B s N N x ce (v) b1 b2 b3 b4 b5) (hok:zap s) (hC:Csd x N) (hN:N≤1000000) (hhi:hi≤w.heap.size) (hr:∀ i,i<N→zab.rd w hi (x i) (ce i)) (hkd:∀ i,i<N→InP (x i).kind 1 4) :
 Calls Tryz.prog 51 #[.pointer (some ⟨B,0,none⟩)] w fun e w'=>∃ u cu,e=.returned u∧View zab 85 w' (w.heap.size+2) hi u (zbU (spa s x N) N).length (fun i=>x (zck (spa s x N) N i)) cu∧(zab.slice 85).rd w' w'.heap.size ((zbU (spa s x N) N).length,fun i=>x (zck (spa s x N) N i)) [u]∧Below w.heap.size w w':=by
 have HL:=hid h;have HOK:=hid hok;have HCS:=hid hC;have HR:=hid hr;have HKD:=hid hkd;obtain ⟨ao,cap,hv⟩:=zbS h.row;subst hv;have bM:Below w.heap.size w (w.alloc (.map #[] 0)):=(Below.refl _ _).alloc (Nat.le_refl _) _
 have eM:(w.alloc (.map #[] 0)).heap.size=w.heap.size+1:=by simp
 have T0:=zaq (w.alloc (.map #[] 0)) #[.map (some w.heap.size)] 151;rw [eM] at T0;have bQ:Below (w.heap.size+1) (w.alloc (.map #[] 0)) ((w.alloc (.map #[] 0)).alloc (.cells #[.map (some w.heap.size)] 151)):=(Below.refl _ _).alloc (by omega) _;have M0:MapV ((w.alloc (.map #[] 0)).alloc (.cells #[.map (some w.heap.size)] 151)) 154 w.heap.size 0 (cntF (fun i=>¬ SptP s x N i) (fun i=>.agg #[.int .i64 (x i).kind,.int .i64 (x i).seq]) 0):=(zc0 w 154).block (bQ.block _ (by omega));have B0:=bM.trans (bQ.mono (Nat.le_succ _));obtain ⟨W0,hW0⟩:∃ y,y=(w.alloc (.map #[] 0)).alloc (.cells #[.map (some w.heap.size)] 151):=⟨_,rfl⟩
 have x9:W0.cell? ⟨B,9,none⟩=some (.slice ao N cap):=by rw [hW0];exact (h.keepAll (fun b hb'=>B0.block b hb')).box.cell 9
 have HB0:Hid (Below w.heap.size w W0):=by rw [hW0];exact B0
 have HM0:Hid (MapV W0 154 w.heap.size 0 (cntF (fun i=>¬ SptP s x N i) (fun i=>.agg #[.int .i64 (x i).kind,.int .i64 (x i).seq]) 0)):=by rw [hW0];exact M0
 have HQ0:Hid (Box W0 (w.heap.size+1) #[.map (some w.heap.size)] 151):=by rw [hW0];exact T0
 clear h hok hC hr hkd bM T0 bQ M0 B0;have hmm:=@run_makeMap Tryz.prog
 go_enter Tryz.func51,Tryz.ntmps51
 go_upto_region 3 with fail
 rw [← hW0];clear hW0 eM hmm;go_wp2
 go_loopw [4,15] (fun u i wr=>∃ (k:Nat) (cu:Nat→List Value),k≤N∧i=.int .i64 k∧View zab 85 wr (w.heap.size+2) hi u k x cu∧Box wr (w.heap.size+1) #[.map (some w.heap.size)] 151∧MapV wr 154 w.heap.size k (cntF (fun i=>¬ SptP s x N i) (fun i=>.agg #[.int .i64 (x i).kind,.int .i64 (x i).seq]) k)∧Below w.heap.size w wr) (fun _ i _=>N-(intOf i).toNat)
 case atStart=>exact ⟨0,fun _=>[],Nat.zero_le _,rfl,View.nil _ _ _ _ _,HQ0.out,HM0.out,HB0.out⟩
 case round=>
  clear x9 HB0 HM0 HQ0;obtain ⟨k,cu,hk,rfl,hV,hQ,hM,hb⟩:=hrel;obtain ⟨au,cau,hu⟩:=hV.form;subst hu;have HV:=hid hV;have HQ:=hid hQ;have HM:=hid hM;have HB:=hid hb;have zr:w.heap.size+1<wr.heap.size:=hQ.lt;clear hV hQ hM
  by_cases hlt:k<N
  ·have Lr:=HL.out.keepAll (fun b hb'=>hb.block b hb')
   obtain ⟨ge,cge,cur,hge,q1,q2,q3,q4,q5,q6⟩:∃ g0 cap0 cur,(Value.slice ao N cap)=.slice (some ⟨g0,0,none⟩) N cap0∧lo≤g0∧wr.heap[g0]?=some (.cells cur 149 (0,0))∧N≤cap0∧cap0≤maxLen∧cur.size=cap0*1∧cur.toList.take (N*1)=entL x ce N:=by
    rcases Lr.row.2 with ⟨_,e⟩ | h
    ·omega
    ·exact h
   have hga:ao=some ⟨ge,0,none⟩:=by cases hge;rfl
   have hcg:cap=cge:=by cases hge;rfl
   subst hga;subst hcg
   have ye:wr.cell? ⟨ge,k,none⟩=some (entV (x k).kind (ce k)):=by
    have e1:cur.toList[k]?=some (entV (x k).kind (ce k)):=by
     have:(cur.toList.take (N*1))[k]?=some (entV (x k).kind (ce k)):=by
      rw [q6];unfold entL;rw [List.getElem?_map,List.getElem?_range hlt];rfl
     rw [List.getElem?_take,if_pos (by omega)] at this;exact this
    rw [cell_of_row wr ge k cur _ _ q2]
    simpa using e1
   have t1:(k:Int)<(N:Int):=by omega
   have i1:(0:Int)≤(k:Int):=by omega
   clear hb hge q1 q2 q3 q4 q5 q6 Lr;obtain ⟨ao6,cap6,ao7,cap7,ao8,cap8,ec,-,-,-,k0,k1,k2,k3,k4,k5⟩:=zaD (HR.out k hlt);obtain ⟨td,htd⟩:=exB (SptP s x N k);have HTD:=hid htd;have CSP:Hid (∀ w',Below w.heap.size w w'→Calls Tryz.prog 91 #[.pointer (some ⟨B,0,none⟩),entV (x k).kind (ce k)] w' fun e w''=>e=.returned (.bool td)∧Below w'.heap.size w' w''):=fun w' hb'=>zbv (zju (HL.out.keepAll (fun b hb2=>hb'.block b hb2)) HOK.out HCS.out (Nat.le_trans hhi hb'.size) (fun i hi'=>zab.rd_below (HR.out i hi') hb' hhi) HKD.out hlt) HTD.out;have HK14:=HKD.out k hlt
   obtain ⟨T, hT, hm⟩ : ∃ T, entV (x k).kind (ce k) = .iface T (.agg #[.int .i64 (x k).kind, .int .i64 (x k).seq, .string (x k).name, .int .i64 (x k).length, .int .i64 (x k).group, .int .i64 (x k).row, .slice ao6 (x k).rows.1 cap6, .slice ao7 (x k).data.1 cap7, .slice ao8 (x k).delta.1 cap8]) ∧ ∀ w, (method (Tryz.prog.types.size + Made.depth) T (.agg #[.int .i64 (x k).kind, .int .i64 (x k).seq, .string (x k).name, .int .i64 (x k).length, .int .i64 (x k).group, .int .i64 (x k).row, .slice ao6 (x k).rows.1 cap6, .slice ao7 (x k).data.1 cap7, .slice ao8 (x k).delta.1 cap8]) "loop.example/g00089/impl.record").run Tryz.prog w = .ok (240, .agg #[.int .i64 (x k).kind, .int .i64 (x k).seq, .string (x k).name, .int .i64 (x k).length, .int .i64 (x k).group, .int .i64 (x k).row, .slice ao6 (x k).rows.1 cap6, .slice ao7 (x k).data.1 cap7, .slice ao8 (x k).delta.1 cap8]) w := by
    rw [ec];obtain ⟨u1,u2⟩:=HK14
    have hc:(x k).kind=1∨(x k).kind=2∨(x k).kind=3∨(x k).kind=4:=by omega
    rcases hc with e | e | e | e
    ·exact ⟨185,by unfold entV entT;simp [e],fun w=>zl9 _ _ _ _ _ _ _ _ _ w⟩
    ·exact ⟨186,by unfold entV entT;simp [e],fun w=>zma _ _ _ _ _ _ _ _ _ w⟩
    ·exact ⟨187,by unfold entV entT;simp [e],fun w=>zmb _ _ _ _ _ _ _ _ _ w⟩
    ·exact ⟨190,by unfold entV entT;simp [e],fun w=>zkZ _ _ _ _ _ _ _ _ _ w⟩
   rw [hT] at ye
   have CSP2:Hid (∀ w',Below w.heap.size w w'→Calls Tryz.prog 91 #[.pointer (some ⟨B,0,none⟩),.iface T (.agg #[.int .i64 (x k).kind,.int .i64 (x k).seq,.string (x k).name,.int .i64 (x k).length,.int .i64 (x k).group,.int .i64 (x k).row,.slice ao6 (x k).rows.1 cap6,.slice ao7 (x k).data.1 cap7,.slice ao8 (x k).delta.1 cap8])] w' fun e w''=>e=.returned (.bool td)∧Below w'.heap.size w' w''):=by
    show ∀ w',Below w.heap.size w w'→Calls Tryz.prog 91 #[.pointer (some ⟨B,0,none⟩),.iface T (.agg #[.int .i64 (x k).kind,.int .i64 (x k).seq,.string (x k).name,.int .i64 (x k).length,.int .i64 (x k).group,.int .i64 (x k).row,.slice ao6 (x k).rows.1 cap6,.slice ao7 (x k).data.1 cap7,.slice ao8 (x k).delta.1 cap8])] w' fun e w''=>e=.returned (.bool td)∧Below w'.heap.size w' w''
    rw [← hT];exact CSP.out
   obtain ⟨r,hrr⟩:∃ r,r=x k:=⟨_,rfl⟩;have HRR:=hid hrr
   have HQ0:Hid (-9223372036854775808≤r.kind∧r.kind≤9223372036854775807):=by rw [hrr];exact k0
   have HQ1:Hid (-9223372036854775808≤r.seq∧r.seq≤9223372036854775807):=by rw [hrr];exact k1
   rw [← hrr] at ye hm CSP2 ec
   have HRX:Hid (zab.rd w hi r [.int .i64 r.kind,.int .i64 r.seq,.string r.name,.int .i64 r.length,.int .i64 r.group,.int .i64 r.row,.slice ao6 r.rows.1 cap6,.slice ao7 r.data.1 cap7,.slice ao8 r.delta.1 cap8]):=by
    show zab.rd w hi r [.int .i64 r.kind,.int .i64 r.seq,.string r.name,.int .i64 r.length,.int .i64 r.group,.int .i64 r.row,.slice ao6 r.rows.1 cap6,.slice ao7 r.data.1 cap7,.slice ao8 r.delta.1 cap8]
    rw [← ec,hrr];exact HR.out k hlt
   clear htd hT CSP HK14 ec hrr k0 k1 k2 k3 k4 k5
   go_upto_region 7 with (refine zl8 rfl (.tmp 19) "loop.example/g00089/impl.record" rfl (by simp [Act.eval, Act.put]) (hm _) Tryz.func240 (by kernel_rfl) (by kernel_rfl) (zkY r ao6 ao7 ao8 cap6 cap7 cap8 _) ?_; rintro e w1 ⟨rfl, b1⟩; refine ⟨_, rfl, ?_⟩)
   have bA:=bAl w1 (.cells #[.int .i64 r.kind,.int .i64 r.seq,.string r.name,.int .i64 r.length,.int .i64 r.group,.int .i64 r.row,.slice ao6 r.rows.1 cap6,.slice ao7 r.data.1 cap7,.slice ao8 r.delta.1 cap8] 85);have X6:=zaq w1 #[.int .i64 r.kind,.int .i64 r.seq,.string r.name,.int .i64 r.length,.int .i64 r.group,.int .i64 r.row,.slice ao6 r.rows.1 cap6,.slice ao7 r.data.1 cap7,.slice ao8 r.delta.1 cap8] 85;have z1:wr.heap.size≤w1.heap.size:=b1.size;have b16:=b1.trans (bA.mono z1);obtain ⟨W6,hW6⟩:∃ y,y=w1.alloc (.cells #[.int .i64 r.kind,.int .i64 r.seq,.string r.name,.int .i64 r.length,.int .i64 r.group,.int .i64 r.row,.slice ao6 r.rows.1 cap6,.slice ao7 r.data.1 cap7,.slice ao8 r.delta.1 cap8] 85):=⟨_,rfl⟩;rw [← hW6] at X6 b16 ⊢;have HX6:=hid X6;have z6:w1.heap.size<W6.heap.size:=X6.lt;have HV6:Hid (View zab 85 W6 (w.heap.size+2) hi (.slice au k cau) k x cu):=HV.out.below b16 (by omega);have HQ6:Hid (Box W6 (w.heap.size+1) #[.map (some w.heap.size)] 151):=HQ.out.below b16 (by omega);have HM6:Hid (MapV W6 154 w.heap.size k (cntF (fun i=>¬ SptP s x N i) (fun i=>.agg #[.int .i64 (x i).kind,.int .i64 (x i).seq]) k)):=HM.out.block (b16.block _ (by omega));have HB6:Hid (Below w.heap.size w W6):=HB.out.trans (b16.mono (by omega));have HOWN:Hid (∀ g,(Value.slice au k cau).ownBlock=some g→w.heap.size+2≤g∧g<wr.heap.size):=fun g h=>HV.out.row.lt g h;have bA2:=bAl W6 (.cells #[.int .i64 r.kind,.int .i64 r.seq,.string r.name,.int .i64 r.length,.int .i64 r.group,.int .i64 r.row,.slice ao6 r.rows.1 cap6,.slice ao7 r.data.1 cap7,.slice ao8 r.delta.1 cap8] 85);have HRX6:=hid (zab.rd_below HRX.out HB6.out hhi);obtain ⟨v8,w8,hrun,V8,G8,b8⟩:=zbn zcO zaT 78 (HV6.out.below bA2 (by omega)) 1 (zd6 (b:=W6.heap.size) (hi:=hi) (y:=r) (cs:=[.int .i64 r.kind,.int .i64 r.seq,.string r.name,.int .i64 r.length,.int .i64 r.group,.int .i64 r.row,.slice ao6 r.rows.1 cap6,.slice ao7 r.data.1 cap7,.slice ao8 r.delta.1 cap8]) (fun j hj=>((zaq W6 #[.int .i64 r.kind,.int .i64 r.seq,.string r.name,.int .i64 r.length,.int .i64 r.group,.int .i64 r.row,.slice ao6 r.rows.1 cap6,.slice ao7 r.data.1 cap7,.slice ao8 r.delta.1 cap8] 85).cell j).trans (by simp)) (zab.rd_below HRX6.out bA2 (by omega))) (by simp;omega) (by omega) (by omega) (fun e=>by cases e)
   have b68:Below (w.heap.size+2) W6 w8:=(bA2.mono (by omega)).trans b8
   have HV8:Hid (View zab 85 w8 (w.heap.size+2) hi v8 (k+1) x (cat2 cu k (fun _=>[.int .i64 r.kind,.int .i64 r.seq,.string r.name,.int .i64 r.length,.int .i64 r.group,.int .i64 r.row,.slice ao6 r.rows.1 cap6,.slice ao7 r.data.1 cap7,.slice ao8 r.delta.1 cap8]))):=by
    refine V8.congr (fun i hi'=>?_)
    by_cases c1:i<k
    ·rw [zbN _ _ c1]
    ·obtain rfl:i=k:=by omega
     have e9:=zbX x i (fun _=>r) 0;rw [Nat.add_zero] at e9;rw [e9,HRR.out]
   have HX8:Hid (Box w8 w1.heap.size #[.int .i64 r.kind,.int .i64 r.seq,.string r.name,.int .i64 r.length,.int .i64 r.group,.int .i64 r.row,.slice ao6 r.rows.1 cap6,.slice ao7 r.data.1 cap7,.slice ao8 r.delta.1 cap8] 85):=(G8.block w1.heap.size (by simp;omega) (fun e=>by have:=(HOWN.out _ e.symm).2;omega)).trans ((X6.below bA2 (by omega)));have HQ8:Hid (Box w8 (w.heap.size+1) #[.map (some w.heap.size)] 151):=HQ6.out.below b68 (by omega);have HM8:Hid (MapV w8 154 w.heap.size k (cntF (fun i=>¬ SptP s x N i) (fun i=>.agg #[.int .i64 (x i).kind,.int .i64 (x i).seq]) k)):=HM6.out.block (b68.block _ (by omega));have HB8:Hid (Below w.heap.size w w8):=HB6.out.trans (b68.mono (by omega));have z8:W6.heap.size≤w8.heap.size:=b68.size;obtain ⟨a8,c8,hv8⟩:=V8.form;subst hv8;have HOWN8:Hid (∀ g,(Value.slice a8 (k+1) c8).ownBlock=some g→w.heap.size+2≤g∧g<w8.heap.size):=fun g h=>HV8.out.row.lt g h;have y_0:W6.cell? ⟨w1.heap.size,0,none⟩=some (.int .i64 r.kind):=X6.cell 0;have y_1:W6.cell? ⟨w1.heap.size,1,none⟩=some (.int .i64 r.seq):=X6.cell 1;have y_2:W6.cell? ⟨w1.heap.size,2,none⟩=some (.string r.name):=X6.cell 2;have y_3:W6.cell? ⟨w1.heap.size,3,none⟩=some (.int .i64 r.length):=X6.cell 3;have y_4:W6.cell? ⟨w1.heap.size,4,none⟩=some (.int .i64 r.group):=X6.cell 4;have y_5:W6.cell? ⟨w1.heap.size,5,none⟩=some (.int .i64 r.row):=X6.cell 5;have y_6:W6.cell? ⟨w1.heap.size,6,none⟩=some (.slice ao6 r.rows.1 cap6):=X6.cell 6;have y_7:W6.cell? ⟨w1.heap.size,7,none⟩=some (.slice ao7 r.data.1 cap7):=X6.cell 7;have y_8:W6.cell? ⟨w1.heap.size,8,none⟩=some (.slice ao8 r.delta.1 cap8):=X6.cell 8;clear hW6 bA b1 b16 X6 HV HQ HM HB ye bA2 V8 G8 b8 b68 hm i1
   go_wp2_with (at_builtin;refine zcm rfl (.tmp 21) (.tmp 23) rfl ?_ ?_ hrun ?_;(simp [Act.eval]);(simp [Act.eval]))
   clear hrun y_0 y_1 y_2 y_3 y_4 y_5 y_6 y_7 y_8;have CS8:=CSP2.out w8 HB8.out
   try go_wp2_with fail
   refine CS8.mono ?_;rintro e w9 ⟨rfl,b9⟩;have HV9:Hid (View zab 85 w9 (w.heap.size+2) hi (.slice a8 (k+1) c8) (k+1) x (cat2 cu k (fun _=>[.int .i64 r.kind,.int .i64 r.seq,.string r.name,.int .i64 r.length,.int .i64 r.group,.int .i64 r.row,.slice ao6 r.rows.1 cap6,.slice ao7 r.data.1 cap7,.slice ao8 r.delta.1 cap8]))):=HV8.out.below b9 (by omega);have HX9:Hid (Box w9 w1.heap.size #[.int .i64 r.kind,.int .i64 r.seq,.string r.name,.int .i64 r.length,.int .i64 r.group,.int .i64 r.row,.slice ao6 r.rows.1 cap6,.slice ao7 r.data.1 cap7,.slice ao8 r.delta.1 cap8] 85):=HX8.out.below b9 (by omega);have HQ9:Hid (Box w9 (w.heap.size+1) #[.map (some w.heap.size)] 151):=HQ8.out.below b9 (by omega);have HM9:Hid (MapV w9 154 w.heap.size k (cntF (fun i=>¬ SptP s x N i) (fun i=>.agg #[.int .i64 (x i).kind,.int .i64 (x i).seq]) k)):=HM8.out.block (b9.block _ (by omega));have HB9:Hid (Below w.heap.size w w9):=HB8.out.trans (b9.mono (by omega));have z9:w8.heap.size≤w9.heap.size:=b9.size;clear CS8 b9 HV8 HX8 HQ8 HM8 HB8 HV6 HQ6 HM6 HB6 HX6 HRX6
   cases td with
   | true=>
    have HE:Hid (cntF (fun i=>¬ SptP s x N i) (fun i=>.agg #[.int .i64 (x i).kind,.int .i64 (x i).seq]) (k+1)=cntF (fun i=>¬ SptP s x N i) (fun i=>.agg #[.int .i64 (x i).kind,.int .i64 (x i).seq]) k):=zbT (fun h=>h (HTD.out.1 rfl));go_wp2
    go_roundw
    case rel=>exact ⟨k+1,_,by omega,by go_num,HV9.out,HQ9.out,by rw [HE.out];exact HM9.out.mono (Nat.le_succ k),HB9.out⟩
    case measure=>simp [intOf];omega
   | false=>
    have hns:¬ SptP s x N k:=fun h=>by have:=HTD.out.2 h;cases this
    obtain ⟨kl,hkl⟩:=zip HQ0.out HQ1.out;have hcn:=zlX (fun i=>¬ SptP s x N i) (fun i=>.agg #[.int .i64 (x i).kind,.int .i64 (x i).seq]) (.agg #[.int .i64 r.kind,.int .i64 r.seq]) k;have hget:(cntF (fun i=>¬ SptP s x N i) (fun i=>.agg #[.int .i64 (x i).kind,.int .i64 (x i).seq]) k (.agg #[.int .i64 r.kind,.int .i64 r.seq])).getD (.int .i64 0)=.int .i64 (cN (fun i=>¬ SptP s x N i) (fun i=>.agg #[.int .i64 (x i).kind,.int .i64 (x i).seq]) (.agg #[.int .i64 r.kind,.int .i64 r.seq]) k:Int):=zcS _ _ _ _;obtain ⟨cn,hcn2⟩:∃ cn,cn=cN (fun i=>¬ SptP s x N i) (fun i=>.agg #[.int .i64 (x i).kind,.int .i64 (x i).seq]) (.agg #[.int .i64 r.kind,.int .i64 r.seq]) k:=⟨_,rfl⟩
    have HE:Hid (cntF (fun i=>¬ SptP s x N i) (fun i=>.agg #[.int .i64 (x i).kind,.int .i64 (x i).seq]) (k+1)=putF (cntF (fun i=>¬ SptP s x N i) (fun i=>.agg #[.int .i64 (x i).kind,.int .i64 (x i).seq]) k) (.agg #[.int .i64 r.kind,.int .i64 r.seq]) (.int .i64 ((cn:Int)+1))):=by
     show cntF (fun i=>¬ SptP s x N i) (fun i=>.agg #[.int .i64 (x i).kind,.int .i64 (x i).seq]) (k+1)=putF (cntF (fun i=>¬ SptP s x N i) (fun i=>.agg #[.int .i64 (x i).kind,.int .i64 (x i).seq]) k) (.agg #[.int .i64 r.kind,.int .i64 r.seq]) (.int .i64 ((cn:Int)+1))
     rw [hcn2,HRR.out];exact ze8 hns
    rw [← hcn2] at hcn hget;have bD:Below w9.heap.size w9 w9.drew:=⟨rfl,rfl,rfl,Nat.le_refl _,fun _ _=>rfl⟩;have M3:MapV w9.drew 154 w.heap.size k (cntF (fun i=>¬ SptP s x N i) (fun i=>.agg #[.int .i64 (x i).kind,.int .i64 (x i).seq]) k):=HM9.out.block rfl;have Q3:Box w9.drew (w.heap.size+1) #[.map (some w.heap.size)] 151:=HQ9.out;have X3:Box w9.drew w1.heap.size #[.int .i64 r.kind,.int .i64 r.seq,.string r.name,.int .i64 r.length,.int .i64 r.group,.int .i64 r.row,.slice ao6 r.rows.1 cap6,.slice ao7 r.data.1 cap7,.slice ao8 r.delta.1 cap8] 85:=HX9.out;have hlook:=M3.look zni Tryz.underlying151 (zdJ _) hkl;obtain ⟨st,w5,hent,z5,G5,hlk5,hst⟩:=M3.entry znh Tryz.underlying151 (by unfold maxLen;omega) zdJ hkl;rw [hget] at hlook hent hlk5
    have hwr:IntKind.i64.wrap ((cn:Int)+1)=(cn:Int)+1:=by rw [IntKind.wrap_i64];omega
    obtain ⟨w6,hrun6,M6,G6,S6⟩:=hst (.int .i64 ((cn:Int)+1));have S3:w9.drew.cell? ⟨w.heap.size+1,0,none⟩=some (.map (some w.heap.size))∧w9.drew.cell? ⟨w1.heap.size,0,none⟩=some (.int .i64 r.kind)∧w9.drew.cell? ⟨w1.heap.size,1,none⟩=some (.int .i64 r.seq)∧(Instr.lookup 151 (.map (some w.heap.size)) (.agg #[.int .i64 r.kind,.int .i64 r.seq]) false).run Tryz.prog w9.drew=.ok (.int .i64 (cn:Int)) w9.drew:=⟨Q3.cell 0,X3.cell 0,X3.cell 1,hlook⟩;have nb:∀ b,b<w9.drew.heap.size→b≠w.heap.size→w5.heap[b]?=w9.drew.heap[b]?:=fun b hb hn=>G5.block b hb (fun e=>hn (by cases e;rfl));have S5:w5.cell? ⟨w.heap.size+1,0,none⟩=some (.map (some w.heap.size))∧w5.cell? ⟨w1.heap.size,0,none⟩=some (.int .i64 r.kind)∧w5.cell? ⟨w1.heap.size,1,none⟩=some (.int .i64 r.seq)∧(Instr.lookup 151 (.map (some w.heap.size)) (.agg #[.int .i64 r.kind,.int .i64 r.seq]) false).run Tryz.prog w5=.ok (.int .i64 (cn:Int)) w5:=⟨(World.cell?_of_block (w:=w9.drew) (nb (w.heap.size+1) Q3.lt (by omega))).trans (Q3.cell 0),(World.cell?_of_block (w:=w9.drew) (nb w1.heap.size X3.lt (by omega))).trans (X3.cell 0),(World.cell?_of_block (w:=w9.drew) (nb w1.heap.size X3.lt (by omega))).trans (X3.cell 1),hlk5⟩
    have HMN:Hid (MapV w6 154 w.heap.size (k+1) (cntF (fun i=>¬ SptP s x N i) (fun i=>.agg #[.int .i64 (x i).kind,.int .i64 (x i).seq]) (k+1))):=by
     show MapV w6 154 w.heap.size (k+1) (cntF (fun i=>¬ SptP s x N i) (fun i=>.agg #[.int .i64 (x i).kind,.int .i64 (x i).seq]) (k+1))
     rw [HE.out];exact M6
    have HE6:Hid (∀ b,b<w9.drew.heap.size→b≠w.heap.size→w6.heap[b]?=w9.drew.heap[b]?):=fun b hb hn=>G6.block b hb (fun e=>hn (by cases e;rfl));have HQN:Hid (Box w6 (w.heap.size+1) #[.map (some w.heap.size)] 151):=(HE6.out _ Q3.lt (by omega)).trans Q3;have BN:Below w.heap.size w9.drew w6:=⟨G6.os,G6.tape,G6.output,G6.size,fun b hb=>G6.block b (by have:w9.drew.heap.size=w9.heap.size:=rfl;omega) (fun e=>by cases e;omega)⟩;have HBN:Hid (Below w.heap.size w w6):=(HB9.out.trans (bD.mono (by omega))).trans BN;have HVN:Hid (View zab 85 w6 (w.heap.size+2) hi (.slice a8 (k+1) c8) (k+1) x (cat2 cu k (fun _=>[.int .i64 r.kind,.int .i64 r.seq,.string r.name,.int .i64 r.length,.int .i64 r.group,.int .i64 r.row,.slice ao6 r.rows.1 cap6,.slice ao7 r.data.1 cap7,.slice ao8 r.delta.1 cap8]))):=(View.below HV9.out bD (by omega)).kept (fun b hb=>HE6.out b (by have:w9.drew.heap.size=w9.heap.size:=rfl;have:=(HOWN8.out b hb).2;omega) (by have:=(HOWN8.out b hb).1;omega)) (BN.mono hhi);clear M6 G6 G5 hst X3 Q3 M3 hkl hcn2 hget nb hlook hlk5 BN bD hns HV9 HX9 HQ9 HM9 HB9
    go_upto_region 9 with fail
    refine zay 10 (fun w'=>w'.cell? ⟨w.heap.size+1,0,none⟩=some (.map (some w.heap.size))∧w'.cell? ⟨w1.heap.size,0,none⟩=some (.int .i64 r.kind)∧w'.cell? ⟨w1.heap.size,1,none⟩=some (.int .i64 r.seq)∧(Instr.lookup 151 (.map (some w.heap.size)) (.agg #[.int .i64 r.kind,.int .i64 r.seq]) false).run Tryz.prog w'=.ok (.int .i64 (cn:Int)) w') znf S3 (fun hHeld=>?_);refine zoa 0 rfl ?_
    try simp only [Act.put,SL]
    refine zn9 1 rfl ?_
    try simp only [Act.put,SL]
    refine zoa 2 rfl ?_
    try simp only [Act.put,SL]
    refine zn9 3 rfl ?_
    try simp only [Act.put,SL]
    refine zoa 4 rfl ?_
    try simp only [Act.put,SL]
    refine zn9 5 rfl ?_
    try simp only [Act.put,SL]
    refine zoa 6 rfl ?_
    try simp only [Act.put,SL]
    refine zn9 7 rfl ?_
    try simp only [Act.put,SL]
    refine zbo (i:=8) (o:=_) rfl (by kernel_rfl) (fun KC hKC=>?_);refine zgy rfl 151 _ _ rfl w.heap.size _ _ (by simp [Act.eval,Act.put]) (by simp [Act.eval,Act.put]) hent ?_;refine hKC _ _ S5 ?_;clear hKC KC
    try simp only [Act.put,SL]
    refine zaa (i:=9) (oi:=_) (v:=?_) rfl (by kernel_rfl) (fun _ _ _ h=>h) (Or.inl ⟨by kernel_rfl,?_⟩) S5 ?_
    rotate_left
    ·intro w' hSw;go_simp;try with_reducible rfl
    try simp only [Act.put,SL]
    refine zas (i:=10) (o:=_) rfl (by kernel_rfl) (by kernel_rfl) (fun KC hKC=>?_);refine zfP rfl 151 _ _ _ rfl w.heap.size _ _ (by simp [Act.eval,Act.put]) (by simp [Act.eval,Act.put]) (by simp [Act.eval,Act.put]) hrun6 ?_;refine hKC _ _ ?_;clear hKC KC
    try simp only [Act.put,SL]
    refine zar (by kernel_rfl) ?_ _;clear S5 S3 hHeld hent hrun6 z5;go_wp2
    go_roundw
    case rel=>exact ⟨k+1,_,by omega,by go_num,HVN.out,HQN.out,HMN.out,HBN.out⟩
    case measure=>simp [intOf];omega
  ·obtain rfl:k=N:=by omega
   obtain ⟨tq,htq⟩:∃ tq,tq=zdo k x:=⟨_,rfl⟩;have HTQ:=hid htq;have CG:=zfT (.slice au k cau) k x wr.heap.size wr (HV.out.rd (by omega)) (by omega);rw [← htq] at CG;have G2:=zaq wr #[.int .i64 tq] 2;have bG:=bAl wr (.cells #[.int .i64 tq] 2);obtain ⟨W2,hW2⟩:∃ y,y=wr.alloc (.cells #[.int .i64 tq] 2):=⟨_,rfl⟩;rw [← hW2] at G2 bG;have HG2:=hid G2;have HV2:Hid (View zab 85 W2 (w.heap.size+2) hi (.slice au k cau) k x cu):=HV.out.below bG (by omega);have HQ2:Hid (Box W2 (w.heap.size+1) #[.map (some w.heap.size)] 151):=HQ.out.below bG (by omega);have HM2:Hid (MapV W2 154 w.heap.size k (cntF (fun i=>¬ SptP s x k i) (fun i=>.agg #[.int .i64 (x i).kind,.int .i64 (x i).seq]) k)):=HM.out.block (bG.block _ (by omega));have HB2:Hid (Below w.heap.size w W2):=HB.out.trans (bG.mono (by omega));have z2:wr.heap.size<W2.heap.size:=G2.lt;have HOWN:Hid (∀ g,(Value.slice au k cau).ownBlock=some g→w.heap.size+2≤g∧g<wr.heap.size):=fun g h=>HV.out.row.lt g h;clear hb htq G2 bG HV HQ HM HB
   go_upto_region 12 with (go_at_call 92;refine CG.mono ?_;rintro e w3 ⟨rfl,e3⟩;obtain rfl:=e3.symm)
   try rw [← hW2]
   clear CG hW2
   by_cases h0:k=0
   ·subst h0
    have CD:=zjw au cau (.func (.func 94) #[] #[.pointer (some ⟨wr.heap.size,0,none⟩),.pointer (some ⟨w.heap.size+1,0,none⟩)]) W2;have HVW:Hid (View zab 85 W2 (w.heap.size+2) hi (.slice au 0 cau) (zbU (spa s x 0) 0).length (fun i=>x (zck (spa s x 0) 0 i)) cu):=HV2.out.congr (fun i hi'=>by omega)
    go_wp2_with fail
    refine CD.mono ?_;rintro e w3 ⟨rfl,e3⟩;obtain rfl:=e3.symm;clear CD;go_wp2;go_ret;exact ⟨_,cu,rfl,HVW.out,HVW.out.rd (by omega),HB2.out⟩
   ·obtain ⟨g,cap9,hu9⟩:=HV2.out.form0 h0
    have hau:au=some ⟨g,0,none⟩:=by cases hu9;rfl
    subst hau;have hgb:=HOWN.out g rfl
    have CD:=ziq g cau k (w.heap.size+2) hi x cu wr.heap.size (w.heap.size+1) (zgb s x k) W2 HV2.out (by omega) (by omega) (by omega) (fun j hj w' hch=>by
     obtain ⟨bo6,bap6,bo7,bap7,bo8,bap8,hce,-⟩:=zaD (HV2.out.each j hj);obtain ⟨co6,cap6',co7,cap7',co8,cap8',-,-,-,-,k0,k1,-⟩:=zaD (HR.out j hj);rw [hce];have:=zmc wr.heap.size (w.heap.size+1) w.heap.size k tq (cntF (fun i=>¬ SptP s x k i) (fun i=>.agg #[.int .i64 (x i).kind,.int .i64 (x i).seq]) k) (cN (fun i=>¬ SptP s x k i) (fun i=>.agg #[.int .i64 (x i).kind,.int .i64 (x i).seq]) (.agg #[.int .i64 (x j).kind,.int .i64 (x j).seq]) k) (x j) bo6 bo7 bo8 bap6 bap7 bap8 w' ((hch.block _ HG2.out.lt (by simp;omega)).trans HG2.out) ((hch.block _ HQ2.out.lt (by simp;omega)).trans HQ2.out) (HM2.out.block (hch.block _ HM2.out.lt (by simp;omega))) (zcS _ _ _ _) k0 k1;rw [HTQ.out] at this
     exact this)
    clear h0
    go_wp2_with fail
    refine CD.mono ?_;rintro e w3 ⟨rfl,V3,c3⟩
    have HVW:Hid (View zab 85 w3 (w.heap.size+2) hi (.slice (some ⟨g,0,none⟩) (zai (fun i=>!(zgb s x k i)) k).length cau) (zbU (spa s x k) k).length (fun i=>x (zck (spa s x k) k i)) (fun i=>cu (selF (fun i=>!(zgb s x k i)) k i))):=by
     have h9:=V3;have e5:=zj5 (s:=s) HCS.out;rw [show (fun i=>x (zck (spa s x k) k i))=(fun i=>x (selF (fun i=>!(zgb s x k i)) k i)) from funext (fun i=>by rw [znJ HCS.out])];rw [← e5];exact h9
    have HZ3:Hid (hi≤w3.heap.size):=by have:=c3.size;show hi≤w3.heap.size;omega
    have HB3:Hid (Below w.heap.size w w3):=HB2.out.trans (c3.bel (fun b hb=>by simp at hb;omega) (by omega));clear CD V3 c3;go_wp2;go_ret;exact ⟨_,_,rfl,HVW.out,HVW.out.rd HZ3.out,HB3.out⟩
end Go.Proofs.YthbpmbgfddpffaaGreat
namespace Go.Proofs.YthbpmbgfddpffaaGreat
open Go.RowKit
theorem zeY (w:World):(callFunc 204 #[]).run Tryz.prog w=.ok (.value (.tuple #[])) w:=run_call_mark0 Tryz.func204 (by kernel_rfl) (by kernel_rfl) (by kernel_rfl) .disable (by kernel_rfl) w
theorem zfV (w:World):(callFunc 206 #[]).run Tryz.prog w=.ok (.value (.tuple #[])) w:=run_call_mark0 Tryz.func206 (by kernel_rfl) (by kernel_rfl) (by kernel_rfl) .enable (by kernel_rfl) w
theorem zir (a:Addr) (w:World):(callFunc 207 #[.pointer (some a)]).run Tryz.prog w=.ok (.value (.tuple #[])) w:=run_call_marked Tryz.func207 (by kernel_rfl) (by kernel_rfl) (by kernel_rfl) .acquire (by kernel_rfl) a w
theorem zis (a:Addr) (w:World):(callFunc 209 #[.pointer (some a)]).run Tryz.prog w=.ok (.value (.tuple #[])) w:=run_call_marked Tryz.func209 (by kernel_rfl) (by kernel_rfl) (by kernel_rfl) .releaseMerge (by kernel_rfl) a w
set_option maxRecDepth 100000 in
theorem zfa (a:Addr) (w:World) (hc:w.cell? a=some (.int .i32 0)) (hz:w.frozen? a=false) :
 Calls Tryz.prog 174 #[.pointer (some a)] w fun e w'=>e=.returned (.tuple #[])∧w'=w.setCell a (.int .i32 1):=by
 have hd:=zeY;have he:=zfV;have ha:=zir;have hcas:=run_call_cas_hit (P:=Tryz.prog) Tryz.func205 (by kernel_rfl) (by kernel_rfl) (by kernel_rfl) .i32 (by kernel_rfl) (y:=1) hc hz;have hc':(w.setCell a (.int .i32 1)).cell? a=some (.int .i32 1):=World.cell?_setCell_same w a _ hc;have hcv:=run_convert_to_unsafe (P:=Tryz.prog) (src:=232) (dst:=236) Tryz.underlying232 Tryz.underlying236 (by kernel_rfl) hc'
 go_enter Tryz.func174,Tryz.ntmps174
 go_wp2
 first | go_end0 | (simp only [Exit.inBlock,Exit.then];refine bodyPost_ret (results_none rfl _ _ _) rfl ?_) | refine bodyPost_ret (results_none rfl _ _ _) rfl ?_
 go_wp2
 go_end0
 exact ⟨rfl,rfl⟩
set_option maxRecDepth 100000 in
theorem zdg (a:Addr) (u:FrameMode) (w:World) (hc:w.cell? a=some (.int .i32 1)) (hz:w.frozen? a=false) :
 CallsD Tryz.prog 175 #[.pointer (some a)] u w fun e u' w'=>u'=u∧(e=.returned (.tuple #[])∧w'=w.setCell a (.int .i32 0)):=by
 have hd:=zeY;have he:=zfV;have hr:=zis;have hadd:=run_call_add (P:=Tryz.prog) Tryz.func210 (by kernel_rfl) (by kernel_rfl) (by kernel_rfl) .i32 (by kernel_rfl) (y:=-1) (s:=0) hc hz (by simp [go_sem];rfl);have hcv:=run_convert_to_unsafe (P:=Tryz.prog) (src:=232) (dst:=236) Tryz.underlying232 Tryz.underlying236 (by kernel_rfl) hc
 go_enter_d Tryz.func175,Tryz.ntmps175
 go_wp2
 go_end0
 go_wp2
 go_end0
 exact ⟨rfl,rfl⟩
set_option maxRecDepth 100000 in
theorem zk0 (a:Addr) (x:Value) (u:FrameMode) (w:World) (hc:w.cell? a=some x) (hz:w.frozen? a=false) :
 CallsD Tryz.prog 213 #[.pointer (some a),.bool true] u w fun e u' w'=>u'=u∧(e=.returned (.tuple #[])∧w'=w.drew.setCell a (.int .u32 1)):=by
 have hc':w.drew.cell? a=some x:=by go_simp
 have hz':w.drew.frozen? a=false:=by go_simp
 have hst:=run_call_store (P:=Tryz.prog) Tryz.func222 (by kernel_rfl) (by kernel_rfl) (by kernel_rfl) (by kernel_rfl) (k:=.u32) (y:=1) hc' hz'
 go_enter_d Tryz.func213,Tryz.ntmps213
 go_wp2
 go_region_calls
 all_goals (go_end0;exact ⟨rfl,rfl⟩)
end Go.Proofs.YthbpmbgfddpffaaGreat
namespace Go.Proofs.YthbpmbgfddpffaaGreat
open Go.RowKit F256
structure EncO (w:World) (E:Nat) (d:WorldD) (cs:List Value) (K:List Nat):Prop where
 own:zae.own w d cs K
 nd:K.Nodup
 ne:E∉K
theorem zcu {w:World} {d:WorldD} {cs:List Value} {K:List Nat} (h:zae.own w d cs K):∃ v0 v1 v2 v3 v4 v5 v6 v7 v8 vp0 vl0 vq0 vp1 vl1 vq1 vp2 vl2 vq2 v9 v10 vb,cs=[.int .i64 v0,.int .i64 v1,.int .i64 v2,.int .i64 v3,.int .i64 v4,.int .i64 v5,.int .i64 v6,.int .i64 v7,.int .i64 v8,.slice vp0 vl0 vq0,.slice vp1 vl1 vq1,.slice vp2 vl2 vq2,.int .i64 v9,.int .i64 v10,.bool vb]:=by
 obtain ⟨p1,pc1,p2,pc2,p3,pc3,K1,K2,K3,rfl,-⟩:=zcb h;exact ⟨_,_,_,_,_,_,_,_,_,_,_,_,_,_,_,_,_,_,_,_,_,rfl⟩
theorem EncO.T {w:World} {E:Nat} {d:WorldD} {cs:List Value} {K:List Nat} (h:EncO w E d cs K):OwnT zae w 0 w.heap.size d cs:=⟨K,h.own,h.nd,fun b hb=>⟨Nat.zero_le _,zae.own_lt h.own b hb⟩⟩
theorem zj6 {w:World} {d:WorldD} {c0 c1 c2 c3 c4 c5 c6 c7 c8 c9 c10 c11 c12 c13 c14:Value} {K:List Nat} (h:zae.own w d [c0,c1,c2,c3,c4,c5,c6,c7,c8,c9,c10,c11,c12,c13,c14] K) (nd:K.Nodup):∃ K',zae.own w (cutW d) [c0,c1,c2,c3,c4,c5,c6,c7,c8,c9,.slice none 0 0,c11,c12,c13,.bool true] K'∧K'.Nodup∧∀ b,b∈K'→b∈K:=by
 obtain ⟨a1,b1,a2,b2,a3,b3,K1,K2,K3,e,hM,o1,o2,o3,k0,k4,k5⟩:=zcb h
 simp only [List.cons.injEq,and_true] at e
 obtain ⟨rfl,rfl,rfl,rfl,rfl,rfl,rfl,rfl,rfl,rfl,rfl,rfl,rfl,rfl,rfl⟩:=e;subst hM;refine ⟨K1++([]++(K3++[])),zeh (cutW d) o1 (zgm w _ (fun _=>show (-9223372036854775808≤(0:Int)∧(0:Int)≤9223372036854775807) by decide)) o3 k0 k4 k5,?_,fun b hb=>?_⟩
 ·obtain ⟨n1,n2,n3⟩:=List.nodup_append.1 nd
  obtain ⟨_,n4,_⟩:=List.nodup_append.1 n2;exact List.nodup_append.2 ⟨n1,n4,fun b hb c hc=>n3 b hb c (List.mem_append_right _ hc)⟩
 ·rcases List.mem_append.1 hb with h | h
  ·exact List.mem_append_left _ h
  ·exact List.mem_append_right _ (List.mem_append_right _ h)
set_option maxRecDepth 20000 in
theorem zew (v0 v1 v2 v3 v4 v5 v6 v7 v8 vp0 vl0 vq0 vp1 vl1 vq1 vp2 vl2 vq2 v9 v10 vb:_) (w:World) (h1:∀ x,x∈([.int .i64 v0,.int .i64 v1,.int .i64 v2,.int .i64 v3,.int .i64 v4,.int .i64 v5,.int .i64 v6,.int .i64 v7,.int .i64 v8,.slice vp0 vl0 vq0,.slice none 0 0,.slice vp2 vl2 vq2,.int .i64 v9,.int .i64 v10,.bool true]:List Value)→x.oneCell'=true) :
 Calls Tryz.prog 178 #[.agg #[.int .i64 v0,.int .i64 v1,.int .i64 v2,.int .i64 v3,.int .i64 v4,.int .i64 v5,.int .i64 v6,.int .i64 v7,.int .i64 v8,.slice vp0 vl0 vq0,.slice vp1 vl1 vq1,.slice vp2 vl2 vq2,.int .i64 v9,.int .i64 v10,.bool vb]] w fun e w'=>e=.returned (.agg #[.int .i64 v0,.int .i64 v1,.int .i64 v2,.int .i64 v3,.int .i64 v4,.int .i64 v5,.int .i64 v6,.int .i64 v7,.int .i64 v8,.slice vp0 vl0 vq0,.slice none 0 0,.slice vp2 vl2 vq2,.int .i64 v9,.int .i64 v10,.bool true])∧Below w.heap.size w w':=by
 have T0:=zaz w (rwV v0 v1 v2 v3 v4 v5 v6 v7 v8 vp0 vl0 vq0 vp1 vl1 vq1 vp2 vl2 vq2 v9 v10 vb).toArray (rwV 0 0 0 0 0 0 0 0 0 none 0 0 none 0 0 none 0 0 0 0 false).toArray 34 34
 go_enter Tryz.func178,Tryz.ntmps178
 go_upto_region 1 with fail
 obtain ⟨W,hW⟩:∃ x,x=(w.alloc (.cells (rwV v0 v1 v2 v3 v4 v5 v6 v7 v8 vp0 vl0 vq0 vp1 vl1 vq1 vp2 vl2 vq2 v9 v10 vb).toArray 34)).alloc (.cells (rwV 0 0 0 0 0 0 0 0 0 none 0 0 none 0 0 none 0 0 0 0 false).toArray 34):=⟨_,rfl⟩;rw [← hW] at T0 ⊢;clear hW;have y0:W.cell? ⟨w.heap.size,14,none⟩=some (.bool vb):=T0.b1.cell 14;have yf0:W.frozen? ⟨w.heap.size,14,none⟩=false:=T0.b1.frozen 14;have X0:Box (W.setCell ⟨w.heap.size,14,none⟩ (.bool true)) w.heap.size (rwV v0 v1 v2 v3 v4 v5 v6 v7 v8 vp0 vl0 vq0 vp1 vl1 vq1 vp2 vl2 vq2 v9 v10 true).toArray 34:=T0.b1.setc 14 _;have y1:(W.setCell ⟨w.heap.size,14,none⟩ (.bool true)).cell? ⟨w.heap.size,10,none⟩=some (.slice vp1 vl1 vq1):=X0.cell 10;have yf1:(W.setCell ⟨w.heap.size,14,none⟩ (.bool true)).frozen? ⟨w.heap.size,10,none⟩=false:=X0.frozen 10;have X1:Box ((W.setCell ⟨w.heap.size,14,none⟩ (.bool true)).setCell ⟨w.heap.size,10,none⟩ (.slice none 0 0)) w.heap.size (rwV v0 v1 v2 v3 v4 v5 v6 v7 v8 vp0 vl0 vq0 none 0 0 vp2 vl2 vq2 v9 v10 true).toArray 34:=X0.setc 10 _;have CC:ChgL [w.heap.size] W ((W.setCell ⟨w.heap.size,14,none⟩ (.bool true)).setCell ⟨w.heap.size,10,none⟩ (.slice none 0 0)):=((ChgL.refl _ _).st _ 14 (.bool true) (by simp)).st _ 10 (.slice none 0 0) (by simp);have R1:=T0.b2.chgl CC (by simp);have B1:=T0.bel.trans (CC.bel (fun b hb=>by simp at hb;omega) T0.bel.size);have HH1:=hid h1;clear h1
 go_wp2_with (first | (refine zav 34 (.tmp 1) rfl rfl (w.heap.size) rfl (X1) Tryz.underlying34 zbL rfl ?_) | (refine zbb 34 _ _ rfl rfl (w.heap.size+1) rfl (cs:=(rwV v0 v1 v2 v3 v4 v5 v6 v7 v8 vp0 vl0 vq0 none 0 0 vp2 vl2 vq2 v9 v10 true)) rfl R1 zbL rfl rfl HH1.out ?_;intro w9 X9 C9 z9))
 refine zcz Tryz.results178 rfl X9 Tryz.underlying34 zbL rfl rfl ?_;exact ⟨rfl,B1.trans (C9.bel (fun b hb=>by simp at hb;omega) B1.size)⟩
set_option maxRecDepth 20000 in
theorem zmY (E pe:Nat) (l o m:Int) (v0 v1 v2 v3 v4 v5 v6 v7 v8 vp0 vl0 vq0 vp1 vl1 vq1 vp2 vl2 vq2 v9 v10 vb:_) (w:World) (hp:w.cell? ⟨pe,0,none⟩=some (.pointer (some ⟨E,0,none⟩))) (hpe:pe<w.heap.size) (hX:Box w E #[.int .i32 l,.int .u32 0,.int .u32 o,.int .i32 m,.int .u32 0,.int .i64 v0,.int .i64 v1,.int .i64 v2,.int .i64 v3,.int .i64 v4,.int .i64 v5,.int .i64 v6,.int .i64 v7,.int .i64 v8,.slice vp0 vl0 vq0,.slice vp1 vl1 vq1,.slice vp2 vl2 vq2,.int .i64 v9,.int .i64 v10,.bool vb] 110) (h1:∀ x,x∈([.int .i64 v0,.int .i64 v1,.int .i64 v2,.int .i64 v3,.int .i64 v4,.int .i64 v5,.int .i64 v6,.int .i64 v7,.int .i64 v8,.slice vp0 vl0 vq0,.slice none 0 0,.slice vp2 vl2 vq2,.int .i64 v9,.int .i64 v10,.bool true]:List Value)→x.oneCell'=true) :
 Calls Tryz.prog 177 #[.pointer (some ⟨pe,0,none⟩)] w fun e w'=>e=.returned (.tuple #[])∧Box w' E #[.int .i32 l,.int .u32 0,.int .u32 o,.int .i32 m,.int .u32 0,.int .i64 v0,.int .i64 v1,.int .i64 v2,.int .i64 v3,.int .i64 v4,.int .i64 v5,.int .i64 v6,.int .i64 v7,.int .i64 v8,.slice vp0 vl0 vq0,.slice none 0 0,.slice vp2 vl2 vq2,.int .i64 v9,.int .i64 v10,.bool true] 110∧ChgL [E] w w':=by
 have hE:E<w.heap.size:=hX.lt;have HX:=hid hX;have x_5:w.cell? ⟨E,5,none⟩=some (.int .i64 v0):=hX.cell 5;have x_6:w.cell? ⟨E,6,none⟩=some (.int .i64 v1):=hX.cell 6;have x_7:w.cell? ⟨E,7,none⟩=some (.int .i64 v2):=hX.cell 7;have x_8:w.cell? ⟨E,8,none⟩=some (.int .i64 v3):=hX.cell 8;have x_9:w.cell? ⟨E,9,none⟩=some (.int .i64 v4):=hX.cell 9;have x_10:w.cell? ⟨E,10,none⟩=some (.int .i64 v5):=hX.cell 10;have x_11:w.cell? ⟨E,11,none⟩=some (.int .i64 v6):=hX.cell 11;have x_12:w.cell? ⟨E,12,none⟩=some (.int .i64 v7):=hX.cell 12;have x_13:w.cell? ⟨E,13,none⟩=some (.int .i64 v8):=hX.cell 13;have x_14:w.cell? ⟨E,14,none⟩=some (.slice vp0 vl0 vq0):=hX.cell 14;have x_15:w.cell? ⟨E,15,none⟩=some (.slice vp1 vl1 vq1):=hX.cell 15;have x_16:w.cell? ⟨E,16,none⟩=some (.slice vp2 vl2 vq2):=hX.cell 16;have x_17:w.cell? ⟨E,17,none⟩=some (.int .i64 v9):=hX.cell 17;have x_18:w.cell? ⟨E,18,none⟩=some (.int .i64 v10):=hX.cell 18;have x_19:w.cell? ⟨E,19,none⟩=some (.bool vb):=hX.cell 19;have KS:∀ w',Below w.heap.size w w'→(w'.cell? ⟨pe,0,none⟩=some (.pointer (some ⟨E,0,none⟩))∧w'.cell? ⟨E,5,none⟩=some (.int .i64 v0)∧w'.cell? ⟨E,6,none⟩=some (.int .i64 v1)∧w'.cell? ⟨E,7,none⟩=some (.int .i64 v2)∧w'.cell? ⟨E,8,none⟩=some (.int .i64 v3)∧w'.cell? ⟨E,9,none⟩=some (.int .i64 v4)∧w'.cell? ⟨E,10,none⟩=some (.int .i64 v5)∧w'.cell? ⟨E,11,none⟩=some (.int .i64 v6)∧w'.cell? ⟨E,12,none⟩=some (.int .i64 v7)∧w'.cell? ⟨E,13,none⟩=some (.int .i64 v8)∧w'.cell? ⟨E,14,none⟩=some (.slice vp0 vl0 vq0)∧w'.cell? ⟨E,15,none⟩=some (.slice vp1 vl1 vq1)∧w'.cell? ⟨E,16,none⟩=some (.slice vp2 vl2 vq2)∧w'.cell? ⟨E,17,none⟩=some (.int .i64 v9)∧w'.cell? ⟨E,18,none⟩=some (.int .i64 v10)∧w'.cell? ⟨E,19,none⟩=some (.bool vb)):=fun w' hb=>⟨(hb.cell (p:=⟨pe,0,none⟩) hpe).trans hp,(hb.cell (p:=⟨E,5,none⟩) hE).trans x_5,(hb.cell (p:=⟨E,6,none⟩) hE).trans x_6,(hb.cell (p:=⟨E,7,none⟩) hE).trans x_7,(hb.cell (p:=⟨E,8,none⟩) hE).trans x_8,(hb.cell (p:=⟨E,9,none⟩) hE).trans x_9,(hb.cell (p:=⟨E,10,none⟩) hE).trans x_10,(hb.cell (p:=⟨E,11,none⟩) hE).trans x_11,(hb.cell (p:=⟨E,12,none⟩) hE).trans x_12,(hb.cell (p:=⟨E,13,none⟩) hE).trans x_13,(hb.cell (p:=⟨E,14,none⟩) hE).trans x_14,(hb.cell (p:=⟨E,15,none⟩) hE).trans x_15,(hb.cell (p:=⟨E,16,none⟩) hE).trans x_16,(hb.cell (p:=⟨E,17,none⟩) hE).trans x_17,(hb.cell (p:=⟨E,18,none⟩) hE).trans x_18,(hb.cell (p:=⟨E,19,none⟩) hE).trans x_19⟩;have CC:=zew v0 v1 v2 v3 v4 v5 v6 v7 v8 vp0 vl0 vq0 vp1 vl1 vq1 vp2 vl2 vq2 v9 v10 vb w.drew h1
 clear hX h1
 go_enter Tryz.func177,Tryz.ntmps177
 go_upto_region 0 with fail
 refine zb0 8 (fun w'=>w'.cell? ⟨pe,0,none⟩=some (.pointer (some ⟨E,0,none⟩))∧w'.cell? ⟨E,5,none⟩=some (.int .i64 v0)∧w'.cell? ⟨E,6,none⟩=some (.int .i64 v1)∧w'.cell? ⟨E,7,none⟩=some (.int .i64 v2)∧w'.cell? ⟨E,8,none⟩=some (.int .i64 v3)∧w'.cell? ⟨E,9,none⟩=some (.int .i64 v4)∧w'.cell? ⟨E,10,none⟩=some (.int .i64 v5)∧w'.cell? ⟨E,11,none⟩=some (.int .i64 v6)∧w'.cell? ⟨E,12,none⟩=some (.int .i64 v7)∧w'.cell? ⟨E,13,none⟩=some (.int .i64 v8)∧w'.cell? ⟨E,14,none⟩=some (.slice vp0 vl0 vq0)∧w'.cell? ⟨E,15,none⟩=some (.slice vp1 vl1 vq1)∧w'.cell? ⟨E,16,none⟩=some (.slice vp2 vl2 vq2)∧w'.cell? ⟨E,17,none⟩=some (.int .i64 v9)∧w'.cell? ⟨E,18,none⟩=some (.int .i64 v10)∧w'.cell? ⟨E,19,none⟩=some (.bool vb)) (by kernel_rfl) (KS _ ⟨rfl,rfl,rfl,Nat.le_refl _,fun _ _=>rfl⟩) (fun hHeld=>?_);refine zn6 0 rfl ?_
 try simp only [Act.put,SL]
 refine zn6 1 rfl ?_
 try simp only [Act.put,SL]
 refine zn6 2 rfl ?_
 try simp only [Act.put,SL]
 refine zn6 3 rfl ?_
 try simp only [Act.put,SL]
 refine zn6 4 rfl ?_
 try simp only [Act.put,SL]
 refine zaX (i:=5) (o:=_) rfl (by kernel_rfl) (fun KC hKC=>?_)
 refine zbJ rfl 178 _ _ rfl #[.agg (rwV v0 v1 v2 v3 v4 v5 v6 v7 v8 vp0 vl0 vq0 vp1 vl1 vq1 vp2 vl2 vq2 v9 v10 vb).toArray] ?_ Tryz.func178 (by kernel_rfl) (by kernel_rfl) CC ?_;(simp [Act.eval,Act.put]);rintro ee w5 ⟨rfl,b5'⟩;have b5w:Below w.heap.size w w5:=⟨b5'.os,b5'.tape,b5'.output,b5'.size,b5'.block⟩;have X5:=HX.out.below b5w hE;have z_5:w5.cell? ⟨E,5,none⟩=some (.int .i64 v0):=X5.cell 5;have zf_5:w5.frozen? ⟨E,5,none⟩=false:=X5.frozen 5;have z_6:w5.cell? ⟨E,6,none⟩=some (.int .i64 v1):=X5.cell 6;have zf_6:w5.frozen? ⟨E,6,none⟩=false:=X5.frozen 6;have z_7:w5.cell? ⟨E,7,none⟩=some (.int .i64 v2):=X5.cell 7;have zf_7:w5.frozen? ⟨E,7,none⟩=false:=X5.frozen 7;have z_8:w5.cell? ⟨E,8,none⟩=some (.int .i64 v3):=X5.cell 8;have zf_8:w5.frozen? ⟨E,8,none⟩=false:=X5.frozen 8;have z_9:w5.cell? ⟨E,9,none⟩=some (.int .i64 v4):=X5.cell 9;have zf_9:w5.frozen? ⟨E,9,none⟩=false:=X5.frozen 9;have z_10:w5.cell? ⟨E,10,none⟩=some (.int .i64 v5):=X5.cell 10;have zf_10:w5.frozen? ⟨E,10,none⟩=false:=X5.frozen 10;have z_11:w5.cell? ⟨E,11,none⟩=some (.int .i64 v6):=X5.cell 11;have zf_11:w5.frozen? ⟨E,11,none⟩=false:=X5.frozen 11;have z_12:w5.cell? ⟨E,12,none⟩=some (.int .i64 v7):=X5.cell 12;have zf_12:w5.frozen? ⟨E,12,none⟩=false:=X5.frozen 12;have z_13:w5.cell? ⟨E,13,none⟩=some (.int .i64 v8):=X5.cell 13;have zf_13:w5.frozen? ⟨E,13,none⟩=false:=X5.frozen 13;have z_14:w5.cell? ⟨E,14,none⟩=some (.slice vp0 vl0 vq0):=X5.cell 14;have zf_14:w5.frozen? ⟨E,14,none⟩=false:=X5.frozen 14;have z_15:w5.cell? ⟨E,15,none⟩=some (.slice vp1 vl1 vq1):=X5.cell 15;have zf_15:w5.frozen? ⟨E,15,none⟩=false:=X5.frozen 15;have z_16:w5.cell? ⟨E,16,none⟩=some (.slice vp2 vl2 vq2):=X5.cell 16;have zf_16:w5.frozen? ⟨E,16,none⟩=false:=X5.frozen 16;have z_17:w5.cell? ⟨E,17,none⟩=some (.int .i64 v9):=X5.cell 17;have zf_17:w5.frozen? ⟨E,17,none⟩=false:=X5.frozen 17;have z_18:w5.cell? ⟨E,18,none⟩=some (.int .i64 v10):=X5.cell 18;have zf_18:w5.frozen? ⟨E,18,none⟩=false:=X5.frozen 18;have z_19:w5.cell? ⟨E,19,none⟩=some (.bool vb):=X5.cell 19;have zf_19:w5.frozen? ⟨E,19,none⟩=false:=X5.frozen 19;refine ⟨_,rfl,?_⟩
 refine hKC.out _ _ (KS _ b5w) (fun hHeld=>?_);clear hKC KC
 try simp only [Act.put,SL]
 refine zn6 6 rfl ?_
 try simp only [Act.put,SL]
 refine zn6 7 rfl ?_
 try simp only [Act.put,SL]
 refine zbY (o:=_) rfl (by kernel_rfl) (fun KC hKC=>?_);go_simp;refine hKC.out _ _ ?_;clear hKC KC
 try simp only [Act.put,SL]
 refine zbZ (by kernel_rfl) ?_ _;have X6:Box (stN w5 E 5 (rwV v0 v1 v2 v3 v4 v5 v6 v7 v8 vp0 vl0 vq0 none 0 0 vp2 vl2 vq2 v9 v10 true)) E #[.int .i32 l,.int .u32 0,.int .u32 o,.int .i32 m,.int .u32 0,.int .i64 v0,.int .i64 v1,.int .i64 v2,.int .i64 v3,.int .i64 v4,.int .i64 v5,.int .i64 v6,.int .i64 v7,.int .i64 v8,.slice vp0 vl0 vq0,.slice none 0 0,.slice vp2 vl2 vq2,.int .i64 v9,.int .i64 v10,.bool true] 110:=X5.stL (rwV v0 v1 v2 v3 v4 v5 v6 v7 v8 vp0 vl0 vq0 none 0 0 vp2 vl2 vq2 v9 v10 true) 5;have C6:ChgL [E] w (stN w5 E 5 (rwV v0 v1 v2 v3 v4 v5 v6 v7 v8 vp0 vl0 vq0 none 0 0 vp2 vl2 vq2 v9 v10 true)):=(ChgL.of_below b5w).trans ⟨(zbs E _ w5 5).1,(zbs E _ w5 5).2.1,(zbs E _ w5 5).2.2,Nat.le_of_eq (zb8 E _ w5 5).symm,fun b _ hb=>zcp E b (fun hh=>hb (by simp [hh])) _ w5 5⟩;go_wp2
 go_end0
 exact ⟨rfl,X6,C6⟩
theorem Box.drew {w:World} {b:Nat} {cs:Array Value} {t:TypeId} (h:Box w b cs t):Box w.drew b cs t:=h
theorem ChgL.drew {K:List Nat} {w w':World} (h:ChgL K w w'):ChgL K w w'.drew:=⟨h.os,h.tape,h.output,h.size,h.block⟩
set_option maxRecDepth 100000 in
theorem zmd (E pe:Nat) (l:Int) (v0 v1 v2 v3 v4 v5 v6 v7 v8 vp0 vl0 vq0 vp1 vl1 vq1 vp2 vl2 vq2 v9 v10 vb:_) (w:World) (hp:w.cell? ⟨pe,0,none⟩=some (.pointer (some ⟨E,0,none⟩))) (hpe:pe<w.heap.size) (hne:pe≠E) (hX:Box w E #[.int .i32 l,.int .u32 0,.int .u32 0,.int .i32 0,.int .u32 0,.int .i64 v0,.int .i64 v1,.int .i64 v2,.int .i64 v3,.int .i64 v4,.int .i64 v5,.int .i64 v6,.int .i64 v7,.int .i64 v8,.slice vp0 vl0 vq0,.slice vp1 vl1 vq1,.slice vp2 vl2 vq2,.int .i64 v9,.int .i64 v10,.bool vb] 110) (h1:∀ x,x∈([.int .i64 v0,.int .i64 v1,.int .i64 v2,.int .i64 v3,.int .i64 v4,.int .i64 v5,.int .i64 v6,.int .i64 v7,.int .i64 v8,.slice vp0 vl0 vq0,.slice none 0 0,.slice vp2 vl2 vq2,.int .i64 v9,.int .i64 v10,.bool true]:List Value)→x.oneCell'=true) :
 Calls Tryz.prog 199 #[.pointer (some ⟨E,2,none⟩),.func (.func 177) #[] #[.pointer (some ⟨pe,0,none⟩)]] w fun e w'=>e=.returned (.tuple #[])∧Box w' E #[.int .i32 l,.int .u32 0,.int .u32 1,.int .i32 0,.int .u32 0,.int .i64 v0,.int .i64 v1,.int .i64 v2,.int .i64 v3,.int .i64 v4,.int .i64 v5,.int .i64 v6,.int .i64 v7,.int .i64 v8,.slice vp0 vl0 vq0,.slice none 0 0,.slice vp2 vl2 vq2,.int .i64 v9,.int .i64 v10,.bool true] 110∧ChgL [E] w w':=by
 have X1:Box (w.setCell ⟨E,3,none⟩ (.int .i32 1)) E #[.int .i32 l,.int .u32 0,.int .u32 0,.int .i32 1,.int .u32 0,.int .i64 v0,.int .i64 v1,.int .i64 v2,.int .i64 v3,.int .i64 v4,.int .i64 v5,.int .i64 v6,.int .i64 v7,.int .i64 v8,.slice vp0 vl0 vq0,.slice vp1 vl1 vq1,.slice vp2 vl2 vq2,.int .i64 v9,.int .i64 v10,.bool vb] 110:=hX.setc 3 _;have c3:w.cell? ⟨E,3,none⟩=some (.int .i32 0):=hX.cell 3;have f3:w.frozen? ⟨E,3,none⟩=false:=hX.frozen 3;have c2:(w.setCell ⟨E,3,none⟩ (.int .i32 1)).cell? ⟨E,2,none⟩=some (.int .u32 0):=X1.cell 2;have C1:ChgL [E] w (w.setCell ⟨E,3,none⟩ (.int .i32 1)):=(ChgL.refl _ _).st _ 3 _ (by simp);have hl:=run_call_load (P:=Tryz.prog) Tryz.func212 (by kernel_rfl) (by kernel_rfl) (by kernel_rfl) .u32 (by kernel_rfl) c2;have hnot:∀ (x:Bool) (w:World),(Op.unary .not (.bool x)).run Tryz.prog w=.ok (.bool (!x)) w:=fun _ _=>rfl;have hp1:(w.setCell ⟨E,3,none⟩ (.int .i32 1)).cell? ⟨pe,0,none⟩=some (.pointer (some ⟨E,0,none⟩)):=(World.cell?_of_block (C1.block pe hpe (by simpa using hne))).trans hp;have CF:=zmY E pe l 0 1 v0 v1 v2 v3 v4 v5 v6 v7 v8 vp0 vl0 vq0 vp1 vl1 vq1 vp2 vl2 vq2 v9 v10 vb _ hp1 (by simpa using hpe) X1 h1;have HC1:=hid C1;have HCF:=CF;clear C1 X1 hX h1 hp hp1 CF
 go_enter_defers Tryz.func199,Tryz.ntmps199
 go_wp2_with (first | (go_at_call 174;refine (zfa ⟨E,3,none⟩ _ c3 f3).mono ?_;rintro e w' ⟨rfl,rfl⟩) | (go_at_call 177;refine HCF.mono ?_;rintro e w5 ⟨rfl,X5,C5⟩) | (go_at_call 198;go_in))
 refine leaves_cons (f:=213) (args:=#[.pointer (some ⟨E,2,none⟩),.bool true]) (by simp) (by simp [go_sem]) ?_;refine (zk0 ⟨E,2,none⟩ (.int .u32 0) .returning _ (X5.cell 2) (X5.frozen 2)).mono ?_;rintro e u' w'' ⟨rfl,rfl,rfl⟩;have X6:Box (w5.drew.setCell ⟨E,2,none⟩ (.int .u32 1)) E #[.int .i32 l,.int .u32 0,.int .u32 1,.int .i32 1,.int .u32 0,.int .i64 v0,.int .i64 v1,.int .i64 v2,.int .i64 v3,.int .i64 v4,.int .i64 v5,.int .i64 v6,.int .i64 v7,.int .i64 v8,.slice vp0 vl0 vq0,.slice none 0 0,.slice vp2 vl2 vq2,.int .i64 v9,.int .i64 v10,.bool true] 110:=X5.drew.setc 2 _;refine leaves_cons (f:=175) (args:=#[.pointer (some ⟨E,3,none⟩)]) (by simp [settle]) (by simp [go_sem]) ?_;refine (zdg ⟨E,3,none⟩ _ _ (X6.cell 3) (X6.frozen 3)).mono ?_;rintro e u' w'' ⟨rfl,rfl,rfl⟩;have X7:Box ((w5.drew.setCell ⟨E,2,none⟩ (.int .u32 1)).setCell ⟨E,3,none⟩ (.int .i32 0)) E #[.int .i32 l,.int .u32 0,.int .u32 1,.int .i32 0,.int .u32 0,.int .i64 v0,.int .i64 v1,.int .i64 v2,.int .i64 v3,.int .i64 v4,.int .i64 v5,.int .i64 v6,.int .i64 v7,.int .i64 v8,.slice vp0 vl0 vq0,.slice none 0 0,.slice vp2 vl2 vq2,.int .i64 v9,.int .i64 v10,.bool true] 110:=X6.setc 3 _;have C7:ChgL [E] w ((w5.drew.setCell ⟨E,2,none⟩ (.int .u32 1)).setCell ⟨E,3,none⟩ (.int .i32 0)):=(((HC1.out.trans C5).drew.st _ 2 _ (by simp)).st _ 3 _ (by simp))
 simp only [Leaves,settle]
 exact ⟨_,results_none rfl _ _ _,rfl,X7,C7⟩
set_option maxRecDepth 100000 in
theorem zme (E pe:Nat) (l:Int) (v0 v1 v2 v3 v4 v5 v6 v7 v8 vp0 vl0 vq0 vp1 vl1 vq1 vp2 vl2 vq2 v9 v10 vb:_) (w:World) (hp:w.cell? ⟨pe,0,none⟩=some (.pointer (some ⟨E,0,none⟩))) (hpe:pe<w.heap.size) (hne:pe≠E) (hX:Box w E #[.int .i32 l,.int .u32 0,.int .u32 0,.int .i32 0,.int .u32 0,.int .i64 v0,.int .i64 v1,.int .i64 v2,.int .i64 v3,.int .i64 v4,.int .i64 v5,.int .i64 v6,.int .i64 v7,.int .i64 v8,.slice vp0 vl0 vq0,.slice vp1 vl1 vq1,.slice vp2 vl2 vq2,.int .i64 v9,.int .i64 v10,.bool vb] 110) (h1:∀ x,x∈([.int .i64 v0,.int .i64 v1,.int .i64 v2,.int .i64 v3,.int .i64 v4,.int .i64 v5,.int .i64 v6,.int .i64 v7,.int .i64 v8,.slice vp0 vl0 vq0,.slice none 0 0,.slice vp2 vl2 vq2,.int .i64 v9,.int .i64 v10,.bool true]:List Value)→x.oneCell'=true) :
 Calls Tryz.prog 176 #[.pointer (some ⟨E,2,none⟩),.func (.func 177) #[] #[.pointer (some ⟨pe,0,none⟩)]] w fun e w'=>e=.returned (.tuple #[])∧Box w' E #[.int .i32 l,.int .u32 0,.int .u32 1,.int .i32 0,.int .u32 0,.int .i64 v0,.int .i64 v1,.int .i64 v2,.int .i64 v3,.int .i64 v4,.int .i64 v5,.int .i64 v6,.int .i64 v7,.int .i64 v8,.slice vp0 vl0 vq0,.slice none 0 0,.slice vp2 vl2 vq2,.int .i64 v9,.int .i64 v10,.bool true] 110∧ChgL [E] w w':=by
 have CS:=zmd E pe l v0 v1 v2 v3 v4 v5 v6 v7 v8 vp0 vl0 vq0 vp1 vl1 vq1 vp2 vl2 vq2 v9 v10 vb w hp hpe hne hX h1;have c2:w.cell? ⟨E,2,none⟩=some (.int .u32 0):=hX.cell 2;have hl:=run_call_load (P:=Tryz.prog) Tryz.func212 (by kernel_rfl) (by kernel_rfl) (by kernel_rfl) .u32 (by kernel_rfl) c2;have hnot:∀ (x:Bool) (w:World),(Op.unary .not (.bool x)).run Tryz.prog w=.ok (.bool (!x)) w:=fun _ _=>rfl;clear hX h1 hp
 go_enter Tryz.func176,Tryz.ntmps176
 go_wp2_with (first | (go_at_call 199;refine CS.mono ?_;rintro e w5 ⟨rfl,X5,C5⟩) | (go_at_call 198;go_in))
 go_end0
 exact ⟨rfl,X5,C5⟩
set_option maxRecDepth 100000 in
theorem zhh (E:Nat) (v0 v1 v2 v3 v4 v5 v6 v7 v8 vp0 vl0 vq0 vp1 vl1 vq1 vp2 vl2 vq2 v9 v10 vb:_) (fv:Value) (w:World) (hX:Box w E #[.int .i32 0,.int .u32 0,.int .u32 0,.int .i32 0,.int .u32 0,.int .i64 v0,.int .i64 v1,.int .i64 v2,.int .i64 v3,.int .i64 v4,.int .i64 v5,.int .i64 v6,.int .i64 v7,.int .i64 v8,.slice vp0 vl0 vq0,.slice vp1 vl1 vq1,.slice vp2 vl2 vq2,.int .i64 v9,.int .i64 v10,.bool vb] 110) (h1:∀ x,x∈([.int .i64 v0,.int .i64 v1,.int .i64 v2,.int .i64 v3,.int .i64 v4,.int .i64 v5,.int .i64 v6,.int .i64 v7,.int .i64 v8,.slice vp0 vl0 vq0,.slice none 0 0,.slice vp2 vl2 vq2,.int .i64 v9,.int .i64 v10,.bool true]:List Value)→x.oneCell'=true) (hs:v10≠-1) (hw:v10≤v9) :
 Calls Tryz.prog 140 #[.pointer (some ⟨E,0,none⟩),fv] w fun e w'=>e=.panicked [{ v:=.iface 215 (.agg #[]),recovered:=false }]∧Box w' E #[.int .i32 0,.int .u32 0,.int .u32 1,.int .i32 0,.int .u32 0,.int .i64 v0,.int .i64 v1,.int .i64 v2,.int .i64 v3,.int .i64 v4,.int .i64 v5,.int .i64 v6,.int .i64 v7,.int .i64 v8,.slice vp0 vl0 vq0,.slice none 0 0,.slice vp2 vl2 vq2,.int .i64 v9,.int .i64 v10,.bool true] 110∧ChgL [E] w w':=by
 have d1:(v10 != -1)=true:=by simpa using hs
 have d2:decide (v10≤v9)=true:=by simpa using hw
 have H1:=hid h1;clear hs hw h1;have hE:E<w.heap.size:=hX.lt;have hmf:∀ (fn:Fn) (first cap:Array Value) (w:World),(Instr.makeFunc fn first cap).run Tryz.prog w=.ok (.func fn first cap) w:=fun _ _ _ _=>rfl;have bA:=bAl w (.cells #[.pointer (some ⟨E,0,none⟩)] 91);have P1:=zaq w #[.pointer (some ⟨E,0,none⟩)] 91;have X1:=hX.below bA hE
 go_enter_defers Tryz.func140,Tryz.ntmps140
 go_upto_region 1 with fail
 obtain ⟨W1,hW1⟩:∃ x,x=w.alloc (.cells #[.pointer (some ⟨E,0,none⟩)] 91):=⟨_,rfl⟩;rw [← hW1] at bA P1 X1 ⊢
 have zW:W1.heap.size=w.heap.size+1:=by rw [hW1];simp
 clear hW1;have hp1:W1.cell? ⟨w.heap.size,0,none⟩=some (.pointer (some ⟨E,0,none⟩)):=P1.cell 0;have c0:W1.cell? ⟨E,0,none⟩=some (.int .i32 0):=X1.cell 0;have f0:W1.frozen? ⟨E,0,none⟩=false:=X1.frozen 0;have X2:Box (W1.setCell ⟨E,0,none⟩ (.int .i32 1)) E #[.int .i32 1,.int .u32 0,.int .u32 0,.int .i32 0,.int .u32 0,.int .i64 v0,.int .i64 v1,.int .i64 v2,.int .i64 v3,.int .i64 v4,.int .i64 v5,.int .i64 v6,.int .i64 v7,.int .i64 v8,.slice vp0 vl0 vq0,.slice vp1 vl1 vq1,.slice vp2 vl2 vq2,.int .i64 v9,.int .i64 v10,.bool vb] 110:=X1.setc 0 _;have P2:Box (W1.setCell ⟨E,0,none⟩ (.int .i32 1)) w.heap.size #[.pointer (some ⟨E,0,none⟩)] 91:=P1.seto 0 _ (by omega);have C2':ChgL [E] w (W1.setCell ⟨E,0,none⟩ (.int .i32 1)):=(ChgL.of_below bA).st _ 0 _ (by simp)
 go_upto_region 2 with (go_at_call 174;refine (zfa ⟨E,0,none⟩ _ c0 f0).mono ?_;rintro e w' ⟨rfl,rfl⟩)
 obtain ⟨W2,hW2⟩:∃ x,x=W1.setCell ⟨E,0,none⟩ (.int .i32 1):=⟨_,rfl⟩;rw [← hW2] at X2 P2 C2' ⊢
 have z2:W2.heap.size=w.heap.size+1:=by rw [hW2];simpa using zW
 clear hW2 hp1 c0 f0 X1 P1 bA hX;have hp2:W2.cell? ⟨w.heap.size,0,none⟩=some (.pointer (some ⟨E,0,none⟩)):=P2.cell 0;have x17:W2.cell? ⟨E,17,none⟩=some (.int .i64 v9):=X2.cell 17;have x18:W2.cell? ⟨E,18,none⟩=some (.int .i64 v10):=X2.cell 18
 go_upto_region 3 with fail
 go_quiet (fail)
 go_upto_region 4 with fail
 obtain ⟨W3,hW3⟩:∃ x,x=W2.drewN nq:=⟨_,rfl⟩;rw [← hW3]
 have X3:Box W3 E #[.int .i32 1,.int .u32 0,.int .u32 0,.int .i32 0,.int .u32 0,.int .i64 v0,.int .i64 v1,.int .i64 v2,.int .i64 v3,.int .i64 v4,.int .i64 v5,.int .i64 v6,.int .i64 v7,.int .i64 v8,.slice vp0 vl0 vq0,.slice vp1 vl1 vq1,.slice vp2 vl2 vq2,.int .i64 v9,.int .i64 v10,.bool vb] 110:=by rw [hW3];exact X2
 have P3:Box W3 w.heap.size #[.pointer (some ⟨E,0,none⟩)] 91:=by rw [hW3];exact P2
 have C3':ChgL [E] w W3:=by rw [hW3];exact ⟨C2'.os,C2'.tape,C2'.output,C2'.size,C2'.block⟩
 have z3:W3.heap.size=w.heap.size+1:=by rw [hW3];exact z2
 have hp3:W3.cell? ⟨w.heap.size,0,none⟩=some (.pointer (some ⟨E,0,none⟩)):=P3.cell 0;clear hW3 X2 P2 C2' z2 hp2 x17 x18
 go_wp2_with (go_at_call 176;refine (zme E w.heap.size 1 v0 v1 v2 v3 v4 v5 v6 v7 v8 vp0 vl0 vq0 vp1 vl1 vq1 vp2 vl2 vq2 v9 v10 vb _ hp3 (by omega) (by omega) X3 H1.out).mono ?_;rintro e w5 ⟨rfl,X5,C5⟩)
 refine leaves_cons (f:=175) (args:=#[.pointer (some ⟨E,0,none⟩)]) (by simp) (by simp [go_sem]) ?_;refine (zdg ⟨E,0,none⟩ _ _ (X5.cell 0) (X5.frozen 0)).mono ?_;rintro e u' w'' ⟨rfl,rfl,rfl⟩;have X6:Box (w5.setCell ⟨E,0,none⟩ (.int .i32 0)) E #[.int .i32 0,.int .u32 0,.int .u32 1,.int .i32 0,.int .u32 0,.int .i64 v0,.int .i64 v1,.int .i64 v2,.int .i64 v3,.int .i64 v4,.int .i64 v5,.int .i64 v6,.int .i64 v7,.int .i64 v8,.slice vp0 vl0 vq0,.slice none 0 0,.slice vp2 vl2 vq2,.int .i64 v9,.int .i64 v10,.bool true] 110:=X5.setc 0 _;have C6:ChgL [E] w (w5.setCell ⟨E,0,none⟩ (.int .i32 0)):=(C3'.trans C5).st _ 0 _ (by simp)
 simp only [Leaves,settle]
 exact ⟨trivial,X6,C6⟩
theorem zd9 {w:World} {d:WorldD} {c0 c1 c2 c3 c4 c5 c6 c7 c8 c9 c10 c11 c12 c13 c14:Value} {K:List Nat} (n:Int) (hn:-9223372036854775808≤n∧n≤9223372036854775807) (h:zae.own w d [c0,c1,c2,c3,c4,c5,c6,c7,c8,c9,c10,c11,c12,c13,c14] K):zae.own w { d with writes:=n } [c0,c1,c2,c3,c4,c5,c6,c7,c8,c9,c10,c11,.int .i64 n,c13,c14] K:=by
 obtain ⟨a1,b1,a2,b2,a3,b3,K1,K2,K3,e,hM,o1,o2,o3,k0,k4,k5⟩:=zcb h
 simp only [List.cons.injEq,and_true] at e
 obtain ⟨rfl,rfl,rfl,rfl,rfl,rfl,rfl,rfl,rfl,rfl,rfl,rfl,rfl,rfl,rfl⟩:=e;subst hM;exact zeh { d with writes:=n } o1 o2 o3 k0 hn k5
theorem zex {w:World} {d:WorldD} {c0 c1 c2 c3 c4 c5 c6 c7 c8 c9 c10 c11 c13 c14:Value} {n:Int} {K:List Nat} (h:zae.own w d [c0,c1,c2,c3,c4,c5,c6,c7,c8,c9,c10,c11,.int .i64 n,c13,c14] K):n=d.writes:=by
 obtain ⟨a1,b1,a2,b2,a3,b3,K1,K2,K3,e,_⟩:=zcb h
 simp only [List.cons.injEq,Value.int.injEq,true_and,and_true] at e
 exact e.2.2.2.2.2.2.2.2.2.2.2.2.1
theorem zmf {w:World} {d:WorldD} {c0 c1 c2 c3 c4 c5 c6 c7 c8 c9 c10 c11 c12 c14:Value} {n:Int} {K:List Nat} (h:zae.own w d [c0,c1,c2,c3,c4,c5,c6,c7,c8,c9,c10,c11,c12,.int .i64 n,c14] K):n=d.stop:=by
 obtain ⟨a1,b1,a2,b2,a3,b3,K1,K2,K3,e,_⟩:=zcb h
 simp only [List.cons.injEq,Value.int.injEq,true_and,and_true] at e
 exact e.2.2.2.2.2.2.2.2.2.2.2.2.2.1
theorem EncO.chg {w w':World} {E:Nat} {d:WorldD} {cs:List Value} {K:List Nat} (h:EncO w E d cs K) (hc:ChgL [E] w w'):EncO w' E d cs K:=⟨Lay.own_chgL _ h.own hc (fun b hb hbE=>by simp only [List.mem_singleton] at hbE;subst hbE;exact h.ne hb),h.nd,h.ne⟩
theorem EncO.open {w:World} {E:Nat} {d:WorldD} {cs:List Value} {K:List Nat} (h:EncO w E d cs K):∃ p1 c1 p2 c2 p3 c3 K1 K2 K3,cs=[.int .i64 (d.shape 0),.int .i64 (d.shape 1),.int .i64 (d.shape 2),.int .i64 (d.shape 3),.int .i64 (d.shape 4),.int .i64 (d.shape 5),.int .i64 (d.shape 6),.int .i64 (d.shape 7),.int .i64 (d.shape 8),.slice p1 d.groups.1 c1,.slice p2 d.on.1 c2,.slice p3 d.tapes.1 c3,.int .i64 d.writes,.int .i64 d.stop,.bool d.down]∧K=K1++(K2++K3)∧WOpen w 0 w.heap.size d (.slice p1 d.groups.1 c1) (.slice p2 d.on.1 c2) (.slice p3 d.tapes.1 c3) K1 K2 K3:=by
 obtain ⟨a1,b1,a2,b2,a3,b3,K1,K2,K3,e,hM,o1,o2,o3,k0,k4,k5⟩:=zcb h.own;have hl:=fun b hb=>zae.own_lt h.own b hb;have nd:=h.nd;subst hM
 simp only [List.append_nil] at nd hl
 exact ⟨a1,b1,a2,b2,a3,b3,K1,K2,K3,e,by simp,o1,o2,o3,nd,fun b hb=>⟨Nat.zero_le _,hl b hb⟩,k0,k4,k5⟩
theorem WOpen.encO {w:World} {lo hi E:Nat} {d:WorldD} {p1 p2 p3:Option Addr} {c1 c2 c3:Nat} {K1 K2 K3:List Nat} (h:WOpen w lo hi d (.slice p1 d.groups.1 c1) (.slice p2 d.on.1 c2) (.slice p3 d.tapes.1 c3) K1 K2 K3) (hE:E∉K1++(K2++K3)):EncO w E d [.int .i64 (d.shape 0),.int .i64 (d.shape 1),.int .i64 (d.shape 2),.int .i64 (d.shape 3),.int .i64 (d.shape 4),.int .i64 (d.shape 5),.int .i64 (d.shape 6),.int .i64 (d.shape 7),.int .i64 (d.shape 8),.slice p1 d.groups.1 c1,.slice p2 d.on.1 c2,.slice p3 d.tapes.1 c3,.int .i64 d.writes,.int .i64 d.stop,.bool d.down] (K1++(K2++(K3++[]))):=
 ⟨zeh d h.g h.o h.t h.k0 h.k4 h.k5,by simpa using h.nd,by simpa using hE⟩
theorem zmZ {w:World} {x y:Nat→RecD} {v:Value} {K:List Nat} (h:(zab.slice 85).own w (0,x) [v] K):(zab.slice 85).own w (0,y) [v] K:=by
 obtain ⟨v',ce,Ls,e,eK,hr,_⟩:=h;exact ⟨v',ce,Ls,e,eK,hr,fun i hi=>by cases hi⟩
theorem zm0 {w:World} {lo m s:Nat} {t:TypeId} {v:Value} {xs:List Value} (h:w.ownsRow lo t s v m xs):w.ownsRow 0 t s v m xs:=by
 refine ⟨h.1,?_⟩
 rcases h.2 with hn | ⟨g,cap,cur,e,_,rest⟩
 ·exact .inl hn
 ·exact .inr ⟨g,cap,cur,e,Nat.zero_le _,rest⟩
set_option maxRecDepth 20000 in
theorem zk1 (ao:Option Addr) (cap:Nat) (fv:Value) (w:World) :
 Calls Tryz.prog 93 #[.slice ao 0 cap,fv] w fun e w'=>e=.returned (.slice ao 0 cap)∧w'=w:=by
 have CI:Calls Tryz.prog 139 #[.slice ao 0 cap,fv] w fun e w'=>e=.returned (.int .i64 (-1))∧w'=w:=by
  go_enter Tryz.func139,Tryz.ntmps139
  go_wp2
  go_loop [8] (fun z=>z=.int .i64 0) (fun _=>0)
  case atStart=>rfl
  case round=>
   subst hrel;go_wp2;go_ret;exact ⟨rfl,rfl⟩
 have te:((-1:Int)==-1)=true:=by decide
 go_enter Tryz.func93,Tryz.ntmps93
 go_wp2_with fail
 refine CI.mono ?_;rintro e w1 ⟨rfl,e1⟩;obtain rfl:=e1.symm;go_wp2;go_ret;exact ⟨rfl,rfl⟩
set_option maxRecDepth 20000 in
theorem zk2 (ao:Option Addr) (cap:Nat) (kd sq:Int) (w:World) :
 Calls Tryz.prog 75 #[.slice ao 0 cap,.int .i64 kd,.int .i64 sq] w fun e w'=>e=.returned (.slice (some ⟨w.heap.size,0,none⟩) 0 0)∧w'=w.alloc (.cells #[] 85):=by
 go_enter Tryz.func75,Tryz.ntmps75
 go_wp2
 go_loopw [7,8] (fun v z wr=>z=.int .i64 0∧v=.slice (some ⟨w.heap.size,0,none⟩) 0 0∧wr=w.alloc (.cells #[] 85)) (fun _ _ _=>0)
 case atStart=>exact ⟨rfl,rfl,rfl⟩
 case round=>
  obtain ⟨rfl,rfl,rfl⟩:=hrel;go_wp2;go_ret;exact ⟨rfl,rfl⟩
theorem zk3 {w:World} {p:Nat×(Nat→RecD)} {ao:Option Addr} {cap:Nat} {K:List Nat} (h:(zab.slice 85).own w p [.slice ao p.1 cap] K) (nd:K.Nodup) (hn:p.1≤1048576) (a0 a1:Nat) (kd sq:Int) (h0:w.cell? ⟨a0,0,none⟩=some (.int .i64 kd)) (h1:w.cell? ⟨a1,0,none⟩=some (.int .i64 sq)) (hl0:a0<w.heap.size) (hl1:a1<w.heap.size) (hk0:a0∉K) (hk1:a1∉K) :
 Calls Tryz.prog 93 #[.slice ao p.1 cap,.func (.func 142) #[] #[.pointer (some ⟨a0,0,none⟩),.pointer (some ⟨a1,0,none⟩)]] w fun e w'=>∃ ao' cap' K',e=.returned (.slice ao' (zbr p kd sq).1 cap')∧Turn (zab.slice 85) w K w' (zbr p kd sq) [.slice ao' (zbr p kd sq).1 cap'] K':=by
 by_cases h0':p.1=0
 ·obtain ⟨n,x⟩:=p
  simp only at h0'
  subst h0';refine (zk1 ao cap _ w).mono ?_;rintro e w' ⟨rfl,rfl⟩;exact ⟨ao,cap,K,rfl,zmZ h,nd,fun b hb=>.inl hb,ChgL.refl _ _⟩
 ·obtain ⟨g,cap',ce,Ls,e,eK,S⟩:=zbP h h0'
  simp only [List.cons.injEq,Value.slice.injEq,and_true,true_and] at e
  obtain ⟨rfl,rfl⟩:=e;subst eK;refine (zh6 g cap p.1 p.2 ce Ls a0 a1 kd sq w S nd h0 h1 hl0 hl1 (fun hh=>hk0 (by rw [hh];exact List.mem_cons_self ..)) (fun hh=>hk1 (by rw [hh];exact List.mem_cons_self ..)) hn).mono ?_;rintro e w' ⟨rfl,hr,hc⟩
  obtain ⟨s1,s2,s3⟩:=S.select nd (p:=(fun i=>zaM kd sq (p.2 i))) hr (fun b hb=>.inl (by simpa [Value.ownBlock] using hb.symm)) (fun b hb=>hc.block b (S.mem_lt b (List.mem_cons_of_mem _ hb)) (fun hm=>by
   simp only [List.mem_singleton] at hm
   subst hm
   exact (List.nodup_cons.1 nd).1 hb))
  exact ⟨_,cap,_,rfl,s1,s2,s3,hc.mono (fun b hb=>by simp only [List.mem_singleton] at hb;rw [hb];exact List.mem_cons_self ..)⟩
theorem zk4 {w:World} {p:Nat×(Nat→RecD)} {ao:Option Addr} {cap:Nat} {K:List Nat} (h:(zab.slice 85).own w p [.slice ao p.1 cap] K) (nd:K.Nodup) (hn:p.1≤1048576) (kd sq:Int) :
 Calls Tryz.prog 75 #[.slice ao p.1 cap,.int .i64 kd,.int .i64 sq] w fun e w'=>∃ ao' cap' K',e=.returned (.slice ao' (zbr p kd sq).1 cap')∧Turn (zab.slice 85) w K w' (zbr p kd sq) [.slice ao' (zbr p kd sq).1 cap'] K':=by
 by_cases h0':p.1=0
 ·obtain ⟨n,x⟩:=p
  simp only at h0'
  subst h0';refine (zk2 ao cap kd sq w).mono ?_;rintro e w' ⟨rfl,rfl⟩;have hr:=World.ownsRow_lit (base:=0) (e:=85) (size:=zab.sz) w #[] 0 (Nat.zero_le _) (Nat.zero_le _) (by simp);refine ⟨some ⟨w.heap.size,0,none⟩,0,[w.heap.size],rfl,⟨_,fun _=>[],fun _=>[],rfl,by simp [Value.ownBlock,zbr,zai,zbp],?_,fun i hi=>by cases hi⟩,by simp,fun b hb=>.inr ?_,ChgL.of_below ((Below.refl _ _).alloc (Nat.le_refl _) _)⟩
  ·simpa [zbr,zai,zbp] using hr
  ·simp only [List.mem_singleton] at hb
   subst hb
   simp
 ·obtain ⟨g,cap',ce,Ls,e,eK,S⟩:=zbP h h0'
  simp only [List.cons.injEq,Value.slice.injEq,and_true,true_and] at e
  obtain ⟨rfl,rfl⟩:=e;subst eK;refine (zh5 g cap p.1 p.2 ce Ls kd sq w S hn).mono ?_;rintro e w' ⟨ao',c',rfl,hr,hb⟩;obtain ⟨s1,s2,s3⟩:=S.select nd (p:=(fun i=>zaM kd sq (p.2 i))) (zm0 hr) (fun b hb'=>.inr (hr.lt b hb').1) (fun b hb'=>hb.block b (S.mem_lt b (List.mem_cons_of_mem _ hb')));exact ⟨ao',c',_,rfl,s1,s2,s3,ChgL.of_below hb⟩
theorem zfW {w w1:World} {d:TapeD} {ao ao':Option Addr} {cap cap':Nat} {K K':List Nat} {kd sq:Int} {cs:List Value} (hc:cs=[.bool d.wiped,.slice ao d.recs.1 cap]) (ht:Turn (zab.slice 85) w K w1 (zbr d.recs kd sq) [.slice ao' (zbr d.recs kd sq).1 cap'] K'):Turn zaj w K w1 (zdC d kd sq) (cs.set 1 (.slice ao' (zbr d.recs kd sq).1 cap')) K':=by
 subst hc;exact ⟨ziN (zdC d kd sq) ht.own,ht.nd,ht.sub,ht.chg⟩
end Go.Proofs.YthbpmbgfddpffaaGreat
