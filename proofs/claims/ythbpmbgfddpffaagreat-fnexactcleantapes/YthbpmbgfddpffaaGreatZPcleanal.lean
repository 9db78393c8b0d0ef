/- The ledger: what it holds behind k records, in plain words. -/
import Derived.Test.YthbpmbgfddpffaaGreatZPcleanak
set_option linter.unusedVariables false
set_option linter.unusedSimpArgs false
set_option maxHeartbeats 16000000
namespace Go.Proofs.YthbpmbgfddpffaaGreat
open Go.RowKit F256
open Go.Maps (Keyed)
def entT (k:Int):TypeId:=if k=1 then 185 else if k=2 then 186 else if k=3 then 187 else 190
def entV (k:Int) (cs:List Value):Value:=.iface (entT k) (.agg cs.toArray)
open Classical in
noncomputable def cN (p:Nat→Prop) (key:Nat→Value) (y:Value):Nat→Nat
 | 0=>0
 | k+1=>cN p key y k+(if p k∧key k=y then 1 else 0)
noncomputable def cntF (p:Nat→Prop) (key:Nat→Value) (k:Nat):Value→Option Value:=fun y=>if cN p key y k=0 then none else some (.int .i64 (cN p key y k:Int))
theorem zlX (p:Nat→Prop) (key:Nat→Value) (y:Value):∀ k,cN p key y k≤k
 | 0=>Nat.le_refl _
 | k+1=>by
  have:=zlX p key y k;unfold cN
  split<;>omega
theorem zbT {p:Nat→Prop} {key:Nat→Value} {k:Nat} (h:¬ p k):cntF p key (k+1)=cntF p key k:=by
 funext y
 have e:cN p key y (k+1)=cN p key y k:=by
  show cN p key y k+_=_
  rw [if_neg (fun q=>h q.1)];rfl
 unfold cntF;rw [e]
theorem ze8 {p:Nat→Prop} {key:Nat→Value} {k:Nat} (h:p k):cntF p key (k+1)=putF (cntF p key k) (key k) (.int .i64 ((cN p key (key k) k:Int)+1)):=by
 funext y
 by_cases c:y=key k
 ·subst c
  rw [zdI]
  have e:cN p key (key k) (k+1)=cN p key (key k) k+1:=by
   show cN p key (key k) k+_=_
   rw [if_pos ⟨h,rfl⟩]
  unfold cntF;rw [e,if_neg (by omega)]
  simp
 ·rw [zdV _ _ c]
  have e:cN p key y (k+1)=cN p key y k:=by
   show cN p key y k+_=_
   rw [if_neg (fun q=>c q.2.symm)];rfl
  unfold cntF;rw [e]
theorem zcS (p:Nat→Prop) (key:Nat→Value) (k:Nat) (y:Value):(cntF p key k y).getD (.int .i64 0)=.int .i64 (cN p key y k:Int):=by
 unfold cntF
 split
 ·rename_i h
  rw [h];rfl
 ·rfl
noncomputable def zie (p:Nat→Prop) (key val:Nat→Value):Nat→Value→Option Value
 | 0=>fun _=>none
 | k+1=>@ite _ (p k) (Classical.propDecidable _) (putF (zie p key val k) (key k) (val k)) (zie p key val k)
theorem zb4 {p:Nat→Prop} {key val:Nat→Value} {k:Nat} (h:¬ p k):zie p key val (k+1)=zie p key val k:=if_neg h
theorem zev {p:Nat→Prop} {key val:Nat→Value} {k:Nat} (h:p k):zie p key val (k+1)=putF (zie p key val k) (key k) (val k):=if_pos h
section
variable (x:Nat→RecD) (ce:Nat→List Value) (k:Nat)
noncomputable def newF:Value→Option Value:=zie (fun i=>(x i).kind=1) (fun i=>.string (x i).name) (fun i=>.agg (ce i).toArray) k
noncomputable def movF:Value→Option Value:=cntF (fun i=>(x i).kind=2) (fun i=>.int .i64 (x i).seq) k
noncomputable def donF:Value→Option Value:=cntF (fun i=>(x i).kind=3) (fun i=>.agg #[.int .i64 (x i).seq,.int .i64 (x i).group]) k
noncomputable def endF:Value→Option Value:=cntF (fun i=>(x i).kind=3) (fun i=>.int .i64 (x i).seq) k
noncomputable def shaF:Value→Option Value:=zie (fun i=>(x i).kind=4) (fun i=>.agg #[.int .i64 (x i).group,.int .i64 (x i).row]) (fun i=>.int .i64 (x i).seq) k
def entL:List Value:=(List.range k).map (fun i=>entV (x i).kind (ce i))
end
theorem zlY (x:Nat→RecD) (ce:Nat→List Value) (k:Nat):entL x ce (k+1)=entL x ce k++[entV (x k).kind (ce k)]:=by
 unfold entL;rw [List.range_succ,List.map_append];rfl
structure Ldg (w:World) (lo B:Nat) (s:Nat→Int) (m k:Nat) (x:Nat→RecD) (ce:Nat→List Value) (v:Value) (b1 b2 b3 b4 b5:Nat):Prop where
 box:Box w B #[.int .i64 (s 0),.int .i64 (s 1),.int .i64 (s 2),.int .i64 (s 3),.int .i64 (s 4),.int .i64 (s 5),.int .i64 (s 6),.int .i64 (s 7),.int .i64 (s 8),v,.map (some b1),.map (some b2),.map (some b3),.map (some b4),.map (some b5)] 145
 row:w.ownsRow lo 149 1 v m (entL x ce m)
 m1:MapV w 9 b1 k (newF x ce k)
 m2:MapV w 2 b2 k (movF x k)
 m3:MapV w 189 b3 k (donF x k)
 m4:MapV w 2 b4 k (endF x k)
 m5:MapV w 192 b5 k (shaF x k)
 nd:[B,b1,b2,b3,b4,b5].Nodup
 low:lo≤B∧lo≤b1∧lo≤b2∧lo≤b3∧lo≤b4∧lo≤b5
 apart:∀ g,v.ownBlock=some g→g∉[B,b1,b2,b3,b4,b5]
theorem zbS {w:World} {lo:Nat} {e:TypeId} {v:Value} {n:Nat} {xs:List Value} (h:w.ownsRow lo e 1 v n xs):∃ ao cap,v=.slice ao n cap:=by
 rcases h.2 with ⟨rfl,rfl⟩ | ⟨g,cap,cur,rfl,_⟩
 ·exact ⟨none,0,rfl⟩
 ·exact ⟨_,_,rfl⟩
theorem zfO {w w1 w2:World} {q:Option Nat} {b:Nat} (h1:w.grownBy w1 none) (h2:w1.grownBy w2 q) (hb:b<w.heap.size) (hq:some b≠q):w2.heap[b]?=w.heap[b]?:=
 (h2.block b (Nat.lt_of_lt_of_le hb h1.size) hq).trans (h1.block b hb (by simp))
section
variable {w w1 w2:World} {lo B:Nat} {s:Nat→Int} {m k:Nat} {x:Nat→RecD} {ce:Nat→List Value} {v v':Value} {b1 b2 b3 b4 b5:Nat}
theorem Ldg.grown (h:Ldg w lo B s m k x ce v b1 b2 b3 b4 b5) (h1:w.grownBy w1 none) (h2:w1.grownBy w2 v.ownBlock):Box w2 B #[.int .i64 (s 0),.int .i64 (s 1),.int .i64 (s 2),.int .i64 (s 3),.int .i64 (s 4),.int .i64 (s 5),.int .i64 (s 6),.int .i64 (s 7),.int .i64 (s 8),v,.map (some b1),.map (some b2),.map (some b3),.map (some b4),.map (some b5)] 145:=
 (zfO h1 h2 h.box.lt (fun e=>h.apart B e.symm (by simp))).trans h.box
theorem Ldg.laid {o1 o2:Obj} (h:Ldg w lo B s k k x ce v b1 b2 b3 b4 b5) (g1:(w.alloc o1).grownBy w1 v.ownBlock) (O1:w1.ownsRow lo 149 1 v' (k+1) (entL x ce k++[entV (x k).kind (ce k)])) (hloc:v'.ownBlock=v.ownBlock∨v'.ownBlock=some (w.alloc o1).heap.size) :
 Ldg ((w1.setCell ⟨B,9,none⟩ v').alloc o2) lo B s (k+1) k x ce v' b1 b2 b3 b4 b5:=by
 have g0:w.grownBy (w.alloc o1) none:=World.grownBy_alloc _ _ _
 have sz:w.heap.size+1≤w1.heap.size:=by have:=g1.size;simp at this;omega
 have keep:∀ b,b∈[B,b1,b2,b3,b4,b5]→b<w.heap.size→w1.heap[b]?=w.heap[b]?:=fun b hb hl=>zfO g0 g1 hl (fun e=>h.apart b e.symm hb)
 have ne:∀ b,b∈[b1,b2,b3,b4,b5]→b≠B:=fun b hb e=>by
  have:=h.nd;rw [List.nodup_cons] at this;exact this.1 (by rw [← e];exact hb)
 have keep2:∀ b,b∈[b1,b2,b3,b4,b5]→b<w.heap.size→((w1.setCell ⟨B,9,none⟩ v').alloc o2).heap[b]?=w.heap[b]?:=fun b hb hl=>by
  rw [Below.heap_alloc _ _ b (by simp;omega),heap_setCell_other w1 ⟨B,9,none⟩ b v' (ne b hb)];exact keep b (List.mem_cons_of_mem _ hb) hl
 have ap:∀ g,v'.ownBlock=some g→g∉[B,b1,b2,b3,b4,b5]:=fun g hg=>by
  rcases hloc with e | e
  ·exact h.apart g (by rw [← e];exact hg)
  ·rw [e] at hg
   cases hg
   have l0:=h.box.lt;have l1:=h.m1.lt;have l2:=h.m2.lt;have l3:=h.m3.lt;have l4:=h.m4.lt;have l5:=h.m5.lt
   simp
   omega
 refine ⟨?_,?_,h.m1.block (keep2 b1 (by simp) h.m1.lt),h.m2.block (keep2 b2 (by simp) h.m2.lt),h.m3.block (keep2 b3 (by simp) h.m3.lt),h.m4.block (keep2 b4 (by simp) h.m4.lt),h.m5.block (keep2 b5 (by simp) h.m5.lt),h.nd,h.low,ap⟩
 ·have X1:Box w1 B #[.int .i64 (s 0),.int .i64 (s 1),.int .i64 (s 2),.int .i64 (s 3),.int .i64 (s 4),.int .i64 (s 5),.int .i64 (s 6),.int .i64 (s 7),.int .i64 (s 8),v,.map (some b1),.map (some b2),.map (some b3),.map (some b4),.map (some b5)] 145:=(keep B (by simp) h.box.lt).trans h.box
  exact (X1.setc 9 v').allocd o2
 ·rw [zlY]
  have O2:(w1.setCell ⟨B,9,none⟩ v').ownsRow lo 149 1 v' (k+1) (entL x ce k++[entV (x k).kind (ce k)]):=by
   refine ⟨O1.1,?_⟩
   rcases O1.2 with hn | ⟨g,cap,cur,rfl,q1,q2,q3⟩
   ·exact .inl hn
   ·exact .inr ⟨g,cap,cur,rfl,q1,(heap_setCell_other w1 ⟨B,9,none⟩ g _ (fun e=>ap g rfl (by rw [show g=B from e];simp))).trans q2,q3⟩
  exact O2.alloc o2
theorem Ldg.drawn (h:Ldg w lo B s m k x ce v b1 b2 b3 b4 b5) (q:Nat):Ldg { w with drawn:=q } lo B s m k x ce v b1 b2 b3 b4 b5:=⟨h.box,h.row,h.m1,h.m2,h.m3,h.m4,h.m5,h.nd,h.low,h.apart⟩
theorem Ldg.next {T:List Nat} (h:Ldg w lo B s (k+1) k x ce v b1 b2 b3 b4 b5) (hb:∀ b,b<w.heap.size→b∉T→w2.heap[b]?=w.heap[b]?) (hT:∀ b,b∈T→b∈[b1,b2,b3,b4,b5])
 (m1:MapV w2 9 b1 (k+1) (newF x ce (k+1))) (m2:MapV w2 2 b2 (k+1) (movF x (k+1))) (m3:MapV w2 189 b3 (k+1) (donF x (k+1))) (m4:MapV w2 2 b4 (k+1) (endF x (k+1))) (m5:MapV w2 192 b5 (k+1) (shaF x (k+1))) :
 Ldg w2 lo B s (k+1) (k+1) x ce v b1 b2 b3 b4 b5:=by
 have nB:B∉T:=fun q=>by
  have:=h.nd;rw [List.nodup_cons] at this;exact this.1 (hT B q)
 refine ⟨(hb B h.box.lt nB).trans h.box,⟨h.row.1,?_⟩,m1,m2,m3,m4,m5,h.nd,h.low,h.apart⟩
 rcases h.row.2 with hn | ⟨g,cap,cur,rfl,q1,q2,q3⟩
 ·exact .inl hn
 ·exact .inr ⟨g,cap,cur,rfl,q1,(hb g (Array.getElem?_eq_some_iff.1 q2).1 (fun q=>h.apart g rfl (List.mem_cons_of_mem _ (hT g q)))).trans q2,q3⟩
end
theorem zdd {w w1:World} {lo B:Nat} {s:Nat→Int} {m k:Nat} {x:Nat→RecD} {ce:Nat→List Value} {v:Value} {b1 b2 b3 b4 b5:Nat} {o1:Obj} (h:Ldg w lo B s m k x ce v b1 b2 b3 b4 b5) (g1:(w.alloc o1).grownBy w1 v.ownBlock) (hlo:lo≤w.heap.size):Below lo w w1:=by
 have g0:w.grownBy (w.alloc o1) none:=World.grownBy_alloc _ _ _;refine ⟨g1.os.trans g0.os,g1.tape.trans g0.tape,g1.output.trans g0.output,Nat.le_trans g0.size g1.size,fun b hb=>zfO g0 g1 (by omega) (fun e=>?_)⟩
 rcases h.row.2 with ⟨rfl,_⟩ | ⟨g,cap,cur,rfl,q1,_⟩
 ·cases e
 ·have:b=g:=by simpa [Value.ownBlock] using e
  omega
theorem zdJ (u:World):(zeroValue 2).run Tryz.prog u=.ok (.int .i64 0) u:=by kernel_rfl
theorem zgy {ops:Array Oper} {o:Oper} {a:Act} {W w':World} {K:Act→World→Prop} {Q:Exit→Act→World→Prop} {F:Prop} (hg:o.guard=none) (t:TypeId) (m x:Operand) (hop:o.op=Op.mapEntry t m x) (b:Nat) (key v:Value) (hm:a.eval m=.map (some b)) (hx:a.eval x=key)
 (hrun:(Instr.mapEntry t (.map (some b)) key).run Tryz.prog W=.ok v w') (hK:K (a.put o.dst v) w'):if Region.wanted o (yielded ops a.tmps)=true then Oper.wp Tryz.prog o a W K Q else F:=by
 have hw:Region.wanted o (yielded ops a.tmps)=true:=by simp [Region.wanted,hg]
 rw [if_pos hw];unfold Oper.wp
 simp [execOp,hop,hm,hx,hrun,Result.andThen]
 exact hK
theorem zfP {ops:Array Oper} {o:Oper} {a:Act} {W w':World} {K:Act→World→Prop} {Q:Exit→Act→World→Prop} {F:Prop} (hg:o.guard=none) (t:TypeId) (m x y:Operand) (hop:o.op=Op.entryStore t m x y) (b:Nat) (st v:Value) (hm:a.eval m=.map (some b)) (hx:a.eval x=st) (hy:a.eval y=v)
 (hrun:(Instr.entryStore t (.map (some b)) st v).run Tryz.prog W=.ok () w') (hK:K (a.put o.dst undef) w'):if Region.wanted o (yielded ops a.tmps)=true then Oper.wp Tryz.prog o a W K Q else F:=by
 have hw:Region.wanted o (yielded ops a.tmps)=true:=by simp [Region.wanted,hg]
 rw [if_pos hw];unfold Oper.wp
 simp [execOp,hop,hm,hx,hy,hrun,Result.andThen]
 exact hK
theorem znf:Tryz.prog.follows Departure.mixedOrders=true:=by kernel_rfl
def EntQ (w w':World) (v v':Value) (T:List Nat):Prop:=(v'.ownBlock=v.ownBlock∨∃ g,w.heap.size≤g∧v'.ownBlock=some g)∧∀ b,b<w.heap.size→b∉T→v.ownBlock≠some b→w'.heap[b]?=w.heap[b]?
theorem zdW:(Tryz.prog.info? 149).map (fun i=>(i.zero,i.size,i.bytes))=some (some .nilIface,1,16):=by kernel_rfl
theorem ta00 (u:Value) (w:World):(Instr.typeAssert (.iface 185 u) 149 185 true).run Tryz.prog w=.ok (.tuple #[u,.bool true]) w:=by kernel_rfl
theorem ta10 (u:Value) (w:World):(Instr.typeAssert (.iface 186 u) 149 185 true).run Tryz.prog w=.ok (.tuple #[.agg #[.int .i64 0,.int .i64 0,.string ByteArray.empty,.int .i64 0,.int .i64 0,.int .i64 0,.slice none 0 0,.slice none 0 0,.slice none 0 0],.bool false]) w:=by kernel_rfl
theorem ta11 (u:Value) (w:World):(Instr.typeAssert (.iface 186 u) 149 186 true).run Tryz.prog w=.ok (.tuple #[u,.bool true]) w:=by kernel_rfl
theorem ta20 (u:Value) (w:World):(Instr.typeAssert (.iface 187 u) 149 185 true).run Tryz.prog w=.ok (.tuple #[.agg #[.int .i64 0,.int .i64 0,.string ByteArray.empty,.int .i64 0,.int .i64 0,.int .i64 0,.slice none 0 0,.slice none 0 0,.slice none 0 0],.bool false]) w:=by kernel_rfl
theorem ta21 (u:Value) (w:World):(Instr.typeAssert (.iface 187 u) 149 186 true).run Tryz.prog w=.ok (.tuple #[.agg #[.int .i64 0,.int .i64 0,.string ByteArray.empty,.int .i64 0,.int .i64 0,.int .i64 0,.slice none 0 0,.slice none 0 0,.slice none 0 0],.bool false]) w:=by kernel_rfl
theorem ta22 (u:Value) (w:World):(Instr.typeAssert (.iface 187 u) 149 187 true).run Tryz.prog w=.ok (.tuple #[u,.bool true]) w:=by kernel_rfl
theorem ta30 (u:Value) (w:World):(Instr.typeAssert (.iface 190 u) 149 185 true).run Tryz.prog w=.ok (.tuple #[.agg #[.int .i64 0,.int .i64 0,.string ByteArray.empty,.int .i64 0,.int .i64 0,.int .i64 0,.slice none 0 0,.slice none 0 0,.slice none 0 0],.bool false]) w:=by kernel_rfl
theorem ta31 (u:Value) (w:World):(Instr.typeAssert (.iface 190 u) 149 186 true).run Tryz.prog w=.ok (.tuple #[.agg #[.int .i64 0,.int .i64 0,.string ByteArray.empty,.int .i64 0,.int .i64 0,.int .i64 0,.slice none 0 0,.slice none 0 0,.slice none 0 0],.bool false]) w:=by kernel_rfl
theorem ta32 (u:Value) (w:World):(Instr.typeAssert (.iface 190 u) 149 187 true).run Tryz.prog w=.ok (.tuple #[.agg #[.int .i64 0,.int .i64 0,.string ByteArray.empty,.int .i64 0,.int .i64 0,.int .i64 0,.slice none 0 0,.slice none 0 0,.slice none 0 0],.bool false]) w:=by kernel_rfl
theorem ta33 (u:Value) (w:World):(Instr.typeAssert (.iface 190 u) 149 190 true).run Tryz.prog w=.ok (.tuple #[u,.bool true]) w:=by kernel_rfl
end Go.Proofs.YthbpmbgfddpffaaGreat
namespace Go.Proofs.YthbpmbgfddpffaaGreat
open Go.RowKit
section
variable {P:Program} {ops:Array Oper} {Q:Exit→Act→World→Prop} {md:Region.Mode} {S:World→Prop} {L:Nat}
theorem zbo {i:Nat} {o:Oper} {fuel:Nat} {listed:Array Bool} {a:Act} {w:World} (ho:ops[i]?=some o) (hr:Region.ready md ops listed=[i])
 (h:∀ K':Act→World→Prop,Shut (∀ a w,S w→zbf P md ops Q S L fuel (listed.setIfInBounds i true) a w→K' a w)→if Region.wanted o (yielded ops a.tmps)=true then Oper.wp P o a w K' Q else K' (a.put o.dst undef) w):zbf P md ops Q S L (fuel+1) listed a w:=by
 refine ⟨fun h0=>(by rw [hr] at h0;cases h0),fun j hj=>?_⟩;rw [hr] at hj
 obtain rfl:j=i:=by simpa using hj
 exact wpOp_step ho (fun K' hK=>h K' (fun a w hS hW=>hK a w ⟨fun _=>hS,hW⟩))
theorem zde {i j:Nat} {o o':Oper} {fuel:Nat} {listed:Array Bool} {a:Act} {w:World} (ho:ops[i]?=some o) (ho':ops[j]?=some o') (hr:Region.ready md ops listed=[i,j])
 (h:∀ K':Act→World→Prop,Shut (∀ a w,S w→zbf P md ops Q S L fuel (listed.setIfInBounds i true) a w→K' a w)→if Region.wanted o (yielded ops a.tmps)=true then Oper.wp P o a w K' Q else K' (a.put o.dst undef) w)
 (h':∀ K':Act→World→Prop,Shut (∀ a w,S w→zbf P md ops Q S L fuel (listed.setIfInBounds j true) a w→K' a w)→if Region.wanted o' (yielded ops a.tmps)=true then Oper.wp P o' a w K' Q else K' (a.put o'.dst undef) w):zbf P md ops Q S L (fuel+1) listed a w:=by
 refine ⟨fun h0=>(by rw [hr] at h0;cases h0),fun k hk=>?_⟩;rw [hr] at hk
 simp only [List.mem_cons,List.not_mem_nil,or_false] at hk
 rcases hk with rfl | rfl
 ·exact wpOp_step ho (fun K' hK=>h K' (fun a w hS hW=>hK a w ⟨fun _=>hS,hW⟩))
 ·exact wpOp_step ho' (fun K' hK=>h' K' (fun a w hS hW=>hK a w ⟨fun _=>hS,hW⟩))
end
theorem zdf {ops:Array Oper} {o:Oper} {a:Act} {W:World} {K:Act→World→Prop} {Q:Exit→Act→World→Prop} {F:Prop} (hg:o.guard=none) (hop:o.op=Op.buildSlice 78 0 #[])
 (hK:K (a.put o.dst (.slice (some ⟨W.heap.size,0,none⟩) 0 0)) (W.alloc (.cells #[] 85))):if Region.wanted o (yielded ops a.tmps)=true then Oper.wp Tryz.prog o a W K Q else F:=by
 have hw:Region.wanted o (yielded ops a.tmps)=true:=by simp [Region.wanted,hg]
 rw [if_pos hw];unfold Oper.wp execOp
 simp only [hop]
 go_simp;exact hK
theorem zjm {ops:Array Oper} {o:Oper} {a:Act} {W:World} {K:Act→World→Prop} {Q:Exit→Act→World→Prop} {F:Prop} (hg:o.guard=none) (x:Operand) (hop:o.op=Op.buildSlice 78 1 #[(0,x)]) (r:RecD) (b6 b7 b8:Option Addr) (bk6 bk7 bk8:Nat) (hx:a.eval x=.agg #[.int .i64 r.kind,.int .i64 r.seq,.string r.name,.int .i64 r.length,.int .i64 r.group,.int .i64 r.row,.slice b6 r.rows.1 bk6,.slice b7 r.data.1 bk7,.slice b8 r.delta.1 bk8])
 (hK:K (a.put o.dst (.slice (some ⟨W.heap.size,0,none⟩) 1 1)) (W.alloc (.cells #[.int .i64 r.kind,.int .i64 r.seq,.string r.name,.int .i64 r.length,.int .i64 r.group,.int .i64 r.row,.slice b6 r.rows.1 bk6,.slice b7 r.data.1 bk7,.slice b8 r.delta.1 bk8] 85))):if Region.wanted o (yielded ops a.tmps)=true then Oper.wp Tryz.prog o a W K Q else F:=by
 have hw:Region.wanted o (yielded ops a.tmps)=true:=by simp [Region.wanted,hg]
 rw [if_pos hw];unfold Oper.wp execOp
 simp only [hop,List.map_toArray,List.map_cons,List.map_nil,hx]
 go_simp;exact hK
theorem zb5 {ops:Array Oper} {o:Oper} {a:Act} {W:World} {K:Act→World→Prop} {Q:Exit→Act→World→Prop} {F:Prop} (hg:o.guard=none) (x:Operand) (hop:o.op=Op.buildSlice 78 1 #[(0,x)]) {w0:World} {hi0:Nat} {r:RecD} {cs:List Value} (hr:zab.rd w0 hi0 r cs) (hx:a.eval x=.agg cs.toArray)
 (hK:K (a.put o.dst (.slice (some ⟨W.heap.size,0,none⟩) 1 1)) (W.alloc (.cells cs.toArray 85))):if Region.wanted o (yielded ops a.tmps)=true then Oper.wp Tryz.prog o a W K Q else F:=by
 obtain ⟨b6,bk6,b7,bk7,b8,bk8,rfl,-⟩:=zaD hr;exact zjm hg x hop r b6 b7 b8 bk6 bk7 bk8 hx hK
end Go.Proofs.YthbpmbgfddpffaaGreat
namespace Go.Proofs.YthbpmbgfddpffaaGreat
open Go.RowKit F256
open Go.Maps (Keyed)
set_option maxRecDepth 20000 in
theorem zkS {w:World} {lo B:Nat} {s:Nat→Int} {k:Nat} {x:Nat→RecD} {ce:Nat→List Value} {v:Value} {b1 b2 b3 b4 b5:Nat} (h:Ldg w lo B s k k x ce v b1 b2 b3 b4 b5) (hk:k≤1000000) (hlo:lo≤w.heap.size)
 {r:RecD} {ao6 ao7 ao8:Option Addr} {cap6 cap7 cap8:Nat} (hx:x k=r) (hc:ce k=[.int .i64 r.kind,.int .i64 r.seq,.string r.name,.int .i64 r.length,.int .i64 r.group,.int .i64 r.row,.slice ao6 r.rows.1 cap6,.slice ao7 r.data.1 cap7,.slice ao8 r.delta.1 cap8]) (hkd:r.kind=1) (hn:r.name.size≤maxLen) (hs:-9223372036854775808≤r.seq∧r.seq≤9223372036854775807) (hg:-9223372036854775808≤r.group∧r.group≤9223372036854775807) (hw:-9223372036854775808≤r.row∧r.row≤9223372036854775807) :
 Calls Tryz.prog 89 #[.pointer (some ⟨B,0,none⟩),.iface 185 (.agg #[.int .i64 r.kind,.int .i64 r.seq,.string r.name,.int .i64 r.length,.int .i64 r.group,.int .i64 r.row,.slice ao6 r.rows.1 cap6,.slice ao7 r.data.1 cap7,.slice ao8 r.delta.1 cap8])] w fun e w'=>e=.returned (.tuple #[])∧(∃ v',Ldg w' lo B s (k+1) (k+1) x ce v' b1 b2 b3 b4 b5∧EntQ w w' v v' [B,b1,b2,b3,b4,b5])∧Below lo w w':=by
 have HX:=hid hx;have HC:=hid hc;have HKD:=hid hkd
 have HEV:Hid (entV (x k).kind (ce k)=.iface 185 (.agg (rwR r ao6 cap6 ao7 cap7 ao8 cap8).toArray)):=by
  show entV (x k).kind (ce k)=.iface 185 (.agg (rwR r ao6 cap6 ao7 cap7 ao8 cap8).toArray)
  unfold entV entT;rw [hx,hc]
  simp [hkd]
 clear hx hc hkd;obtain ⟨i0,hi,hz0,hz1,hz2⟩:=info_parts zdW;have HL:=hid h;obtain ⟨ao,cap,hv⟩:=zbS h.row;subst hv;have x9:w.cell? ⟨B,9,none⟩=some (.slice ao k cap):=h.box.cell 9;have O0:=h.row;clear h;have TA:=ta00;have bA:w.grownBy (w.alloc (.cells #[.iface 185 (.agg (rwR r ao6 cap6 ao7 cap7 ao8 cap8).toArray)] 149)) none:=World.grownBy_alloc _ _ _
 go_enter Tryz.func89,Tryz.ntmps89
 go_upto_region 4 with (at_builtin;refine wpList_append_own_at _ rfl _ _ 143 rfl lo 149 i0 .nilIface 1 16 Tryz.underlying143 hi hz0 hz1 hz2 rfl (by decide) _ _ _ rfl (O0.alloc _) ⟨w.heap.size,0,none⟩ 1 1 [.iface 185 (.agg (rwR r ao6 cap6 ao7 cap7 ao8 cap8).toArray)] rfl rfl (cell_one_new _ _ _) (fun u hu=>by simp at hu;subst hu;rfl) (by unfold maxLen;omega) (by omega) (by simp;omega) ?_;intro v' w1 O1 g1 hnil hloc;obtain ⟨ao',cap',rfl⟩:=zbS O1;have L1:=HL.out.grown bA g1;have z9:=L1.cell 9;have z9f:=L1.frozen 9;clear hnil)
 have L2:Ldg ((w1.setCell ⟨B,9,none⟩ (.slice ao' (k+1) cap')).alloc (.cells (rwR r ao6 cap6 ao7 cap7 ao8 cap8).toArray 185)) lo B s (k+1) k x ce (.slice ao' (k+1) cap') b1 b2 b3 b4 b5:=HL.out.laid g1 (by rw [HEV.out];exact O1) hloc
 have X2:Box ((w1.setCell ⟨B,9,none⟩ (.slice ao' (k+1) cap')).alloc (.cells (rwR r ao6 cap6 ao7 cap7 ao8 cap8).toArray 185)) w1.heap.size (rwR r ao6 cap6 ao7 cap7 ao8 cap8).toArray 185:=by
  have:=zaq (w1.setCell ⟨B,9,none⟩ (.slice ao' (k+1) cap')) (rwR r ao6 cap6 ao7 cap7 ao8 cap8).toArray 185;rw [show (w1.setCell ⟨B,9,none⟩ (.slice ao' (k+1) cap')).heap.size=w1.heap.size by simp] at this;exact this
 have B2:Below lo w ((w1.setCell ⟨B,9,none⟩ (.slice ao' (k+1) cap')).alloc (.cells (rwR r ao6 cap6 ao7 cap7 ao8 cap8).toArray 185)):=by
  have q1:Below lo w w1:=zdd HL.out g1 hlo;exact (q1.setCell HL.out.low.1 _).alloc (by have:=q1.size;simp;omega) _
 have A2:∀ b,b<w.heap.size→b≠B→(Value.slice ao k cap).ownBlock≠some b→((w1.setCell ⟨B,9,none⟩ (.slice ao' (k+1) cap')).alloc (.cells (rwR r ao6 cap6 ao7 cap7 ao8 cap8).toArray 185)).heap[b]?=w.heap[b]?:=fun b hb hB hv=>by
  have sz:w.heap.size+1≤w1.heap.size:=by have:=g1.size;simp at this;omega
  rw [Below.heap_alloc _ _ b (by simp;omega),heap_setCell_other w1 ⟨B,9,none⟩ b _ hB];exact zfO bA g1 hb (fun e=>hv e.symm)
 have HLO:Hid ((Value.slice ao' (k+1) cap').ownBlock=(Value.slice ao k cap).ownBlock∨∃ g,w.heap.size≤g∧(Value.slice ao' (k+1) cap').ownBlock=some g):=hloc.imp id (fun e=>⟨_,by simp,e⟩);obtain ⟨W2,hW2⟩:∃ y,y=((w1.setCell ⟨B,9,none⟩ (.slice ao' (k+1) cap')).alloc (.cells (rwR r ao6 cap6 ao7 cap7 ao8 cap8).toArray 185)):=⟨_,rfl⟩;rw [← hW2] at L2 X2 B2 A2 ⊢;clear hW2 TA  O0 O1 g1 hloc bA x9 z9 z9f L1 hi hz0 hz1 hz2;refine wp_region_still_tail 9 (by kernel_rfl) (by kernel_rfl) ?_;obtain ⟨WB,hWB⟩:∃ y:World,y={ W2 with drawn:=W2.drawn+1 }:=⟨_,rfl⟩
 have L3:Ldg WB lo B s (k+1) k x ce (.slice ao' (k+1) cap') b1 b2 b3 b4 b5:=by rw [hWB];exact L2.drawn _
 have X3:Box WB w1.heap.size (rwR r ao6 cap6 ao7 cap7 ao8 cap8).toArray 185:=by rw [hWB];exact X2
 have B3:Below lo w WB:=by rw [hWB];exact ⟨B2.os,B2.tape,B2.output,B2.size,B2.block⟩
 have HA3:Hid (∀ b,b<w.heap.size→b≠B→(Value.slice ao k cap).ownBlock≠some b→WB.heap[b]?=w.heap[b]?):=by rw [hWB];exact A2
 rw [← hWB];clear hWB L2 X2 B2 A2;have HL3:=hid L3;have HZ3:=hid B3.size;have HB3:=hid B3;have c0:WB.cell? ⟨w1.heap.size,0,none⟩=some (.int .i64 r.kind):=X3.cell 0;have c1:WB.cell? ⟨w1.heap.size,1,none⟩=some (.int .i64 r.seq):=X3.cell 1;have c2:WB.cell? ⟨w1.heap.size,2,none⟩=some (.string r.name):=X3.cell 2;have c3:WB.cell? ⟨w1.heap.size,3,none⟩=some (.int .i64 r.length):=X3.cell 3;have c4:WB.cell? ⟨w1.heap.size,4,none⟩=some (.int .i64 r.group):=X3.cell 4;have c5:WB.cell? ⟨w1.heap.size,5,none⟩=some (.int .i64 r.row):=X3.cell 5;have c6:WB.cell? ⟨w1.heap.size,6,none⟩=some (.slice ao6 r.rows.1 cap6):=X3.cell 6;have c7:WB.cell? ⟨w1.heap.size,7,none⟩=some (.slice ao7 r.data.1 cap7):=X3.cell 7;have c8:WB.cell? ⟨w1.heap.size,8,none⟩=some (.slice ao8 r.delta.1 cap8):=X3.cell 8;have d1:WB.cell? ⟨B,10,none⟩=some (.map (some b1)):=L3.box.cell 10;obtain ⟨kl,hkl⟩:=zlW hn;obtain ⟨w',hrun,M,G,S⟩:=L3.m1.put keyS Tryz.underlying139 (by unfold maxLen;omega) hkl (.agg (rwR r ao6 cap6 ao7 cap7 ao8 cap8).toArray);have HM:=hid M;have HE:Hid (∀ b,b<WB.heap.size→b∉[b1]→w'.heap[b]?=WB.heap[b]?):=fun b hb hn=>G.block b hb (fun e=>by cases e;simp at hn);have HBE:Hid (Below lo w w'):=B3.trans ⟨G.os,G.tape,G.output,G.size,fun b hb=>G.block b (by have:=B3.size;omega) (fun e=>by cases e;have:=L3.low;omega)⟩;clear M G L3 X3 B3 hkl
 simp only [List.take_succ_cons,List.take_zero,List.drop_succ_cons,List.drop_zero]
 repeat still_step
 refine wpStill_nil ?_;go_wp2;refine bodyPost_end (v:=.tuple #[]) (by simp [results,Tryz.results89]) rfl ?_
 exact ⟨rfl,⟨_,HL3.out.next (T:=[b1]) HE.out (fun b hb=>by simp at hb ⊢;omega) (by rw [show newF x ce (k+1)=putF (newF x ce k) (.string (x k).name) (.agg (ce k).toArray) from zev (show (x k).kind=1 by rw [HX.out,HKD.out]),HX.out,HC.out];exact HM.out)
  (by rw [show movF x (k+1)=movF x k from zbT (show ¬ (x k).kind=2 by rw [HX.out,HKD.out];decide)];exact (HL3.out.m2.block (HE.out b2 HL3.out.m2.lt (by have:=HL3.out.nd;simp at this ⊢;omega))).mono (Nat.le_succ k))
  (by rw [show donF x (k+1)=donF x k from zbT (show ¬ (x k).kind=3 by rw [HX.out,HKD.out];decide)];exact (HL3.out.m3.block (HE.out b3 HL3.out.m3.lt (by have:=HL3.out.nd;simp at this ⊢;omega))).mono (Nat.le_succ k))
  (by rw [show endF x (k+1)=endF x k from zbT (show ¬ (x k).kind=3 by rw [HX.out,HKD.out];decide)];exact (HL3.out.m4.block (HE.out b4 HL3.out.m4.lt (by have:=HL3.out.nd;simp at this ⊢;omega))).mono (Nat.le_succ k))
  (by rw [show shaF x (k+1)=shaF x k from zb4 (show ¬ (x k).kind=4 by rw [HX.out,HKD.out];decide)];exact (HL3.out.m5.block (HE.out b5 HL3.out.m5.lt (by have:=HL3.out.nd;simp at this ⊢;omega))).mono (Nat.le_succ k)),⟨HLO.out,fun b hb hT hv=>(HE.out b (Nat.lt_of_lt_of_le hb HZ3.out) (fun q=>hT (by simp at q ⊢;omega))).trans (HA3.out b hb (fun e=>hT (by rw [e];simp)) hv)⟩⟩,HBE.out⟩
set_option maxRecDepth 20000 in
theorem zkT {w:World} {lo B:Nat} {s:Nat→Int} {k:Nat} {x:Nat→RecD} {ce:Nat→List Value} {v:Value} {b1 b2 b3 b4 b5:Nat} (h:Ldg w lo B s k k x ce v b1 b2 b3 b4 b5) (hk:k≤1000000) (hlo:lo≤w.heap.size)
 {r:RecD} {ao6 ao7 ao8:Option Addr} {cap6 cap7 cap8:Nat} (hx:x k=r) (hc:ce k=[.int .i64 r.kind,.int .i64 r.seq,.string r.name,.int .i64 r.length,.int .i64 r.group,.int .i64 r.row,.slice ao6 r.rows.1 cap6,.slice ao7 r.data.1 cap7,.slice ao8 r.delta.1 cap8]) (hkd:r.kind=2) (hn:r.name.size≤maxLen) (hs:-9223372036854775808≤r.seq∧r.seq≤9223372036854775807) (hg:-9223372036854775808≤r.group∧r.group≤9223372036854775807) (hw:-9223372036854775808≤r.row∧r.row≤9223372036854775807) :
 Calls Tryz.prog 89 #[.pointer (some ⟨B,0,none⟩),.iface 186 (.agg #[.int .i64 r.kind,.int .i64 r.seq,.string r.name,.int .i64 r.length,.int .i64 r.group,.int .i64 r.row,.slice ao6 r.rows.1 cap6,.slice ao7 r.data.1 cap7,.slice ao8 r.delta.1 cap8])] w fun e w'=>e=.returned (.tuple #[])∧(∃ v',Ldg w' lo B s (k+1) (k+1) x ce v' b1 b2 b3 b4 b5∧EntQ w w' v v' [B,b1,b2,b3,b4,b5])∧Below lo w w':=by
 have HX:=hid hx;have HC:=hid hc;have HKD:=hid hkd
 have HEV:Hid (entV (x k).kind (ce k)=.iface 186 (.agg (rwR r ao6 cap6 ao7 cap7 ao8 cap8).toArray)):=by
  show entV (x k).kind (ce k)=.iface 186 (.agg (rwR r ao6 cap6 ao7 cap7 ao8 cap8).toArray)
  unfold entV entT;rw [hx,hc]
  simp [hkd]
 clear hx hc hkd;obtain ⟨i0,hi,hz0,hz1,hz2⟩:=info_parts zdW;have HL:=hid h;obtain ⟨ao,cap,hv⟩:=zbS h.row;subst hv;have x9:w.cell? ⟨B,9,none⟩=some (.slice ao k cap):=h.box.cell 9;have O0:=h.row;clear h;have TA:=ta11;have TA0:=ta10;have bA:w.grownBy (w.alloc (.cells #[.iface 186 (.agg (rwR r ao6 cap6 ao7 cap7 ao8 cap8).toArray)] 149)) none:=World.grownBy_alloc _ _ _
 go_enter Tryz.func89,Tryz.ntmps89
 go_upto_region 7 with (at_builtin;refine wpList_append_own_at _ rfl _ _ 143 rfl lo 149 i0 .nilIface 1 16 Tryz.underlying143 hi hz0 hz1 hz2 rfl (by decide) _ _ _ rfl (O0.alloc _) ⟨w.heap.size,0,none⟩ 1 1 [.iface 186 (.agg (rwR r ao6 cap6 ao7 cap7 ao8 cap8).toArray)] rfl rfl (cell_one_new _ _ _) (fun u hu=>by simp at hu;subst hu;rfl) (by unfold maxLen;omega) (by omega) (by simp;omega) ?_;intro v' w1 O1 g1 hnil hloc;obtain ⟨ao',cap',rfl⟩:=zbS O1;have L1:=HL.out.grown bA g1;have z9:=L1.cell 9;have z9f:=L1.frozen 9;clear hnil)
 have L2:Ldg ((w1.setCell ⟨B,9,none⟩ (.slice ao' (k+1) cap')).alloc (.cells (rwR r ao6 cap6 ao7 cap7 ao8 cap8).toArray 186)) lo B s (k+1) k x ce (.slice ao' (k+1) cap') b1 b2 b3 b4 b5:=HL.out.laid g1 (by rw [HEV.out];exact O1) hloc
 have X2:Box ((w1.setCell ⟨B,9,none⟩ (.slice ao' (k+1) cap')).alloc (.cells (rwR r ao6 cap6 ao7 cap7 ao8 cap8).toArray 186)) w1.heap.size (rwR r ao6 cap6 ao7 cap7 ao8 cap8).toArray 186:=by
  have:=zaq (w1.setCell ⟨B,9,none⟩ (.slice ao' (k+1) cap')) (rwR r ao6 cap6 ao7 cap7 ao8 cap8).toArray 186;rw [show (w1.setCell ⟨B,9,none⟩ (.slice ao' (k+1) cap')).heap.size=w1.heap.size by simp] at this;exact this
 have B2:Below lo w ((w1.setCell ⟨B,9,none⟩ (.slice ao' (k+1) cap')).alloc (.cells (rwR r ao6 cap6 ao7 cap7 ao8 cap8).toArray 186)):=by
  have q1:Below lo w w1:=zdd HL.out g1 hlo;exact (q1.setCell HL.out.low.1 _).alloc (by have:=q1.size;simp;omega) _
 have A2:∀ b,b<w.heap.size→b≠B→(Value.slice ao k cap).ownBlock≠some b→((w1.setCell ⟨B,9,none⟩ (.slice ao' (k+1) cap')).alloc (.cells (rwR r ao6 cap6 ao7 cap7 ao8 cap8).toArray 186)).heap[b]?=w.heap[b]?:=fun b hb hB hv=>by
  have sz:w.heap.size+1≤w1.heap.size:=by have:=g1.size;simp at this;omega
  rw [Below.heap_alloc _ _ b (by simp;omega),heap_setCell_other w1 ⟨B,9,none⟩ b _ hB];exact zfO bA g1 hb (fun e=>hv e.symm)
 have HLO:Hid ((Value.slice ao' (k+1) cap').ownBlock=(Value.slice ao k cap).ownBlock∨∃ g,w.heap.size≤g∧(Value.slice ao' (k+1) cap').ownBlock=some g):=hloc.imp id (fun e=>⟨_,by simp,e⟩);obtain ⟨W2,hW2⟩:∃ y,y=((w1.setCell ⟨B,9,none⟩ (.slice ao' (k+1) cap')).alloc (.cells (rwR r ao6 cap6 ao7 cap7 ao8 cap8).toArray 186)):=⟨_,rfl⟩;rw [← hW2] at L2 X2 B2 A2 ⊢;clear hW2 TA TA0 O0 O1 g1 hloc bA x9 z9 z9f L1 hi hz0 hz1 hz2;refine wp_region_still_tail 10 (by kernel_rfl) (by kernel_rfl) ?_;obtain ⟨WB,hWB⟩:∃ y:World,y={ W2 with drawn:=W2.drawn+1 }:=⟨_,rfl⟩
 have L3:Ldg WB lo B s (k+1) k x ce (.slice ao' (k+1) cap') b1 b2 b3 b4 b5:=by rw [hWB];exact L2.drawn _
 have X3:Box WB w1.heap.size (rwR r ao6 cap6 ao7 cap7 ao8 cap8).toArray 186:=by rw [hWB];exact X2
 have B3:Below lo w WB:=by rw [hWB];exact ⟨B2.os,B2.tape,B2.output,B2.size,B2.block⟩
 have HA3:Hid (∀ b,b<w.heap.size→b≠B→(Value.slice ao k cap).ownBlock≠some b→WB.heap[b]?=w.heap[b]?):=by rw [hWB];exact A2
 rw [← hWB];clear hWB L2 X2 B2 A2;have HL3:=hid L3;have HZ3:=hid B3.size;have HB3:=hid B3;have c0:WB.cell? ⟨w1.heap.size,0,none⟩=some (.int .i64 r.kind):=X3.cell 0;have c1:WB.cell? ⟨w1.heap.size,1,none⟩=some (.int .i64 r.seq):=X3.cell 1;have c2:WB.cell? ⟨w1.heap.size,2,none⟩=some (.string r.name):=X3.cell 2;have c3:WB.cell? ⟨w1.heap.size,3,none⟩=some (.int .i64 r.length):=X3.cell 3;have c4:WB.cell? ⟨w1.heap.size,4,none⟩=some (.int .i64 r.group):=X3.cell 4;have c5:WB.cell? ⟨w1.heap.size,5,none⟩=some (.int .i64 r.row):=X3.cell 5;have c6:WB.cell? ⟨w1.heap.size,6,none⟩=some (.slice ao6 r.rows.1 cap6):=X3.cell 6;have c7:WB.cell? ⟨w1.heap.size,7,none⟩=some (.slice ao7 r.data.1 cap7):=X3.cell 7;have c8:WB.cell? ⟨w1.heap.size,8,none⟩=some (.slice ao8 r.delta.1 cap8):=X3.cell 8;have d2:WB.cell? ⟨B,11,none⟩=some (.map (some b2)):=L3.box.cell 11;obtain ⟨kl,hkl⟩:=zhb hs;have hlook:=L3.m2.look keyI Tryz.underlying140 (zdJ _) hkl;have hcn:=zlX (fun i=>(x i).kind=2) (fun i=>.int .i64 (x i).seq) (.int .i64 r.seq) k;rw [show movF x k (.int .i64 r.seq)=cntF (fun i=>(x i).kind=2) (fun i=>.int .i64 (x i).seq) k (.int .i64 r.seq) from rfl,zcS] at hlook;obtain ⟨cn,hcn2⟩:∃ cn,cn=cN (fun i=>(x i).kind=2) (fun i=>.int .i64 (x i).seq) (.int .i64 r.seq) k:=⟨_,rfl⟩;have HCN:=hid hcn2;rw [← hcn2] at hlook hcn
 have hwr:IntKind.i64.wrap ((cn:Int)+1)=(cn:Int)+1:=by rw [IntKind.wrap_i64];omega
 obtain ⟨w',hrun,M,G,S⟩:=L3.m2.put keyI Tryz.underlying140 (by unfold maxLen;omega) hkl (.int .i64 ((cn:Int)+1));have HM:=hid M;have HE:Hid (∀ b,b<WB.heap.size→b∉[b2]→w'.heap[b]?=WB.heap[b]?):=fun b hb hn=>G.block b hb (fun e=>by cases e;simp at hn);have HBE:Hid (Below lo w w'):=B3.trans ⟨G.os,G.tape,G.output,G.size,fun b hb=>G.block b (by have:=B3.size;omega) (fun e=>by cases e;have:=L3.low;omega)⟩;clear M G L3 X3 B3 hkl hcn2
 simp only [List.take_succ_cons,List.take_zero,List.drop_succ_cons,List.drop_zero]
 repeat still_step
 refine wpStill_nil ?_;go_wp2;refine bodyPost_end (v:=.tuple #[]) (by simp [results,Tryz.results89]) rfl ?_
 exact ⟨rfl,⟨_,HL3.out.next (T:=[b2]) HE.out (fun b hb=>by simp at hb ⊢;omega) (by rw [show newF x ce (k+1)=newF x ce k from zb4 (show ¬ (x k).kind=1 by rw [HX.out,HKD.out];decide)];exact (HL3.out.m1.block (HE.out b1 HL3.out.m1.lt (by have:=HL3.out.nd;simp at this ⊢;omega))).mono (Nat.le_succ k))
  (by rw [show movF x (k+1)=putF (movF x k) (.int .i64 (x k).seq) (.int .i64 ((cN (fun i=>(x i).kind=2) (fun i=>.int .i64 (x i).seq) (.int .i64 (x k).seq) k:Int)+1)) from ze8 (show (x k).kind=2 by rw [HX.out,HKD.out]),HX.out,← HCN.out];exact HM.out)
  (by rw [show donF x (k+1)=donF x k from zbT (show ¬ (x k).kind=3 by rw [HX.out,HKD.out];decide)];exact (HL3.out.m3.block (HE.out b3 HL3.out.m3.lt (by have:=HL3.out.nd;simp at this ⊢;omega))).mono (Nat.le_succ k))
  (by rw [show endF x (k+1)=endF x k from zbT (show ¬ (x k).kind=3 by rw [HX.out,HKD.out];decide)];exact (HL3.out.m4.block (HE.out b4 HL3.out.m4.lt (by have:=HL3.out.nd;simp at this ⊢;omega))).mono (Nat.le_succ k))
  (by rw [show shaF x (k+1)=shaF x k from zb4 (show ¬ (x k).kind=4 by rw [HX.out,HKD.out];decide)];exact (HL3.out.m5.block (HE.out b5 HL3.out.m5.lt (by have:=HL3.out.nd;simp at this ⊢;omega))).mono (Nat.le_succ k)),⟨HLO.out,fun b hb hT hv=>(HE.out b (Nat.lt_of_lt_of_le hb HZ3.out) (fun q=>hT (by simp at q ⊢;omega))).trans (HA3.out b hb (fun e=>hT (by rw [e];simp)) hv)⟩⟩,HBE.out⟩
set_option maxRecDepth 20000 in
theorem zjn {w:World} {lo B:Nat} {s:Nat→Int} {k:Nat} {x:Nat→RecD} {ce:Nat→List Value} {v:Value} {b1 b2 b3 b4 b5:Nat} (h:Ldg w lo B s k k x ce v b1 b2 b3 b4 b5) (hk:k≤1000000) (hlo:lo≤w.heap.size)
 {r:RecD} {ao6 ao7 ao8:Option Addr} {cap6 cap7 cap8:Nat} (hx:x k=r) (hc:ce k=[.int .i64 r.kind,.int .i64 r.seq,.string r.name,.int .i64 r.length,.int .i64 r.group,.int .i64 r.row,.slice ao6 r.rows.1 cap6,.slice ao7 r.data.1 cap7,.slice ao8 r.delta.1 cap8]) (hkd:r.kind=4) (hn:r.name.size≤maxLen) (hs:-9223372036854775808≤r.seq∧r.seq≤9223372036854775807) (hg:-9223372036854775808≤r.group∧r.group≤9223372036854775807) (hw:-9223372036854775808≤r.row∧r.row≤9223372036854775807) :
 Calls Tryz.prog 89 #[.pointer (some ⟨B,0,none⟩),.iface 190 (.agg #[.int .i64 r.kind,.int .i64 r.seq,.string r.name,.int .i64 r.length,.int .i64 r.group,.int .i64 r.row,.slice ao6 r.rows.1 cap6,.slice ao7 r.data.1 cap7,.slice ao8 r.delta.1 cap8])] w fun e w'=>e=.returned (.tuple #[])∧(∃ v',Ldg w' lo B s (k+1) (k+1) x ce v' b1 b2 b3 b4 b5∧EntQ w w' v v' [B,b1,b2,b3,b4,b5])∧Below lo w w':=by
 have HX:=hid hx;have HC:=hid hc;have HKD:=hid hkd
 have HEV:Hid (entV (x k).kind (ce k)=.iface 190 (.agg (rwR r ao6 cap6 ao7 cap7 ao8 cap8).toArray)):=by
  show entV (x k).kind (ce k)=.iface 190 (.agg (rwR r ao6 cap6 ao7 cap7 ao8 cap8).toArray)
  unfold entV entT;rw [hx,hc]
  simp [hkd]
 clear hx hc hkd;obtain ⟨i0,hi,hz0,hz1,hz2⟩:=info_parts zdW;have HL:=hid h;obtain ⟨ao,cap,hv⟩:=zbS h.row;subst hv;have x9:w.cell? ⟨B,9,none⟩=some (.slice ao k cap):=h.box.cell 9;have O0:=h.row;clear h;have TA:=ta33;have TA0:=ta30;have TA1:=ta31;have TA2:=ta32;have bA:w.grownBy (w.alloc (.cells #[.iface 190 (.agg (rwR r ao6 cap6 ao7 cap7 ao8 cap8).toArray)] 149)) none:=World.grownBy_alloc _ _ _
 go_enter Tryz.func89,Tryz.ntmps89
 go_upto_region 14 with (at_builtin;refine wpList_append_own_at _ rfl _ _ 143 rfl lo 149 i0 .nilIface 1 16 Tryz.underlying143 hi hz0 hz1 hz2 rfl (by decide) _ _ _ rfl (O0.alloc _) ⟨w.heap.size,0,none⟩ 1 1 [.iface 190 (.agg (rwR r ao6 cap6 ao7 cap7 ao8 cap8).toArray)] rfl rfl (cell_one_new _ _ _) (fun u hu=>by simp at hu;subst hu;rfl) (by unfold maxLen;omega) (by omega) (by simp;omega) ?_;intro v' w1 O1 g1 hnil hloc;obtain ⟨ao',cap',rfl⟩:=zbS O1;have L1:=HL.out.grown bA g1;have z9:=L1.cell 9;have z9f:=L1.frozen 9;clear hnil)
 have L2:Ldg ((w1.setCell ⟨B,9,none⟩ (.slice ao' (k+1) cap')).alloc (.cells (rwR r ao6 cap6 ao7 cap7 ao8 cap8).toArray 190)) lo B s (k+1) k x ce (.slice ao' (k+1) cap') b1 b2 b3 b4 b5:=HL.out.laid g1 (by rw [HEV.out];exact O1) hloc
 have X2:Box ((w1.setCell ⟨B,9,none⟩ (.slice ao' (k+1) cap')).alloc (.cells (rwR r ao6 cap6 ao7 cap7 ao8 cap8).toArray 190)) w1.heap.size (rwR r ao6 cap6 ao7 cap7 ao8 cap8).toArray 190:=by
  have:=zaq (w1.setCell ⟨B,9,none⟩ (.slice ao' (k+1) cap')) (rwR r ao6 cap6 ao7 cap7 ao8 cap8).toArray 190;rw [show (w1.setCell ⟨B,9,none⟩ (.slice ao' (k+1) cap')).heap.size=w1.heap.size by simp] at this;exact this
 have B2:Below lo w ((w1.setCell ⟨B,9,none⟩ (.slice ao' (k+1) cap')).alloc (.cells (rwR r ao6 cap6 ao7 cap7 ao8 cap8).toArray 190)):=by
  have q1:Below lo w w1:=zdd HL.out g1 hlo;exact (q1.setCell HL.out.low.1 _).alloc (by have:=q1.size;simp;omega) _
 have A2:∀ b,b<w.heap.size→b≠B→(Value.slice ao k cap).ownBlock≠some b→((w1.setCell ⟨B,9,none⟩ (.slice ao' (k+1) cap')).alloc (.cells (rwR r ao6 cap6 ao7 cap7 ao8 cap8).toArray 190)).heap[b]?=w.heap[b]?:=fun b hb hB hv=>by
  have sz:w.heap.size+1≤w1.heap.size:=by have:=g1.size;simp at this;omega
  rw [Below.heap_alloc _ _ b (by simp;omega),heap_setCell_other w1 ⟨B,9,none⟩ b _ hB];exact zfO bA g1 hb (fun e=>hv e.symm)
 have HLO:Hid ((Value.slice ao' (k+1) cap').ownBlock=(Value.slice ao k cap).ownBlock∨∃ g,w.heap.size≤g∧(Value.slice ao' (k+1) cap').ownBlock=some g):=hloc.imp id (fun e=>⟨_,by simp,e⟩);obtain ⟨W2,hW2⟩:∃ y,y=((w1.setCell ⟨B,9,none⟩ (.slice ao' (k+1) cap')).alloc (.cells (rwR r ao6 cap6 ao7 cap7 ao8 cap8).toArray 190)):=⟨_,rfl⟩;rw [← hW2] at L2 X2 B2 A2 ⊢;clear hW2 TA TA0 TA1 TA2 O0 O1 g1 hloc bA x9 z9 z9f L1 hi hz0 hz1 hz2;refine wp_region_still_tail 17 (by kernel_rfl) (by kernel_rfl) ?_;obtain ⟨WB,hWB⟩:∃ y:World,y={ W2 with drawn:=W2.drawn+1 }:=⟨_,rfl⟩
 have L3:Ldg WB lo B s (k+1) k x ce (.slice ao' (k+1) cap') b1 b2 b3 b4 b5:=by rw [hWB];exact L2.drawn _
 have X3:Box WB w1.heap.size (rwR r ao6 cap6 ao7 cap7 ao8 cap8).toArray 190:=by rw [hWB];exact X2
 have B3:Below lo w WB:=by rw [hWB];exact ⟨B2.os,B2.tape,B2.output,B2.size,B2.block⟩
 have HA3:Hid (∀ b,b<w.heap.size→b≠B→(Value.slice ao k cap).ownBlock≠some b→WB.heap[b]?=w.heap[b]?):=by rw [hWB];exact A2
 rw [← hWB];clear hWB L2 X2 B2 A2;have HL3:=hid L3;have HZ3:=hid B3.size;have HB3:=hid B3;have c0:WB.cell? ⟨w1.heap.size,0,none⟩=some (.int .i64 r.kind):=X3.cell 0;have c1:WB.cell? ⟨w1.heap.size,1,none⟩=some (.int .i64 r.seq):=X3.cell 1;have c2:WB.cell? ⟨w1.heap.size,2,none⟩=some (.string r.name):=X3.cell 2;have c3:WB.cell? ⟨w1.heap.size,3,none⟩=some (.int .i64 r.length):=X3.cell 3;have c4:WB.cell? ⟨w1.heap.size,4,none⟩=some (.int .i64 r.group):=X3.cell 4;have c5:WB.cell? ⟨w1.heap.size,5,none⟩=some (.int .i64 r.row):=X3.cell 5;have c6:WB.cell? ⟨w1.heap.size,6,none⟩=some (.slice ao6 r.rows.1 cap6):=X3.cell 6;have c7:WB.cell? ⟨w1.heap.size,7,none⟩=some (.slice ao7 r.data.1 cap7):=X3.cell 7;have c8:WB.cell? ⟨w1.heap.size,8,none⟩=some (.slice ao8 r.delta.1 cap8):=X3.cell 8;have d5:WB.cell? ⟨B,14,none⟩=some (.map (some b5)):=L3.box.cell 14;obtain ⟨kl,hkl⟩:=zfN hg hw;obtain ⟨w',hrun,M,G,S⟩:=L3.m5.put zj3 Tryz.underlying142 (by unfold maxLen;omega) hkl (.int .i64 r.seq);have HM:=hid M;have HE:Hid (∀ b,b<WB.heap.size→b∉[b5]→w'.heap[b]?=WB.heap[b]?):=fun b hb hn=>G.block b hb (fun e=>by cases e;simp at hn);have HBE:Hid (Below lo w w'):=B3.trans ⟨G.os,G.tape,G.output,G.size,fun b hb=>G.block b (by have:=B3.size;omega) (fun e=>by cases e;have:=L3.low;omega)⟩;clear M G L3 X3 B3 hkl
 simp only [List.take_succ_cons,List.take_zero,List.drop_succ_cons,List.drop_zero]
 repeat still_step
 refine wpStill_nil ?_;go_wp2;refine bodyPost_end (v:=.tuple #[]) (by simp [results,Tryz.results89]) rfl ?_
 exact ⟨rfl,⟨_,HL3.out.next (T:=[b5]) HE.out (fun b hb=>by simp at hb ⊢;omega) (by rw [show newF x ce (k+1)=newF x ce k from zb4 (show ¬ (x k).kind=1 by rw [HX.out,HKD.out];decide)];exact (HL3.out.m1.block (HE.out b1 HL3.out.m1.lt (by have:=HL3.out.nd;simp at this ⊢;omega))).mono (Nat.le_succ k))
  (by rw [show movF x (k+1)=movF x k from zbT (show ¬ (x k).kind=2 by rw [HX.out,HKD.out];decide)];exact (HL3.out.m2.block (HE.out b2 HL3.out.m2.lt (by have:=HL3.out.nd;simp at this ⊢;omega))).mono (Nat.le_succ k))
  (by rw [show donF x (k+1)=donF x k from zbT (show ¬ (x k).kind=3 by rw [HX.out,HKD.out];decide)];exact (HL3.out.m3.block (HE.out b3 HL3.out.m3.lt (by have:=HL3.out.nd;simp at this ⊢;omega))).mono (Nat.le_succ k))
  (by rw [show endF x (k+1)=endF x k from zbT (show ¬ (x k).kind=3 by rw [HX.out,HKD.out];decide)];exact (HL3.out.m4.block (HE.out b4 HL3.out.m4.lt (by have:=HL3.out.nd;simp at this ⊢;omega))).mono (Nat.le_succ k))
  (by rw [show shaF x (k+1)=putF (shaF x k) (.agg #[.int .i64 (x k).group,.int .i64 (x k).row]) (.int .i64 (x k).seq) from zev (show (x k).kind=4 by rw [HX.out,HKD.out]),HX.out];exact HM.out),⟨HLO.out,fun b hb hT hv=>(HE.out b (Nat.lt_of_lt_of_le hb HZ3.out) (fun q=>hT (by simp at q ⊢;omega))).trans (HA3.out b hb (fun e=>hT (by rw [e];simp)) hv)⟩⟩,HBE.out⟩
set_option maxRecDepth 20000 in
theorem zkU {w:World} {lo B:Nat} {s:Nat→Int} {k:Nat} {x:Nat→RecD} {ce:Nat→List Value} {v:Value} {b1 b2 b3 b4 b5:Nat} (h:Ldg w lo B s k k x ce v b1 b2 b3 b4 b5) (hk:k≤1000000) (hlo:lo≤w.heap.size)
 {r:RecD} {ao6 ao7 ao8:Option Addr} {cap6 cap7 cap8:Nat} (hx:x k=r) (hc:ce k=[.int .i64 r.kind,.int .i64 r.seq,.string r.name,.int .i64 r.length,.int .i64 r.group,.int .i64 r.row,.slice ao6 r.rows.1 cap6,.slice ao7 r.data.1 cap7,.slice ao8 r.delta.1 cap8]) (hkd:r.kind=3) (hn:r.name.size≤maxLen) (hs:-9223372036854775808≤r.seq∧r.seq≤9223372036854775807) (hg:-9223372036854775808≤r.group∧r.group≤9223372036854775807) (hw:-9223372036854775808≤r.row∧r.row≤9223372036854775807) :
 Calls Tryz.prog 89 #[.pointer (some ⟨B,0,none⟩),.iface 187 (.agg #[.int .i64 r.kind,.int .i64 r.seq,.string r.name,.int .i64 r.length,.int .i64 r.group,.int .i64 r.row,.slice ao6 r.rows.1 cap6,.slice ao7 r.data.1 cap7,.slice ao8 r.delta.1 cap8])] w fun e w'=>e=.returned (.tuple #[])∧(∃ v',Ldg w' lo B s (k+1) (k+1) x ce v' b1 b2 b3 b4 b5∧EntQ w w' v v' [B,b1,b2,b3,b4,b5])∧Below lo w w':=by
 have HX:=hid hx;have HC:=hid hc;have HKD:=hid hkd
 have HEV:Hid (entV (x k).kind (ce k)=.iface 187 (.agg (rwR r ao6 cap6 ao7 cap7 ao8 cap8).toArray)):=by
  show entV (x k).kind (ce k)=.iface 187 (.agg (rwR r ao6 cap6 ao7 cap7 ao8 cap8).toArray)
  unfold entV entT;rw [hx,hc]
  simp [hkd]
 clear hx hc hkd;obtain ⟨i0,hi,hz0,hz1,hz2⟩:=info_parts zdW;have HL:=hid h;obtain ⟨ao,cap,hv⟩:=zbS h.row;subst hv;have x9:w.cell? ⟨B,9,none⟩=some (.slice ao k cap):=h.box.cell 9;have O0:=h.row;clear h;have TA:=ta22;have TA0:=ta20;have TA1:=ta21;have bA:w.grownBy (w.alloc (.cells #[.iface 187 (.agg (rwR r ao6 cap6 ao7 cap7 ao8 cap8).toArray)] 149)) none:=World.grownBy_alloc _ _ _
 go_enter Tryz.func89,Tryz.ntmps89
 go_upto_region 10 with (at_builtin;refine wpList_append_own_at _ rfl _ _ 143 rfl lo 149 i0 .nilIface 1 16 Tryz.underlying143 hi hz0 hz1 hz2 rfl (by decide) _ _ _ rfl (O0.alloc _) ⟨w.heap.size,0,none⟩ 1 1 [.iface 187 (.agg (rwR r ao6 cap6 ao7 cap7 ao8 cap8).toArray)] rfl rfl (cell_one_new _ _ _) (fun u hu=>by simp at hu;subst hu;rfl) (by unfold maxLen;omega) (by omega) (by simp;omega) ?_;intro v' w1 O1 g1 hnil hloc;obtain ⟨ao',cap',rfl⟩:=zbS O1;have L1:=HL.out.grown bA g1;have z9:=L1.cell 9;have z9f:=L1.frozen 9;clear hnil)
 have L2:Ldg ((w1.setCell ⟨B,9,none⟩ (.slice ao' (k+1) cap')).alloc (.cells (rwR r ao6 cap6 ao7 cap7 ao8 cap8).toArray 187)) lo B s (k+1) k x ce (.slice ao' (k+1) cap') b1 b2 b3 b4 b5:=HL.out.laid g1 (by rw [HEV.out];exact O1) hloc
 have X2:Box ((w1.setCell ⟨B,9,none⟩ (.slice ao' (k+1) cap')).alloc (.cells (rwR r ao6 cap6 ao7 cap7 ao8 cap8).toArray 187)) w1.heap.size (rwR r ao6 cap6 ao7 cap7 ao8 cap8).toArray 187:=by
  have:=zaq (w1.setCell ⟨B,9,none⟩ (.slice ao' (k+1) cap')) (rwR r ao6 cap6 ao7 cap7 ao8 cap8).toArray 187;rw [show (w1.setCell ⟨B,9,none⟩ (.slice ao' (k+1) cap')).heap.size=w1.heap.size by simp] at this;exact this
 have B2:Below lo w ((w1.setCell ⟨B,9,none⟩ (.slice ao' (k+1) cap')).alloc (.cells (rwR r ao6 cap6 ao7 cap7 ao8 cap8).toArray 187)):=by
  have q1:Below lo w w1:=zdd HL.out g1 hlo;exact (q1.setCell HL.out.low.1 _).alloc (by have:=q1.size;simp;omega) _
 have A2:∀ b,b<w.heap.size→b≠B→(Value.slice ao k cap).ownBlock≠some b→((w1.setCell ⟨B,9,none⟩ (.slice ao' (k+1) cap')).alloc (.cells (rwR r ao6 cap6 ao7 cap7 ao8 cap8).toArray 187)).heap[b]?=w.heap[b]?:=fun b hb hB hv=>by
  have sz:w.heap.size+1≤w1.heap.size:=by have:=g1.size;simp at this;omega
  rw [Below.heap_alloc _ _ b (by simp;omega),heap_setCell_other w1 ⟨B,9,none⟩ b _ hB];exact zfO bA g1 hb (fun e=>hv e.symm)
 have HLO:Hid ((Value.slice ao' (k+1) cap').ownBlock=(Value.slice ao k cap).ownBlock∨∃ g,w.heap.size≤g∧(Value.slice ao' (k+1) cap').ownBlock=some g):=hloc.imp id (fun e=>⟨_,by simp,e⟩);obtain ⟨W2,hW2⟩:∃ y,y=((w1.setCell ⟨B,9,none⟩ (.slice ao' (k+1) cap')).alloc (.cells (rwR r ao6 cap6 ao7 cap7 ao8 cap8).toArray 187)):=⟨_,rfl⟩;rw [← hW2] at L2 X2 B2 A2 ⊢;clear hW2 TA TA0 TA1 O0 O1 g1 hloc bA x9 z9 z9f L1 hi hz0 hz1 hz2;have L3:Ldg W2.drew lo B s (k+1) k x ce (.slice ao' (k+1) cap') b1 b2 b3 b4 b5:=L2.drawn _;have X3:Box W2.drew w1.heap.size (rwR r ao6 cap6 ao7 cap7 ao8 cap8).toArray 187:=X2;have B3:Below lo w W2.drew:=⟨B2.os,B2.tape,B2.output,B2.size,B2.block⟩;have HA3:=hid A2;obtain ⟨kl,hkl⟩:=zgx hs hg;have hcn:=zlX (fun i=>(x i).kind=3) (fun i=>.agg #[.int .i64 (x i).seq,.int .i64 (x i).group]) (.agg #[.int .i64 r.seq,.int .i64 r.group]) k;have hget:(donF x k (.agg #[.int .i64 r.seq,.int .i64 r.group])).getD (.int .i64 0)=.int .i64 (cN (fun i=>(x i).kind=3) (fun i=>.agg #[.int .i64 (x i).seq,.int .i64 (x i).group]) (.agg #[.int .i64 r.seq,.int .i64 r.group]) k:Int):=zcS _ _ _ _;obtain ⟨cn,hcn2⟩:∃ cn,cn=cN (fun i=>(x i).kind=3) (fun i=>.agg #[.int .i64 (x i).seq,.int .i64 (x i).group]) (.agg #[.int .i64 r.seq,.int .i64 r.group]) k:=⟨_,rfl⟩;have HCN:=hid hcn2;rw [← hcn2] at hcn hget;have hlook:=L3.m3.look zlV Tryz.underlying141 (zdJ _) hkl;obtain ⟨st,w5,hent,z5,G5,hlk5,hst⟩:=L3.m3.entry zlU Tryz.underlying141 (by unfold maxLen;omega) zdJ hkl;rw [hget] at hlook hent hlk5
 have hwr:IntKind.i64.wrap ((cn:Int)+1)=(cn:Int)+1:=by rw [IntKind.wrap_i64];omega
 obtain ⟨w6,hrun6,M6,G6,S6⟩:=hst (.int .i64 ((cn:Int)+1));have S3:(fun w'=>w'.cell? ⟨B,12,none⟩=some (.map (some b3))∧w'.cell? ⟨w1.heap.size,1,none⟩=some (.int .i64 r.seq)∧w'.cell? ⟨w1.heap.size,4,none⟩=some (.int .i64 r.group)∧(Instr.lookup 141 (.map (some b3)) (.agg #[.int .i64 r.seq,.int .i64 r.group]) false).run Tryz.prog w'=.ok (.int .i64 (cn:Int)) w') W2.drew:=⟨L3.box.cell 12,X3.cell 1,X3.cell 4,hlook⟩;have nb:∀ b,b<W2.drew.heap.size→b≠b3→w5.heap[b]?=W2.drew.heap[b]?:=fun b hb hn=>G5.block b hb (fun e=>hn (by cases e;rfl))
 have nB:B≠b3:=fun e=>by have:=L3.nd;simp at this;omega
 have nX:w1.heap.size≠b3:=fun e=>by
  obtain ⟨D,⟨es,clock,q1,_⟩,_⟩:=L3.m3;have:=X3;unfold Box at this;rw [e,q1] at this
  cases this
 have S5:(fun w'=>w'.cell? ⟨B,12,none⟩=some (.map (some b3))∧w'.cell? ⟨w1.heap.size,1,none⟩=some (.int .i64 r.seq)∧w'.cell? ⟨w1.heap.size,4,none⟩=some (.int .i64 r.group)∧(Instr.lookup 141 (.map (some b3)) (.agg #[.int .i64 r.seq,.int .i64 r.group]) false).run Tryz.prog w'=.ok (.int .i64 (cn:Int)) w') w5:=⟨(World.cell?_of_block (w:=W2.drew) (nb B L3.box.lt nB)).trans (L3.box.cell 12),(World.cell?_of_block (w:=W2.drew) (nb _ X3.lt nX)).trans (X3.cell 1),(World.cell?_of_block (w:=W2.drew) (nb _ X3.lt nX)).trans (X3.cell 4),hlk5⟩;have HM3:=hid M6;have HE6:Hid (∀ b,b<W2.drew.heap.size→b≠b3→w6.heap[b]?=W2.drew.heap[b]?):=fun b hb hn=>G6.block b hb (fun e=>hn (by cases e;rfl));have HB6:Hid (Below lo w w6):=B3.trans ⟨G6.os,G6.tape,G6.output,G6.size,fun b hb=>G6.block b (by have:=B3.size;omega) (fun e=>by cases e;have:=L3.low;omega)⟩;have HX6:Hid (Box w6 w1.heap.size (rwR r ao6 cap6 ao7 cap7 ao8 cap8).toArray 187):=(HE6.out _ X3.lt nX).trans X3;have HY6:Hid (w6.cell? ⟨B,13,none⟩=some (.map (some b4))):=(World.cell?_of_block (w:=W2.drew) (HE6.out B L3.box.lt nB)).trans (L3.box.cell 13);have HM4:Hid (MapV w6 2 b4 k (endF x k)):=L3.m4.block (HE6.out b4 L3.m4.lt (fun e=>by have:=L3.nd;simp at this;omega));have HL3:=hid L3;have HZ3:=hid B3.size;clear M6 G6 G5 hst X3 B3 L3 hkl hcn2 hget nb nB nX L2 X2 B2 A2 hlook hlk5;refine zay 17 (fun w'=>w'.cell? ⟨B,12,none⟩=some (.map (some b3))∧w'.cell? ⟨w1.heap.size,1,none⟩=some (.int .i64 r.seq)∧w'.cell? ⟨w1.heap.size,4,none⟩=some (.int .i64 r.group)∧(Instr.lookup 141 (.map (some b3)) (.agg #[.int .i64 r.seq,.int .i64 r.group]) false).run Tryz.prog w'=.ok (.int .i64 (cn:Int)) w') znf S3 (fun hHeld=>?_);refine zn9 0 rfl ?_
 try simp only [Act.put,SL]
 refine zn9 1 rfl ?_
 try simp only [Act.put,SL]
 refine zn9 2 rfl ?_
 try simp only [Act.put,SL]
 refine zoa 3 rfl ?_
 try simp only [Act.put,SL]
 refine zn9 4 rfl ?_
 try simp only [Act.put,SL]
 refine zn9 5 rfl ?_
 try simp only [Act.put,SL]
 refine zn9 6 rfl ?_
 try simp only [Act.put,SL]
 refine zoa 7 rfl ?_
 try simp only [Act.put,SL]
 refine zn9 8 rfl ?_
 try simp only [Act.put,SL]
 refine zn9 9 rfl ?_
 try simp only [Act.put,SL]
 refine zn9 10 rfl ?_
 try simp only [Act.put,SL]
 refine zoa 11 rfl ?_
 try simp only [Act.put,SL]
 refine zn9 12 rfl ?_
 try simp only [Act.put,SL]
 refine zoa 13 rfl ?_
 try simp only [Act.put,SL]
 refine zn9 14 rfl ?_
 try simp only [Act.put,SL]
 refine zbo (i:=15) (o:=_) rfl (by kernel_rfl) (fun KC hKC=>?_);refine zgy rfl 141 _ _ rfl b3 _ _ (by simp [Act.eval,Act.put]) (by simp [Act.eval,Act.put]) hent ?_;refine hKC _ _ S5 ?_;clear hKC KC
 try simp only [Act.put,SL]
 refine zaa (i:=16) (oi:=_) (v:=?_) rfl (by kernel_rfl) (fun _ _ _ h=>h) (Or.inl ⟨by kernel_rfl,?_⟩) S5 ?_
 rotate_left
 ·intro w' hSw;go_simp;try with_reducible rfl
 try simp only [Act.put,SL]
 refine zas (i:=17) (o:=_) rfl (by kernel_rfl) (by kernel_rfl) (fun KC hKC=>?_);refine zfP rfl 141 _ _ _ rfl b3 _ _ (by simp [Act.eval,Act.put]) (by simp [Act.eval,Act.put]) (by simp [Act.eval,Act.put]) hrun6 ?_;refine hKC _ _ ?_;clear hKC KC
 try simp only [Act.put,SL]
 refine zar (by kernel_rfl) ?_ _;clear S5 S3 hHeld hent hrun6 z5
 go_upto_region 11 with fail
 refine wp_region_still_tail 10 (by kernel_rfl) (by kernel_rfl) ?_;obtain ⟨WB,hWB⟩:∃ y:World,y={ w6 with drawn:=w6.drawn+1 }:=⟨_,rfl⟩
 have M3:MapV WB 189 b3 (k+1) (putF (donF x k) (.agg #[.int .i64 r.seq,.int .i64 r.group]) (.int .i64 ((cn:Int)+1))):=by rw [hWB];exact HM3.out
 have M4:MapV WB 2 b4 k (endF x k):=by rw [hWB];exact HM4.out
 have X7:Box WB w1.heap.size (rwR r ao6 cap6 ao7 cap7 ao8 cap8).toArray 187:=by rw [hWB];exact HX6.out
 have d4:WB.cell? ⟨B,13,none⟩=some (.map (some b4)):=by rw [hWB];exact HY6.out
 have B7:Below lo w WB:=by rw [hWB];have q:=HB6.out;exact ⟨q.os,q.tape,q.output,q.size,q.block⟩
 have E7:∀ b,b<W2.drew.heap.size→b≠b3→WB.heap[b]?=W2.drew.heap[b]?:=by rw [hWB];exact HE6.out
 have Z7:WB.heap.size=W2.drew.heap.size:=by rw [hWB];exact S6
 rw [← hWB];clear hWB;have c0:WB.cell? ⟨w1.heap.size,0,none⟩=some (.int .i64 r.kind):=X7.cell 0;have c1:WB.cell? ⟨w1.heap.size,1,none⟩=some (.int .i64 r.seq):=X7.cell 1;have c2:WB.cell? ⟨w1.heap.size,2,none⟩=some (.string r.name):=X7.cell 2;have c3:WB.cell? ⟨w1.heap.size,3,none⟩=some (.int .i64 r.length):=X7.cell 3;have c4:WB.cell? ⟨w1.heap.size,4,none⟩=some (.int .i64 r.group):=X7.cell 4;have c5:WB.cell? ⟨w1.heap.size,5,none⟩=some (.int .i64 r.row):=X7.cell 5;have c6:WB.cell? ⟨w1.heap.size,6,none⟩=some (.slice ao6 r.rows.1 cap6):=X7.cell 6;have c7:WB.cell? ⟨w1.heap.size,7,none⟩=some (.slice ao7 r.data.1 cap7):=X7.cell 7;have c8:WB.cell? ⟨w1.heap.size,8,none⟩=some (.slice ao8 r.delta.1 cap8):=X7.cell 8;obtain ⟨kl,hkl⟩:=zhb hs;have hlook:=M4.look keyI Tryz.underlying140 (zdJ _) hkl;have hdn:=zlX (fun i=>(x i).kind=3) (fun i=>.int .i64 (x i).seq) (.int .i64 r.seq) k;rw [show endF x k (.int .i64 r.seq)=cntF (fun i=>(x i).kind=3) (fun i=>.int .i64 (x i).seq) k (.int .i64 r.seq) from rfl,zcS] at hlook;obtain ⟨dn,hdn2⟩:∃ dn,dn=cN (fun i=>(x i).kind=3) (fun i=>.int .i64 (x i).seq) (.int .i64 r.seq) k:=⟨_,rfl⟩;have HDN:=hid hdn2;rw [← hdn2] at hlook hdn
 have hwd:IntKind.i64.wrap ((dn:Int)+1)=(dn:Int)+1:=by rw [IntKind.wrap_i64];omega
 obtain ⟨w',hrun,M,G,S⟩:=M4.put keyI Tryz.underlying140 (by unfold maxLen;omega) hkl (.int .i64 ((dn:Int)+1))
 have n34:b3≠b4:=fun e=>by have:=HL3.out.nd;simp at this;omega
 have HN3:Hid (MapV w' 189 b3 (k+1) (putF (donF x k) (.agg #[.int .i64 r.seq,.int .i64 r.group]) (.int .i64 ((cn:Int)+1)))):=M3.block (G.block b3 M3.lt (fun e=>n34 (by cases e;rfl)));have HN4:=hid M
 have HE:Hid (∀ b,b<W2.drew.heap.size→b∉[b3,b4]→w'.heap[b]?=W2.drew.heap[b]?):=fun b hb hn=>by
  simp at hn
  exact (G.block b (by rw [Z7];exact hb) (fun e=>hn.2 (by cases e;rfl))).trans (E7 b hb hn.1)
 have HBE:Hid (Below lo w w'):=B7.trans ⟨G.os,G.tape,G.output,G.size,fun b hb=>G.block b (by have:=B7.size;omega) (fun e=>by cases e;have:=HL3.out.low;omega)⟩;clear M G M3 M4 X7 B7 E7 hkl hdn2 HM3 HM4 HX6 HY6 HB6 HE6
 simp only [List.take_succ_cons,List.take_zero,List.drop_succ_cons,List.drop_zero]
 repeat still_step
 refine wpStill_nil ?_;go_wp2;refine bodyPost_end (v:=.tuple #[]) (by simp [results,Tryz.results89]) rfl ?_
 exact ⟨rfl,⟨_,HL3.out.next (T:=[b3,b4]) HE.out (fun b hb=>by simp at hb ⊢;omega)
  (by rw [show newF x ce (k+1)=newF x ce k from zb4 (show ¬ (x k).kind=1 by rw [HX.out,HKD.out];decide)];exact (HL3.out.m1.block (HE.out b1 HL3.out.m1.lt (by have:=HL3.out.nd;simp at this ⊢;omega))).mono (Nat.le_succ k))
  (by rw [show movF x (k+1)=movF x k from zbT (show ¬ (x k).kind=2 by rw [HX.out,HKD.out];decide)];exact (HL3.out.m2.block (HE.out b2 HL3.out.m2.lt (by have:=HL3.out.nd;simp at this ⊢;omega))).mono (Nat.le_succ k))
  (by rw [show donF x (k+1)=putF (donF x k) (.agg #[.int .i64 (x k).seq,.int .i64 (x k).group]) (.int .i64 ((cN (fun i=>(x i).kind=3) (fun i=>.agg #[.int .i64 (x i).seq,.int .i64 (x i).group]) (.agg #[.int .i64 (x k).seq,.int .i64 (x k).group]) k:Int)+1)) from ze8 (show (x k).kind=3 by rw [HX.out,HKD.out]),HX.out,← HCN.out];exact HN3.out)
  (by rw [show endF x (k+1)=putF (endF x k) (.int .i64 (x k).seq) (.int .i64 ((cN (fun i=>(x i).kind=3) (fun i=>.int .i64 (x i).seq) (.int .i64 (x k).seq) k:Int)+1)) from ze8 (show (x k).kind=3 by rw [HX.out,HKD.out]),HX.out,← HDN.out];exact HN4.out)
  (by rw [show shaF x (k+1)=shaF x k from zb4 (show ¬ (x k).kind=4 by rw [HX.out,HKD.out];decide)];exact (HL3.out.m5.block (HE.out b5 HL3.out.m5.lt (by have:=HL3.out.nd;simp at this ⊢;omega))).mono (Nat.le_succ k)),⟨HLO.out,fun b hb hT hv=>(HE.out b (Nat.lt_of_lt_of_le hb HZ3.out) (fun q=>hT (by simp at q ⊢;omega))).trans (HA3.out b hb (fun e=>hT (by rw [e];simp)) hv)⟩⟩,HBE.out⟩
end Go.Proofs.YthbpmbgfddpffaaGreat
namespace Go.Proofs.YthbpmbgfddpffaaGreat
open Go.RowKit
section
variable {P:Program} {ops:Array Oper} {Q:Exit→Act→World→Prop} {md:Region.Mode} {S:World→Prop} {L:Nat}
end
end Go.Proofs.YthbpmbgfddpffaaGreat
namespace Go.Proofs.YthbpmbgfddpffaaGreat
open Go.RowKit F256
noncomputable def zcA (p:Nat→Prop):Nat→Int
 | 0=>-1
 | k+1=>@ite _ (p k) (Classical.propDecidable _) (k:Int) (zcA p k)
theorem zb6 {p:Nat→Prop} {k:Nat} (h:¬ p k):zcA p (k+1)=zcA p k:=if_neg h
theorem zdK {p:Nat→Prop} {k:Nat} (h:p k):zcA p (k+1)=(k:Int):=if_pos h
theorem zd8 (p:Nat→Prop):∀ k,zcA p k=-1∨∃ i:Nat,i<k∧zcA p k=(i:Int)∧p i
 | 0=>.inl rfl
 | k+1=>by
  by_cases h:p k
  ·exact .inr ⟨k,by omega,zdK h,h⟩
  ·rw [zb6 h]
   rcases zd8 p k with e | ⟨i,h1,h2,h3⟩
   ·exact .inl e
   ·exact .inr ⟨i,by omega,h2,h3⟩
def itm (x:Nat→RecD) (nm:ByteArray) (i:Nat):Prop:=(x i).kind=1∧(x i).name=nm
theorem zlZ (x:Nat→RecD) (ce:Nat→List Value) (nm:ByteArray):∀ N,(zcA (itm x nm) N=-1→newF x ce N (.string nm)=none)∧∀ i:Nat,zcA (itm x nm) N=(i:Int)→newF x ce N (.string nm)=some (.agg (ce i).toArray)
 | 0=>⟨fun _=>rfl,fun i h=>by have h':(-1:Int)=(i:Int):=h;omega⟩
 | N+1=>by
  have ih:=zlZ x ce nm N;unfold newF at ih ⊢
  by_cases hk:(x N).kind=1
  ·rw [zev hk]
   by_cases hn:(x N).name=nm
   ·rw [zdK (show itm x nm N from ⟨hk,hn⟩),hn,zdI]
    exact ⟨fun h=>by omega,fun i h=>by
     obtain rfl:N=i:=by omega
     rfl⟩
   ·rw [zb6 (fun h:itm x nm N=>hn h.2),zdV _ _ (fun h=>hn (by cases h;rfl))]
    exact ih
  ·rw [zb6 (fun h:itm x nm N=>hk h.1),zb4 hk]
   exact ih
set_option maxRecDepth 20000 in
theorem zif (v:Value) (n:Nat) (x:Nat→RecD) (nm:ByteArray) (hi:Nat) (w:World) (h:(zab.slice 85).rd w hi (n,x) [v]) (hhi:hi≤w.heap.size) (hn:n≤1048576) :
 Calls Tryz.prog 116 #[v,.string nm] w (fun e w'=>e=.returned (.int .i64 (zcA (itm x nm) n))∧Below w.heap.size w w'):=by
 obtain ⟨ao,cap,e,hmm,hc⟩:=h
 obtain rfl:v=.slice ao n cap:=by simpa using e
 have HC:=hid hc;clear e hmm hc
 go_enter Tryz.func116,Tryz.ntmps116
 go_wp2
 go_loopw [5,6] (fun a z wr=>∃ k:Nat,k≤n∧z=.int .i64 k∧a=.int .i64 (zcA (itm x nm) k)∧Below w.heap.size w wr) (fun _ z _=>n-(intOf z).toNat)
 case atStart=>exact ⟨0,Nat.zero_le _,rfl,rfl,Below.refl _ _⟩
 case round=>
  obtain ⟨k,hk,rfl,rfl,hbl⟩:=hrel;have HB:=hid hbl;obtain ⟨at_,hat⟩:∃ a,a=zcA (itm x nm) k:=⟨_,rfl⟩;have HAT:=hid hat;rw [← hat];clear hat
  by_cases hlt:k<n
  ·obtain ⟨b,off,rfl,hbh,hel⟩:=HC.out (by omega)
   obtain ⟨ce,hy,hcell⟩:=zat (t:=85) hel hbl hhi hbh hlt;obtain ⟨ao6,cap6,ao7,cap7,ao8,cap8,rfl,-,-,-,-⟩:=zaD hy;obtain ⟨r,hr⟩:∃ r,r=x k:=⟨_,rfl⟩;have HRR:=hid hr;rw [← hr] at hcell
   have y0:wr.cell? ⟨b,off+k*9,none⟩=some (.int .i64 r.kind):=by have:=hcell 0 (by decide);exact this
   have y2:wr.cell? ⟨b,off+k*9+2,none⟩=some (.string r.name):=by have:=hcell 2 (by decide);exact this
   have i1:(0:Int)≤(k:Int):=by omega
   have i2:(k:Int)<(n:Int):=by omega
   clear hcell hel hy hr hbl
   by_cases c1:r.kind=1
   ·have d1:(r.kind==1)=true:=by simp [c1]
    have HC1:=hid c1;clear c1
    by_cases c2:r.name=nm
    ·have d2:(r.name.toList==nm.toList)=true:=by rw [beq_iff_eq,c2]
     have d3:decide (r.name.toList=nm.toList)=true:=decide_eq_true (by rw [c2])
     have d4:r.name.toList=nm.toList:=by rw [c2]
     have HC2:=hid c2;clear c2;go_wp2
     go_roundw
     case rel=>exact ⟨k+1,by omega,by go_num,(by rw [zdK (show itm x nm k from ⟨by rw [← HRR.out];exact HC1.out,by rw [← HRR.out];exact HC2.out⟩)]),HB.out⟩
     case measure=>simp [intOf];omega
    ·have d2:(r.name.toList==nm.toList)=false:=by rw [beq_eq_false_iff_ne];exact fun h=>c2 (toList_inj.1 h)
     have d3:decide (r.name.toList=nm.toList)=false:=decide_eq_false (fun h=>c2 (toList_inj.1 h));have d4:¬ r.name.toList=nm.toList:=fun h=>c2 (toList_inj.1 h);have HC2:=hid c2;clear c2;go_wp2
     go_roundw
     case rel=>exact ⟨k+1,by omega,by go_num,(by rw [zb6 (fun h:itm x nm k=>HC2.out (by rw [HRR.out];exact h.2)),← HAT.out]),HB.out⟩
     case measure=>simp [intOf];omega
   ·have d1:(r.kind==1)=false:=by simp [c1]
    have HC1:=hid c1;clear c1;go_wp2
    go_roundw
    case rel=>exact ⟨k+1,by omega,by go_num,(by rw [zb6 (fun h:itm x nm k=>HC1.out (by rw [HRR.out];exact h.1)),← HAT.out]),HB.out⟩
    case measure=>simp [intOf];omega
  ·obtain rfl:k=n:=by omega
   rw [HAT.out];go_wp2;go_ret;exact ⟨rfl,HB.out⟩
theorem zig:(Tryz.prog.info? 85).map (·.size)=some 9:=by kernel_rfl
theorem zof (u:World):(zeroValue 185).run Tryz.prog u=.ok (.agg #[.int .i64 0,.int .i64 0,.string ⟨#[]⟩,.int .i64 0,.int .i64 0,.int .i64 0,.slice none 0 0,.slice none 0 0,.slice none 0 0]) u:=by kernel_rfl
def zdL (a b:RecD):Bool:=decide (a.kind=b.kind∧a.seq=b.seq)
def cmpP (x:Nat→RecD):Nat→Bool
 | 0=>true
 | i+1=>!(zdL (x (i+1)) (x i))
set_option maxRecDepth 100000 in
theorem zfQ (a b:RecD) (c1 c2:List Value) (h1 h2:Nat) (w:World) (r1:zab.rd w h1 a c1) (r2:zab.rd w h2 b c2) :
 Calls Tryz.prog 52 #[.agg c1.toArray,.agg c2.toArray] w fun e w'=>e=.returned (.bool (zdL a b))∧Below w.heap.size w w':=by
 obtain ⟨ao6,cap6,ao7,cap7,ao8,cap8,rfl,-,-,-,-⟩:=zaD r1;obtain ⟨bo6,bap6,bo7,bap7,bo8,bap8,rfl,-,-,-,-⟩:=zaD r2;have T0:=zaz w (rwR a ao6 cap6 ao7 cap7 ao8 cap8).toArray (rwR b bo6 bap6 bo7 bap7 bo8 bap8).toArray 85 85;have HB:=hid T0.bel;clear T0 r1 r2
 by_cases c1:a.kind=b.kind
 ·have d1:(a.kind==b.kind)=true:=by simp [c1]
  by_cases c2:a.seq=b.seq
  ·have d2:(a.seq==b.seq)=true:=by simp [c2]
   have e:zdL a b=true:=decide_eq_true ⟨c1,c2⟩;rw [e];clear c1 c2 e
   go_enter Tryz.func52,Tryz.ntmps52
   go_wp2;go_ret;exact ⟨rfl,HB.out⟩
  ·have d2:(a.seq==b.seq)=false:=by simp [c2]
   have e:zdL a b=false:=decide_eq_false (fun h=>c2 h.2);rw [e];clear c1 c2 e
   go_enter Tryz.func52,Tryz.ntmps52
   go_wp2;go_ret;exact ⟨rfl,HB.out⟩
 ·have d1:(a.kind==b.kind)=false:=by simp [c1]
  have e:zdL a b=false:=decide_eq_false (fun h=>c1 h.1);rw [e];clear c1 e
  go_enter Tryz.func52,Tryz.ntmps52
  go_wp2;go_ret;exact ⟨rfl,HB.out⟩
theorem zgz {n:Nat} {args:Array Value} {w:World} {R:Ending→World→Prop} (h:Calls Tryz.prog n args w R):Calls Tryz.prog n (args++#[]) w R:=by rw [Array.append_empty];exact h
theorem zih {w w':World} {g o:Nat} {c:List Value} (h:w.rangeAt g o c) (hb:Below w.heap.size w w') (hg:g<w.heap.size):w'.rangeAt g o c:=fun j v hv=>(hb.cell (p:=⟨g,o+j,none⟩) hg).trans (h j v hv)
theorem zgA:Tryz.prog.follows Departure.mixedOrders=true:=by kernel_rfl
theorem zmQ (v:Value) (ao:Option Addr) (n cap:Nat) (hv:v=.slice ao n cap) (hn:n<2) (w:World) :
 Calls Tryz.prog 49 #[v,.func (.func 52) #[] #[]] w fun e w'=>e=.returned v∧w'=w:=by
 subst hv
 have t1:(n:Int)<2:=by omega
 go_enter Tryz.func49,Tryz.ntmps49
 go_wp2;go_ret;exact ⟨rfl,rfl⟩
set_option maxRecDepth 100000 in
theorem zjo (g cap n lo hi:Nat) (x:Nat→RecD) (ce:Nat→List Value) (w:World) (hV:View zab 85 w lo hi (.slice (some ⟨g,0,none⟩) n cap) n x ce) (hlo:hi≤lo) (hlw:lo≤w.heap.size) (hn:n≤1048576) (hn2:2≤n) :
 Calls Tryz.prog 49 #[.slice (some ⟨g,0,none⟩) n cap,.func (.func 52) #[] #[]] w fun e w'=>e=.returned (.slice (some ⟨g,0,none⟩) (zai (cmpP x) n).length cap)∧View zab 85 w' lo hi (.slice (some ⟨g,0,none⟩) (zai (cmpP x) n).length cap) (zai (cmpP x) n).length (fun i=>x (selF (cmpP x) n i)) (fun i=>ce (selF (cmpP x) n i))∧ChgL [g] w w':=by
 have HV:=hid hV
 have hnc:n≤cap:=by
  rcases hV.row.2 with ⟨hn,_⟩ | ⟨g',cap',cur,he,hbg,hgg,hnc,_⟩
  ·cases hn
  ·cases he;exact hnc
 have HNC:=hid hnc;have hgl:=hV.row.lt g rfl
 have t0:decide ((n:Int)<2)=false:=by simp;omega
 clear hV hnc
 go_enter Tryz.func49,Tryz.ntmps49
 go_wp2
 go_loopw [5] (fun z wr=>∃ m:Nat,m+1≤n∧z=.int .i64 ((m+1:Nat):Int)∧(∀ t,t<m+1→(cmpP x) t=true)∧Below w.heap.size w wr) (fun z _=>n-(intOf z).toNat)
 case atStart=>exact ⟨0,by omega,rfl,fun t ht=>by obtain rfl:t=0:=(by omega);rfl,Below.refl _ _⟩
 case round=>
  clear t0;obtain ⟨m,hm,rfl,hall,hbl⟩:=hrel;obtain ⟨wx,rfl⟩:∃ y,y=wr:=⟨_,rfl⟩;have HALL:=hid hall;have HBL:=hid hbl;have zx:=hbl.size;clear hall
  by_cases hlt:m+1<n
  ·have VX:=(HV.out.below hbl (by omega)).drew
   have rgK:wx.drew.rangeAt g ((m+1)*9) (ce (m+1)):=VX.range hlt;have rgJ:wx.drew.rangeAt g (m*9) (ce m):=VX.range (show m<n by omega);have hcK:(ce (m+1)).length=9:=VX.lens (m+1) hlt;have hcJ:(ce m).length=9:=VX.lens m (by omega);have CS:=zfQ (x (m+1)) (x m) _ _ hi hi wx.drew (VX.each (m+1) hlt) (VX.each m (by omega));obtain ⟨cK,hcKe⟩:∃ c,c=ce (m+1):=⟨_,rfl⟩;obtain ⟨cJ,hcJe⟩:∃ c,c=ce m:=⟨_,rfl⟩;rw [← hcKe] at rgK hcK CS;rw [← hcJe] at rgJ hcJ CS;obtain ⟨t,ht⟩:∃ t,t=zdL (x (m+1)) (x m):=⟨_,rfl⟩;rw [← ht] at CS
   have HT:Hid ((cmpP x) (m+1)=!t):=by rw [ht];exact rfl
   have i1:(0:Int)≤((m+1:Nat):Int):=by omega
   have i2:((m+1:Nat):Int)<(n:Int):=by omega
   have i3:(0:Int)≤(m:Int):=by omega
   have i4:(m:Int)<(n:Int):=by omega
   have zs:IntKind.i64.wrap (((m+1:Nat):Int)-1)=(m:Int):=by rw [IntKind.wrap_i64];omega
   have zs2:IntKind.i64.wrap (m:Int)=(m:Int):=by rw [IntKind.wrap_i64];omega
   have j1:(0:Int)≤(m:Int)+1:=by omega
   have j2:(m:Int)+1<(n:Int):=by omega
   clear hbl hcKe hcJe VX ht
   go_upto_region 6 with fail
   refine zay 10 (fun w'=>w'.rangeAt g ((m+1)*9) cK∧w'.rangeAt g (m*9) cJ) zgA ⟨rgK,rgJ⟩ (fun hHeld=>?_);refine zn9 0 rfl ?_
   try simp only [Act.put,SL]
   refine zn9 1 rfl ?_
   try simp only [Act.put,SL]
   refine zn9 2 rfl ?_
   try simp only [Act.put,SL]
   refine zoa 3 rfl ?_
   try simp only [Act.put,SL]
   refine zaf (i:=4) (oi:=_) 16 rfl (by kernel_rfl) (fun _ _ _ h=>h) (yieldsIf_load_mid (by kernel_rfl) 85 (.tmp 21) rfl g ((m+1)*9) (by simp [Act.eval,Act.put]) cK _ (fun w h=>h.1) Tryz.underlying85 rfl (zam hcK)) (by assumption) ?_
   try simp only [Act.put,SL]
   refine zn9 5 rfl ?_
   try simp only [Act.put,SL]
   refine zn9 6 rfl ?_
   try simp only [Act.put,SL]
   refine zn9 7 rfl ?_
   try simp only [Act.put,SL]
   refine zoa 8 rfl ?_
   try simp only [Act.put,SL]
   refine zaf (i:=9) (oi:=_) 16 rfl (by kernel_rfl) (fun _ _ _ h=>h) (yieldsIf_load_mid (by kernel_rfl) 85 (.tmp 26) rfl g (m*9) (by simp [Act.eval,Act.put]) cJ _ (fun w h=>h.2) Tryz.underlying85 rfl (zam hcJ)) (by assumption) ?_
   try simp only [Act.put,SL]
   refine zas (i:=10) (o:=_) rfl (by kernel_rfl) (by kernel_rfl) (fun KC hKC=>?_);refine zaQ (by kernel_rfl) (.tmp 18) 52 #[] _ _ rfl (by simp [Act.eval,Act.put]) #[.agg cK.toArray,.agg cJ.toArray] (by simp [Act.eval,Act.put]) Tryz.func52 (by kernel_rfl) (by kernel_rfl) (zgz CS) ?_;rintro e w5 ⟨rfl,b5⟩;refine ⟨_,rfl,?_⟩;refine hKC _ _ ?_;clear hKC KC
   try simp only [Act.put,SL]
   refine zar (by kernel_rfl) ?_ _;have B5:Hid (Below w.heap.size w w5):=HBL.out.trans (((show Below wx.heap.size wx wx.drew from ⟨rfl,rfl,rfl,Nat.le_refl _,fun _ _=>rfl⟩).trans b5).mono zx);have z5:wx.heap.size≤w5.heap.size:=b5.size;clear b5 CS rgK rgJ
   cases t with
   | false=>
    have zi:IntKind.i64.wrap (((m+1:Nat):Int)+1)=((m+1+1:Nat):Int):=by rw [IntKind.wrap_i64];omega
    go_wp2
    go_roundw
    case rel=>exact ⟨m+1,by omega,by first | rfl | simp [zi] | (rw [zi]),fun t ht=>by
     by_cases c:t=m+1
     ·rw [c];exact HT.out
     ·exact HALL.out t (by omega),B5.out⟩
    case measure=>simp [intOf,zi];omega
   | true=>
    have HP0:Hid ((cmpP x) (m+1)=false):=HT.out;have hf:=zdU g n cap (m+1) hlt HNC.out;have hf2:=hf
    push_cast at hf2
    have hk0:(zai (cmpP x) (m+1+1)).length=m+1:=by rw [zbM HP0.out,zcE HALL.out];simp
    have HK0:=hid hk0;clear hk0 zs i3 i4;go_wp2
    go_loopw [5,7] (fun v z wr=>∃ u:Nat,m+1+(u+1)≤n∧z=.int .i64 ((u+1:Nat):Int)∧v=.int .i64 ((zai (cmpP x) (m+1+(u+1))).length:Nat)∧View zab 85 wr lo hi (.slice (some ⟨g,0,none⟩) n cap) n (mixF (cmpP x) (m+1+(u+1)) x) (mixF (cmpP x) (m+1+(u+1)) ce)∧ChgL [g] w wr) (fun _ z _=>n-(intOf z).toNat)
    case atStart=>
     refine ⟨0,by omega,rfl,?_,?_,ChgL.of_below B5.out⟩
     ·show _=Value.int .i64 ((zai (cmpP x) (m+1+1)).length:Nat)
      rw [HK0.out]
     ·exact (HV.out.below B5.out (by omega)).congr2 (fun i _=>by show _=mixF (cmpP x) (m+1+1) x i;rw [zct x HP0.out,zfA x HALL.out]) (fun i _=>by show _=mixF (cmpP x) (m+1+1) ce i;rw [zct ce HP0.out,zfA ce HALL.out])
    case round=>
     clear B5 z5 hf hf2;obtain ⟨u,hu,rfl,rfl,hrow,hch⟩:=hrel;obtain ⟨wy,rfl⟩:∃ y,y=wr:=⟨_,rfl⟩;obtain ⟨j,hj⟩:∃ j,j=m+1+(u+1):=⟨_,rfl⟩;rw [← hj] at hrow hu ⊢;have HJ:=hid hj;have HCH:=hid hch;have HRW:=hid hrow;have zy:=hch.size;have hless:(zai (cmpP x) j).length<j:=zfB (show m+1<j by omega) HP0.out;clear hch hj
     by_cases hl2:j<n
     ·have e1:(mixF (cmpP x) (j) ce) j=ce j:=zfz ce (Nat.le_of_lt hless)
      have e2:(mixF (cmpP x) (j) x) j=x j:=zfz x (Nat.le_of_lt hless);have e3:(mixF (cmpP x) (j) ce) (m+1+u)=ce (m+1+u):=zfz ce (by have:=HJ.out;omega);have e4:(mixF (cmpP x) (j) x) (m+1+u)=x (m+1+u):=zfz x (by have:=HJ.out;omega);have hju:=HJ.out;have VX:=hrow.drew
      have rgK:wy.drew.rangeAt g ((m+1)*9+(u+1)*9) (ce j):=by have:=VX.range hl2;rw [e1,show j*zab.sz=(m+1)*9+(u+1)*9 by rw [hju];exact Nat.add_mul _ _ _] at this;exact this
      have rgJ:wy.drew.rangeAt g ((m+1)*9+u*9) (ce (m+1+u)):=by have:=VX.range (show m+1+u<n by omega);rw [e3,show (m+1+u)*zab.sz=(m+1)*9+u*9 from Nat.add_mul _ _ _] at this;exact this
      have hcK:(ce j).length=9:=by have:=VX.lens j hl2;rw [e1] at this;exact this
      have hcJ:(ce (m+1+u)).length=9:=by have:=VX.lens (m+1+u) (by omega);rw [e3] at this;exact this
      have rdK:zab.rd wy.drew hi (x j) (ce j):=by have:=VX.each j hl2;rw [e1,e2] at this;exact this
      have rdJ:zab.rd wy.drew hi (x (m+1+u)) (ce (m+1+u)):=by have:=VX.each (m+1+u) (by omega);rw [e3,e4] at this;exact this
      have CS:=zfQ (x j) (x (m+1+u)) _ _ hi hi wy.drew rdK rdJ;obtain ⟨cK,hcKe⟩:∃ c,c=ce j:=⟨_,rfl⟩;obtain ⟨cJ,hcJe⟩:∃ c,c=ce (m+1+u):=⟨_,rfl⟩;have HCK:=hid hcKe;rw [← hcKe] at rgK hcK CS rdK;rw [← hcJe] at rgJ hcJ CS;have oneK:∀ v,v∈cK→v.oneCell'=true:=zaT _ _ _ _ rdK;have HRK:=hid rdK;obtain ⟨t,ht⟩:∃ t,t=zdL (x j) (x (m+1+u)):=⟨_,rfl⟩;rw [← ht] at CS
      have HT:Hid ((cmpP x) j=!t):=by
       show (cmpP x) j=!t
       rw [ht,hju];exact rfl
      have i1:(0:Int)≤((u+1:Nat):Int):=by omega
      have i2:((u+1:Nat):Int)<((n-(m+1):Nat):Int):=by omega
      have i3:(0:Int)≤(u:Int):=by omega
      have i4:(u:Int)<((n-(m+1):Nat):Int):=by omega
      have zs:IntKind.i64.wrap (((u+1:Nat):Int)-1)=(u:Int):=by rw [IntKind.wrap_i64];omega
      have zs2:IntKind.i64.wrap (u:Int)=(u:Int):=by rw [IntKind.wrap_i64];omega
      have j1:(0:Int)≤(u:Int)+1:=by omega
      have j2:(u:Int)+1<((n-(m+1):Nat):Int):=by omega
      have zi:IntKind.i64.wrap (((u+1:Nat):Int)+1)=((u+1+1:Nat):Int):=by rw [IntKind.wrap_i64];omega
      have RGK:=hid rgK
      have hgy:g<wy.heap.size:=by omega
      clear hrow hcKe hcJe VX ht e1 e2 e3 e4 rdJ rdK
      go_upto_region 11 with fail
      refine zay 10 (fun w'=>w'.rangeAt g ((m+1)*9+(u+1)*9) cK∧w'.rangeAt g ((m+1)*9+u*9) cJ) zgA ⟨rgK,rgJ⟩ (fun hHeld=>?_);refine zn9 0 rfl ?_
      try simp only [Act.put,SL]
      refine zn9 1 rfl ?_
      try simp only [Act.put,SL]
      refine zn9 2 rfl ?_
      try simp only [Act.put,SL]
      refine zoa 3 rfl ?_
      try simp only [Act.put,SL]
      refine zaf (i:=4) (oi:=_) 16 rfl (by kernel_rfl) (fun _ _ _ h=>h) (yieldsIf_load_mid (by kernel_rfl) 85 (.tmp 41) rfl g ((m+1)*9+(u+1)*9) (by simp [Act.eval,Act.put]) cK _ (fun w h=>h.1) Tryz.underlying85 rfl (zam hcK)) (by assumption) ?_
      try simp only [Act.put,SL]
      refine zn9 5 rfl ?_
      try simp only [Act.put,SL]
      refine zn9 6 rfl ?_
      try simp only [Act.put,SL]
      refine zn9 7 rfl ?_
      try simp only [Act.put,SL]
      refine zoa 8 rfl ?_
      try simp only [Act.put,SL]
      refine zaf (i:=9) (oi:=_) 16 rfl (by kernel_rfl) (fun _ _ _ h=>h) (yieldsIf_load_mid (by kernel_rfl) 85 (.tmp 46) rfl g ((m+1)*9+u*9) (by simp [Act.eval,Act.put]) cJ _ (fun w h=>h.2) Tryz.underlying85 rfl (zam hcJ)) (by assumption) ?_
      try simp only [Act.put,SL]
      refine zas (i:=10) (o:=_) rfl (by kernel_rfl) (by kernel_rfl) (fun KC hKC=>?_);refine zaQ (by kernel_rfl) (.tmp 38) 52 #[] _ _ rfl (by simp [Act.eval,Act.put]) #[.agg cK.toArray,.agg cJ.toArray] (by simp [Act.eval,Act.put]) Tryz.func52 (by kernel_rfl) (by kernel_rfl) (zgz CS) ?_;rintro e w5 ⟨rfl,b5⟩;refine ⟨_,rfl,?_⟩;refine hKC _ _ ?_;clear hKC KC
      try simp only [Act.put,SL]
      refine znS 11 (v:=?_) rfl ?_ ?_
      rotate_left
      ·intro w' hSw;go_simp;try with_reducible rfl
      try simp only [Act.put,SL]
      refine zar (by kernel_rfl) ?_ _;have bD:=(show Below wy.heap.size wy wy.drew from ⟨rfl,rfl,rfl,Nat.le_refl _,fun _ _=>rfl⟩).trans b5;have z5:wy.heap.size≤w5.heap.size:=b5.size;have C5:Hid (ChgL [g] w w5):=HCH.out.trans (ChgL.of_below bD);have HS5:Hid (View zab 85 w5 lo hi (.slice (some ⟨g,0,none⟩) n cap) n (mixF (cmpP x) (j) x) (mixF (cmpP x) (j) ce)):=HRW.out.below bD (by omega);have rgK5:w5.rangeAt g ((m+1)*9+(u+1)*9) cK:=zih RGK.out b5 hgy;have HRK5:Hid (zab.rd w5 hi (x j) cK):=zab.rd_below HRK.out b5 (by show hi≤wy.heap.size;omega);clear b5 bD CS rgK rgJ HRK RGK HCH HRW i3 i4 zs
      cases t with
      | true=>
       go_wp2
       go_roundw
       case rel=>
        refine ⟨u+1,by have:=HJ.out;omega,by first | rfl | simp [zi] | (rw [zi]),?_,?_,C5.out⟩
        ·rw [show m+1+(u+1+1)=j+1 by have:=HJ.out;omega,zbM HT.out]
        ·rw [show m+1+(u+1+1)=j+1 by have:=HJ.out;omega]
         exact HS5.out.congr2 (fun m _=>(zct x HT.out m).symm) (fun m _=>(zct ce HT.out m).symm)
       case measure=>simp [intOf,zi];omega
      | false=>
       obtain ⟨q,hq⟩:∃ q,q=(zai (cmpP x) j).length:=⟨_,rfl⟩;have HQ:=hid hq
       have hqn:q<n:=by omega
       rw [← hq]
       have k1:(0:Int)≤(q:Int):=by omega
       have k2:(q:Int)<(n:Int):=by omega
       have hth:w5.there g (q*9) cK.length:=by rw [hcK];exact HS5.out.there hqn
       have hpk:(cmpP x) j=true:=HT.out
       have hnx:(zai (cmpP x) (j+1)).length=q+1:=by rw [hq,zbm,if_pos hpk];simp
       have HNX:=hid hnx
       have HV7:Hid (View zab 85 (w5.setCells g (q*9) cK) lo hi (.slice (some ⟨g,0,none⟩) n cap) n (mixF (cmpP x) (j+1) x) (mixF (cmpP x) (j+1) ce)):=by
        have:=HS5.out.put (by decide) hlo hqn HRK5.out;refine this.congr2 (fun m _=>?_) (fun m _=>?_)
        ·have:=zep (p:=(cmpP x)) (j:=j) x hpk m
         rw [← hq] at this;exact this
        ·have:=zep (p:=(cmpP x)) (j:=j) ce hpk m
         rw [← hq,← HCK.out] at this;exact this
       have C7:Hid (ChgL [g] w (w5.setCells g (q*9) cK)):=C5.out.trans (zcg g cK w5 _)
       have zq:IntKind.i64.wrap ((q:Int)+1)=(q:Int)+1:=by rw [IntKind.wrap_i64];omega
       clear hq hnx hpk
       go_wp2_with (first | (refine wpList_load_mid rfl 85 (.tmp 54) rfl g ((m+1)*9+(u+1)*9) (by simp [Act.eval,Act.put]) cK _ rgK5 Tryz.underlying85 rfl (zam hcK) ?_) | (refine wpList_store_mid rfl 85 (.tmp 56) (.tmp 55) rfl g (q*9) cK.toArray (by simp [Act.eval,Act.put]) (by simp [Act.eval,Act.put]) (show w5.there g (q*9) cK.toArray.size by rw [List.size_toArray];exact hth) (show _=some cK.toArray.size by rw [List.size_toArray];exact zam hcK) (all_oneCell_toArray oneK) ?_;rw [show cK.toArray.toList=cK from rfl]))
       refine ⟨⟨_,_,_,_,_,_,_,_,_,_,_,_,_,_,_,_,_,_,_,_,_,_,_,_,_,_,_,_,_,?rel,rfl⟩,?measure⟩
       case rel=>
        refine ⟨u+1,by have:=HJ.out;omega,by first | rfl | simp [zi] | (rw [zi]),?_,?_,C7.out⟩
        ·rw [show m+1+(u+1+1)=j+1 by have:=HJ.out;omega,HNX.out];simp
        ·rw [show m+1+(u+1+1)=j+1 by have:=HJ.out;omega]
         exact HV7.out
       case measure=>simp [intOf,zi];omega
     ·obtain rfl:j=n:=by omega
      have hju:=HJ.out
      have i2:decide (((u+1:Nat):Int)<((j-(m+1):Nat):Int))=false:=by simp;omega
      have i5:decide ((u:Int)+1<((j-(m+1):Nat):Int))=false:=by simp;omega
      have i6:¬ ((u:Int)+1<((j-(m+1):Nat):Int)):=by omega
      obtain ⟨q,hq⟩:∃ q,q=(zai (cmpP x) j).length:=⟨_,rfl⟩;have HQ:=hid hq;have S5:=HRW.out;have hlens:=S5.lens
      rcases S5.row.2 with ⟨hnn,_⟩ | ⟨g',cap',cur,he,hbg,hgg,hnc',hcm,hcs,htk⟩
      ·cases hnn
      cases he
      have hqn:q<j:=by omega
      obtain ⟨row,hcl,hrs,hrt⟩:=zeI wy 0 g (q*9) (j-q) (cap-q) cur hgg (by omega) (by
       have h9:cur.size=cap*9:=hcs
       have:q*9+(j-q)*9≤cap*9:=by rw [← Nat.add_mul];exact Nat.mul_le_mul_right 9 (by omega)
       omega)
      have hf:=zdU g j cap q hqn HNC.out;have ht:=fun w'=>zg5 g j cap q (by omega) w';obtain ⟨W7,hW7⟩:∃ y,y=wy.setRow g row:=⟨_,rfl⟩;rw [← hW7] at hcl
      have C7:Hid (ChgL [g] w W7):=by
       rw [hW7];exact HCH.out.trans (zcl g row)
      have C7x:ChgL [g] wy W7:=by rw [hW7];exact zcl g row
      have bX:Below lo wy W7:=C7x.bel (fun b hb=>by simp at hb;omega) (by omega)
      have R7:Hid (View zab 85 W7 lo hi (.slice (some ⟨g,0,none⟩) q cap) q (fun i=>x (selF (cmpP x) j i)) (fun i=>ce (selF (cmpP x) j i))):=by
       have e1:catN q (mixF (cmpP x) (j) ce)=catN q (fun i=>ce (selF (cmpP x) j i)):=za7 (fun i hi=>by
        show mixF _ j ce i=_
        unfold mixF
        rw [if_pos (by rw [← hq];exact hi)])
       have hl9:∀ i,i<q→(ce (selF (cmpP x) j i)).length=zab.sz:=fun i hi=>by
        have:=hlens i (by omega);unfold mixF at this;rw [if_pos (by rw [← hq];exact hi)] at this;exact this
       refine ⟨⟨zbO hl9,.inr ⟨g,cap,row,rfl,hbg,by rw [hW7];exact setRow_heap wy g cur row 85 (0,0) hgg,by omega,hcm,by rw [hrs];exact hcs,?_⟩⟩,fun i hi=>?_⟩
       ·rw [← e1,← zfC hlens (Nat.le_of_lt hqn),← htk,List.take_take,Nat.min_eq_left (Nat.mul_le_mul_right _ (Nat.le_of_lt hqn))]
        exact hrt
       ·have h1:=S5.each i (by omega)
        unfold mixF at h1;rw [if_pos (by rw [← hq];exact hi),if_pos (by rw [← hq];exact hi)] at h1;exact zab.rd_below h1 bX hlo
      clear S5 hlens hgg htk hcs hcm hnc' hbg hrs hrt hW7 hless C7x bX hrow hju;rw [← hq];clear hq
      go_wp2_with (simp only [hcl])
      go_ret;rw [← HQ.out];exact ⟨rfl,R7.out,C7.out⟩
  ·obtain hmn:m+1=n:=by omega
   have i2:decide (((m+1:Nat):Int)<(n:Int))=false:=by simp;omega
   have HALL2:Hid (∀ t,t<n→(cmpP x) t=true):=fun t ht=>HALL.out t (by omega);clear hbl;go_wp2;go_ret
   have em:(zai (cmpP x) n).length=n:=by rw [zcE HALL2.out];simp
   rw [em];exact ⟨rfl,(HV.out.below HBL.out (by omega)).congr2 (fun i hi=>by rw [zd5 HALL2.out hi]) (fun i hi=>by rw [zd5 HALL2.out hi]),ChgL.of_below HBL.out⟩
theorem zjp {n lo hi:Nat} {v:Value} {x:Nat→RecD} {ce:Nat→List Value} {w:World} (hV:View zab 85 w lo hi v n x ce) (hlo:hi≤lo) (hlw:lo≤w.heap.size) (hn:n≤1048576) :
 Calls Tryz.prog 49 #[v,.func (.func 52) #[] #[]] w fun e w'=>∃ u cu,e=.returned u∧View zab 85 w' lo hi u (zai (cmpP x) n).length (fun i=>x (selF (cmpP x) n i)) cu∧Below lo w w':=by
 by_cases h2:n<2
 ·obtain ⟨ao,cap,hv⟩:=hV.form
  refine (zmQ v ao n cap hv h2 w).mono ?_;rintro e w' ⟨rfl,rfl⟩
  have hall:∀ t,t<n→cmpP x t=true:=fun t ht=>by obtain rfl:t=0:=(by omega);rfl
  have em:(zai (cmpP x) n).length=n:=by rw [zcE hall];simp
  refine ⟨v,ce,rfl,?_,Below.refl _ _⟩;rw [em];exact hV.congr (fun i hi=>by rw [zd5 hall hi])
 ·obtain ⟨g,cap,rfl⟩:=hV.form0 (by omega)
  have hg:=hV.row.lt g rfl;refine (zjo g cap n lo hi x ce w hV hlo hlw hn (by omega)).mono ?_;rintro e w' ⟨rfl,V',C⟩;exact ⟨_,_,rfl,V',C.bel (fun b hb=>by simp at hb;omega) hlw⟩
structure RecsResultD where
 code:Int
 recs:Nat×(Nat→RecD)
structure BytesResultD where
 code:Int
 bytes:Nat×(Nat→Nat)
structure IntsResultD where
 code:Int
 list:Nat×(Nat→Int)
structure GroupsResultD where
 code:Int
 groups:Nat×(Nat→Int)
end Go.Proofs.YthbpmbgfddpffaaGreat
