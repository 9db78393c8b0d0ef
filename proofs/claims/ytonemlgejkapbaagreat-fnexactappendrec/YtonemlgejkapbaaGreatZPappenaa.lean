/- What the frames of all laws share: an integer that came in as a natural number, a slice of bytes that came in as a row of cells. -/
import Derived.Test.YtonemlgejkapbaaGreatChecked
import Derived.WalkKit
import Derived.ProofKit
import Derived.OpenShut
import Derived.ChangeOld
import Derived.Below
import Derived.Test.YtonemlgejkapbaaGreatProg
import Derived.WalkLawsBesides
import Derived.Deep.Slices
import Derived.BigQuiet
import Derived.Deep.QuietTactic
import Derived.Deep.Matrix
import Derived.ChangeSame
import Derived.ChangeMaps5
import Derived.Maps.AppendAt
set_option linter.unusedVariables false
set_option linter.unusedSimpArgs false
set_option maxHeartbeats 16000000
namespace Go.Proofs.YtonemlgejkapbaaGreat
open Go.ChangeShapes Go.WideShapes Go.ChangeAt Go.RowKit
theorem zhJ:ownKnob Tryz.prog.godebug=none:=by kernel_rfl
theorem zep:laidOutB Tryz.prog=true:=by kernel_rfl
def IsRow (w:World) (a:Option Addr) (len cap:Nat) (zs:List Int):Prop:=
 (a=none∧len=0∧cap=0∧zs=[]) ∨
 ∃ x,a=some x∧len≤cap∧cap≤maxLen∧zs.length=cap∧(∀ i,i<zs.length→w.cell? (x.add i)=some (.int .u8 (zs.getD i 0)))∧∀ n∈zs,(Lit.int .u8 n).wf=true
theorem zf3 {t e:TypeId} {H:Type} {enc:TypeId×Value→H} {W:World} {a:Option Addr} {len cap:Nat} {d:DataW H} {ps:List MemPlace}
 (hu:Tryz.prog.underlying t=some (.slice e)) (he:Tryz.prog.underlying e=some (.int .u8)) (hc:Tryz.prog.cellsOf e=1)
 (h:DataW.Trod enc Tryz.prog W 0 (fun _=>true) true t (.slice a len cap) d ps):∃ zs,IsRow W a len cap zs:=by
 obtain ⟨fuel,hf⟩:=h
 rcases open_ints hu he hc hf with ⟨hcs,_⟩ | ⟨x,l,c,zs,hcs,_,hl,hm,hz,_,hcell,hwz⟩
 ·simp [Value.cells] at hcs
  obtain ⟨rfl,rfl,rfl⟩:=hcs;exact ⟨[],.inl ⟨rfl,rfl,rfl,rfl⟩⟩
 ·simp [Value.cells] at hcs
  obtain ⟨rfl,rfl,rfl⟩:=hcs;exact ⟨zs,.inr ⟨_,rfl,hl,hm,by simpa using hz,hcell,hwz⟩⟩
end Go.Proofs.YtonemlgejkapbaaGreat
namespace Go.Proofs.YtonemlgejkapbaaGreat.F256
def dblN (x:Nat):Nat:=if 255<2*x then (2*x) ^^^ 285 else 2*x
def tabN (a:Nat):Nat→Nat
 | 0=>a
 | k+1=>dblN (tabN a k)
abbrev E (n:Nat):Nat:=tabN 1 n
def zi1:Nat→Nat→List Nat
 | 0,_=>[]
 | n+1,x=>x::zi1 n (dblN x)
end Go.Proofs.YtonemlgejkapbaaGreat.F256
namespace Go.Proofs.YtonemlgejkapbaaGreat
open Go.RowKit F256
theorem zbr {k:IntKind} {x y:Int} (h:x=y):Value.int k x=Value.int k y:=by rw [h]
theorem zcp {k:IntKind} {x y:Int} (h:x=y):Ending.returned (Value.int k x)=Ending.returned (Value.int k y):=by rw [h]
theorem bnew {w w2:World} {o:Obj} (h:Below (w.alloc o).heap.size (w.alloc o) w2):Below w.heap.size w w2:=
 ((Below.refl _ _).alloc (Nat.le_refl _) o).trans (h.mono (by simp))
theorem bsize {w w2:World} {o:Obj} (h:Below (w.alloc o).heap.size (w.alloc o) w2):w.heap.size<w2.heap.size:=by
 have:=h.size
 simp at this
 omega
theorem bAl (w:World) (o:Obj):Below w.heap.size w (w.alloc o):=(Below.refl _ _).alloc (Nat.le_refl _) _
theorem hid {p:Prop} (h:p):Hid p:=h
def cellsOf (n:Nat) (f:Nat→Nat):List Value:=(List.range n).map fun i=>Value.int .u8 (f i)
theorem zan (n:Nat) (f:Nat→Nat):(cellsOf n f).length=n:=by simp [cellsOf]
theorem zaY (n:Nat) (f:Nat→Nat) (i:Nat) (h:i<n):(cellsOf n f)[i]?=some (.int .u8 (f i)):=by simp [cellsOf,h]
theorem zha {n:Nat} {f g:Nat→Nat} (h:∀ i,i<n→f i=g i):cellsOf n f=cellsOf n g:=by
 apply List.map_congr_left
 intro i hi;rw [h i (List.mem_range.mp hi)]
theorem zf4 (n:Nat) (f g:Nat→Nat) (k:Nat) (x:Nat) (hk:k<n) (h:∀ i,i<n→g i=if i=k then x else f i):(cellsOf n f).set k (.int .u8 x)=cellsOf n g:=by
 apply List.ext_getElem?
 intro i
 by_cases hi:i<n
 ·rw [zaY n g i hi,h i hi,List.getElem?_set]
  by_cases e:k=i
  ·subst e;simp [zan,hk]
  ·rw [if_neg e,if_neg (fun h=>e h.symm),zaY n f i hi]
 ·rw [List.getElem?_eq_none (by rw [List.length_set,zan];omega),List.getElem?_eq_none (by rw [zan];omega)]
theorem zfc (n:Nat):(madeCells #[Value.int .u8 0] n).toList=cellsOf n fun _=>0:=by
 rw [toList_madeCells_one]
 apply List.ext_getElem?
 intro i
 by_cases hi:i<n
 ·rw [zaY _ _ _ hi];simp [hi]
 ·rw [List.getElem?_eq_none (by simp;omega),List.getElem?_eq_none (by rw [zan];omega)]
def Own (w:World) (lo hi:Nat) (v:Value) (n:Nat) (f:Nat→Nat):Prop:=
 w.ownsRow lo 5 1 v n (cellsOf n f)∧∀ k,v.ownBlock=some k→k<hi
def Rd (w:World) (hi:Nat) (v:Value) (n:Nat) (f:Nat→Nat):Prop:=
 ∃ ao cap,v=.slice ao n cap∧n≤maxLen∧(n≠0→∃ b off,ao=some ⟨b,off,none⟩∧b<hi∧∀ i,i<n→w.cell? ⟨b,off+i,none⟩=some (.int .u8 (f i)))
structure Out (lo hi:Nat) (w w':World):Prop where
 os:w'.os=w.os
 tape:w'.tape=w.tape
 output:w'.output=w.output
 size:w'.heap.size=w.heap.size
 block:∀ k,(k<lo∨hi≤k)→w'.heap[k]?=w.heap[k]?
theorem Out.refl (lo hi:Nat) (w:World):Out lo hi w w:=⟨rfl,rfl,rfl,rfl,fun _ _=>rfl⟩
theorem Own.mono {w:World} {lo hi hi':Nat} {v:Value} {n:Nat} {f:Nat→Nat} (h:Own w lo hi v n f) (hB:hi≤hi'):Own w lo hi' v n f:=
 ⟨h.1,fun k hk=>Nat.lt_of_lt_of_le (h.2 k hk) hB⟩
theorem Own.rd {w:World} {lo hi:Nat} {v:Value} {n:Nat} {f:Nat→Nat} (h:Own w lo hi v n f):Rd w hi v n f:=by
 rcases h.1.2 with ⟨rfl,rfl⟩ | ⟨g,cap,cur,rfl,hbg,hgg,hnc,hcm,rest⟩
 ·exact ⟨none,0,rfl,Nat.zero_le _,fun h=>absurd rfl h⟩
 ·refine ⟨_,_,rfl,Nat.le_trans hnc hcm,fun _=>⟨g,0,rfl,h.2 g rfl,fun i hi=>?_⟩⟩
  have:=h.1.cellAt i (by omega);rw [Nat.zero_add,this,zaY n f i hi]
theorem Rd.below {w w':World} {hi B:Nat} {v:Value} {n:Nat} {f:Nat→Nat} (h:Rd w hi v n f) (hb:Below B w w') (hB:hi≤B):Rd w' hi v n f:=by
 obtain ⟨ao,cap,rfl,hn,hc⟩:=h;refine ⟨ao,cap,rfl,hn,fun h0=>?_⟩;obtain ⟨b,off,rfl,hlt,hcell⟩:=hc h0;exact ⟨b,off,rfl,hlt,fun i hi=>(hb.cell (p:=⟨b,off+i,none⟩) (by show b<B;omega)).trans (hcell i hi)⟩
theorem Rd.mono {w:World} {hi hi':Nat} {v:Value} {n:Nat} {f:Nat→Nat} (h:Rd w hi v n f) (hB:hi≤hi'):Rd w hi' v n f:=by
 obtain ⟨ao,cap,rfl,hn,hc⟩:=h;refine ⟨ao,cap,rfl,hn,fun h0=>?_⟩;obtain ⟨b,off,rfl,hlt,hcell⟩:=hc h0;exact ⟨b,off,rfl,by omega,hcell⟩
theorem Own.congr {w:World} {lo hi:Nat} {v:Value} {n:Nat} {f g:Nat→Nat} (h:Own w lo hi v n f) (e:∀ i,i<n→f i=g i):Own w lo hi v n g:=by
 refine ⟨?_,h.2⟩;rw [← zha e];exact h.1
theorem Own.form {w:World} {lo hi:Nat} {v:Value} {n:Nat} {f:Nat→Nat} (h:Own w lo hi v n f) (h0:n≠0) :
 ∃ g cap,v=.slice (some ⟨g,0,none⟩) n cap∧lo≤g∧g<hi∧g<w.heap.size∧n≤cap:=by
 rcases h.1.2 with ⟨rfl,rfl⟩ | ⟨g,cap,cur,rfl,hbg,hgg,hnc,_⟩
 ·exact absurd rfl h0
 ·exact ⟨g,cap,rfl,hbg,h.2 g rfl,(Array.getElem?_eq_some_iff.1 hgg).1,hnc⟩
theorem Own.slice {w:World} {lo hi:Nat} {v:Value} {n:Nat} {f:Nat→Nat} (h:Own w lo hi v n f):∃ ao cap,v=.slice ao n cap:=by
 rcases h.1.2 with ⟨rfl,rfl⟩ | ⟨g,cap,cur,rfl,_⟩
 ·exact ⟨_,_,rfl⟩
 ·exact ⟨_,_,rfl⟩
theorem Own.store {w:World} {lo hi g cap n:Nat} {f g':Nat→Nat} (h:Own w lo hi (.slice (some ⟨g,0,none⟩) n cap) n f) (k x:Nat) (hk:k<n)
 (e:∀ i,i<n→g' i=if i=k then x else f i):Own (w.setCell ⟨g,k,none⟩ (.int .u8 x)) lo hi (.slice (some ⟨g,0,none⟩) n cap) n g':=by
 refine ⟨?_,h.2⟩;have:=(h.1.stored k (.int .u8 x)).1;rw [zf4 n f g' k x hk e] at this;exact this
theorem zdE (w:World) (lo hi g k:Nat) (u:Value) (h1:lo≤g) (h2:g<hi):Out lo hi w (w.setCell ⟨g,k,none⟩ u):=
 ⟨rfl,rfl,rfl,by simp,fun j hj=>heap_setCell_other w ⟨g,k,none⟩ j u (by show j≠g;omega)⟩
theorem Out.trans {lo hi:Nat} {a b c:World} (h:Out lo hi a b) (k:Out lo hi b c):Out lo hi a c:=
 ⟨k.os.trans h.os,k.tape.trans h.tape,k.output.trans h.output,k.size.trans h.size,fun i hi=>(k.block i hi).trans (h.block i hi)⟩
theorem zhK:(Tryz.prog.info? 5).map (fun i=>(i.zero,i.size,i.bytes))=some (some (.int .u8 0),1,1):=by kernel_rfl
theorem zb8 {w w':World} (h:w.grownBy w' none):Below w.heap.size w w':=⟨h.os,h.tape,h.output,h.size,fun k hk=>h.block k hk (by simp)⟩
theorem zgN (w:World) {ops:Array Oper} {rest:List Oper} {o:Oper} {a:Act} {Q:Exit→Act→World→Prop}
 (hg:o.guard=none) (l c:Operand) (hop:o.op=Op.makeSlice 29 l c) (L C:Int) (n:Nat) (hl:a.eval l=.int .i64 L) (hc:a.eval c=.int .i64 C) (hL:L=(n:Int)) (hC:C=(n:Int)) (hn:n≤140737488351232)
 (hK:∀ w',Own w' w.heap.size w'.heap.size (.slice (some ⟨w.heap.size,0,none⟩) n n) n (fun _=>0)→Below w.heap.size w w'→w.heap.size<w'.heap.size→wpList Tryz.prog ops Q rest (a.put o.dst (.slice (some ⟨w.heap.size,0,none⟩) n n)) w') :
 wpList Tryz.prog ops Q (o::rest) a w:=by
 obtain ⟨i0,hi0,hz0,hz1,hz2⟩:=info_parts zhK;refine wpList_make_full w hg l c 29 hop w.heap.size 5 i0 (.int .u8 0) 1 Tryz.underlying29 hi0 hz0 hz1 .i64 .i64 L C n hl hc hL hC (by rw [hz2];omega) (by unfold maxLen;omega) (Nat.le_refl _) ?_;intro w' hown hgrow
 have hown':w'.ownsRow w.heap.size 5 1 (.slice (some ⟨w.heap.size,0,none⟩) n n) n (cellsOf n fun _=>0):=by
  rw [← zfc n]
  have e:(madeCells (Value.int IntKind.u8 0).cells (n*1)).toList=(madeCells #[Value.int .u8 0] n).toList:=by rw [Nat.mul_one];rfl
  rw [← e];exact hown
 have hlt:=(hown'.lt _ rfl).2;exact hK w' ⟨hown',fun k hk=>(hown'.lt k hk).2⟩ (zb8 hgrow) hlt
theorem Own.weaken {w:World} {lo hi lo' hi':Nat} {v:Value} {n:Nat} {f:Nat→Nat} (h:Own w lo hi v n f) (h1:lo'≤lo) (h2:hi≤hi'):Own w lo' hi' v n f:=by
 refine ⟨⟨h.1.1,?_⟩,fun k hk=>Nat.lt_of_lt_of_le (h.2 k hk) h2⟩
 rcases h.1.2 with hn | ⟨g,cap,cur,rfl,hbg,rest⟩
 ·exact .inl hn
 ·exact .inr ⟨g,cap,cur,rfl,by omega,rest⟩
theorem zdF {wr:World} {g:Nat} {x y:Value} {t:TypeId} (h:wr.heap[g]?=some (.cells #[x,y] t (0,0))) :
 wr.cell? ⟨g,0,none⟩=some x∧wr.cell? ⟨g,1,none⟩=some y∧wr.frozen? ⟨g,0,none⟩=false∧wr.frozen? ⟨g,1,none⟩=false:=
 ⟨by rw [cell_of_row wr g 0 _ t _ h];rfl,by rw [cell_of_row wr g 1 _ t _ h];rfl,frozen_of_row wr g 0 _ t h,frozen_of_row wr g 1 _ t h⟩
structure Chg (lo hi:Nat) (w w':World):Prop where
 os:w'.os=w.os
 tape:w'.tape=w.tape
 output:w'.output=w.output
 size:w.heap.size≤w'.heap.size
 block:∀ k,k<w.heap.size→(k<lo∨hi≤k)→w'.heap[k]?=w.heap[k]?
theorem Out.chg {lo hi:Nat} {w w':World} (h:Out lo hi w w'):Chg lo hi w w':=⟨h.os,h.tape,h.output,Nat.le_of_eq h.size.symm,fun k _ hk=>h.block k hk⟩
def Box (w:World) (b:Nat) (cs:Array Value) (t:TypeId):Prop:=w.heap[b]?=some (.cells cs t (0,0))
theorem Box.lt {w:World} {b:Nat} {cs:Array Value} {t:TypeId} (h:Box w b cs t):b<w.heap.size:=(Array.getElem?_eq_some_iff.1 h).1
theorem Box.below {w w':World} {b B:Nat} {cs:Array Value} {t:TypeId} (h:Box w b cs t) (hb:Below B w w') (hB:b<B):Box w' b cs t:=(hb.block b hB).trans h
theorem Box.chg {w w':World} {b lo hi:Nat} {cs:Array Value} {t:TypeId} (h:Box w b cs t) (hb:Chg lo hi w w') (hB:b<lo∨hi≤b):Box w' b cs t:=(hb.block b h.lt hB).trans h
theorem Box.cell {w:World} {b:Nat} {cs:Array Value} {t:TypeId} (h:Box w b cs t) (j:Nat):w.cell? ⟨b,j,none⟩=cs[j]?:=cell_of_row w b j cs t _ h
theorem Box.frozen {w:World} {b:Nat} {cs:Array Value} {t:TypeId} (h:Box w b cs t) (j:Nat):w.frozen? ⟨b,j,none⟩=false:=frozen_of_row w b j cs t h
theorem zaz (w:World) (cs:Array Value) (t:TypeId):Box (w.alloc (.cells cs t)) w.heap.size cs t:=heap_alloc_new w _
theorem zaw {ops:Array Oper} {o:Oper} {a:Act} {w:World} {K:Act→World→Prop} {Q:Exit→Act→World→Prop} {E:Prop}
 (hg:o.guard=none) (n:Nat) (args:Array Operand) (ty:Array TypeId) (hop:o.op=Op.call { callee:=Callee.value (.func n),args:=args,argTypes:=ty }) (vals:Array Value) (hv:args.map a.eval=vals)
 {fn : Func} (hfn : Tryz.prog.funcs[n]? = some fn) (hnm : (fn.name == "runtime.NumGoroutine") = false) (hbd : fn.body.isSome = true)
 {R:Ending→World→Prop} (hc:Calls Tryz.prog n vals w R) (hK:∀ e w',R e w'→∃ v,e=.returned v∧K (a.put o.dst v) w') :
 if Region.wanted o (yielded ops a.tmps)=true then Oper.wp Tryz.prog o a w K Q else E:=by
 have hw:Region.wanted o (yielded ops a.tmps)=true:=by simp [Region.wanted,hg]
 have hn' : ¬ fn.name = "runtime.NumGoroutine" := by simpa using hnm
 have hb':¬ fn.body=none:=by intro h;rw [h] at hbd;cases hbd
 rw [if_pos hw];unfold Oper.wp
 simp [execOp,hop,resolve,invoke,Act.eval,Result.andThen,Deferred.ofValue,callFunc,Oper.upon,hv,hfn,hn',hb']
 refine hc.mono fun e w' h=>?_;obtain ⟨v,rfl,hk⟩:=hK e w' h;exact hk
theorem zb9 (w:World) (o:Obj) (b j:Nat) (h:b<w.heap.size):(w.alloc o).cell? ⟨b,j,none⟩=w.cell? ⟨b,j,none⟩:=World.cell?_of_block (Below.heap_alloc w o b h)
end Go.Proofs.YtonemlgejkapbaaGreat
namespace Go.Proofs.YtonemlgejkapbaaGreat
open Go.ChangeShapes Go.WideShapes Go.ChangeAt Go.RowKit F256
theorem zdz (b off j:Nat):(⟨b,off,none⟩:Addr).add j=⟨b,off+j,none⟩:=by unfold Addr.add;split<;>simp_all
theorem IsRow.rd {w:World} {a:Option Addr} {len cap:Nat} {zs:List Int} (h:IsRow w a len cap zs):∃ f:Nat→Nat,(∀ i,f i<256)∧Rd w w.heap.size (.slice a len cap) len f:=by
 rcases h with ⟨rfl,rfl,rfl,rfl⟩ | ⟨x,rfl,hl,hm,hz,hcell,hwz⟩
 ·exact ⟨fun _=>0,fun _=>Nat.zero_lt_succ _,none,0,rfl,Nat.zero_le _,fun h=>absurd rfl h⟩
 ·have hb:∀ i,0≤zs.getD i 0∧zs.getD i 0≤255:=fun i=>by
   by_cases h:i<zs.length
   ·have e:zs.getD i 0=zs[i]:=by simp [List.getD,h]
    rw [e];exact bounds_u8 (hwz _ (List.getElem_mem h))
   ·have e:zs.getD i 0=0:=by simp [List.getD,h]
    rw [e];omega
  refine ⟨fun i=>(zs.getD i 0).toNat,fun i=>by have:=hb i;show (zs.getD i 0).toNat<256;omega,some x,cap,rfl,by omega,fun h0=>?_⟩;have h00:=hcell 0 (by omega);have hspot:(x.add 0).spot=none:=World.cell?_spot h00;obtain ⟨b,off,spot⟩:=x
  have hspot':spot=none:=by simpa [Addr.add] using hspot
  subst hspot';refine ⟨b,off,rfl,World.block_lt_of_cell? w _ h00,fun i hi=>?_⟩;have hci:=hcell i (by omega)
  have e:(((zs.getD i 0).toNat:Nat):Int)=zs.getD i 0:=by have:=hb i;omega
  rw [e,← zdz];exact hci
end Go.Proofs.YtonemlgejkapbaaGreat
namespace Go.Proofs.YtonemlgejkapbaaGreat
open Go.RowKit F256
def zaZ (n:Nat) (f:Nat→Int):List Value:=(List.range n).map fun i=>Value.int .i64 (f i)
theorem zar (n:Nat) (f:Nat→Int):(zaZ n f).length=n:=by simp [zaZ]
theorem za6 (n:Nat) (f:Nat→Int) (i:Nat) (h:i<n):(zaZ n f)[i]?=some (.int .i64 (f i)):=by simp [zaZ,h]
theorem zhL {n:Nat} {f g:Nat→Int} (h:∀ i,i<n→f i=g i):zaZ n f=zaZ n g:=by
 apply List.map_congr_left
 intro i hi;rw [h i (List.mem_range.mp hi)]
theorem zhb (n:Nat) (f g:Nat→Int) (k:Nat) (x:Int) (hk:k<n) (h:∀ i,i<n→g i=if i=k then x else f i):(zaZ n f).set k (.int .i64 x)=zaZ n g:=by
 apply List.ext_getElem?
 intro i
 by_cases hi:i<n
 ·rw [za6 n g i hi,h i hi,List.getElem?_set]
  by_cases e:k=i
  ·subst e;simp [zar,hk]
  ·rw [if_neg e,if_neg (fun h=>e h.symm),za6 n f i hi]
 ·rw [List.getElem?_eq_none (by rw [List.length_set,zar];omega),List.getElem?_eq_none (by rw [zar];omega)]
theorem zf5 (n:Nat):(madeCells #[Value.int .i64 0] n).toList=zaZ n fun _=>0:=by
 rw [toList_madeCells_one]
 apply List.ext_getElem?
 intro i
 by_cases hi:i<n
 ·rw [za6 _ _ _ hi];simp [hi]
 ·rw [List.getElem?_eq_none (by simp;omega),List.getElem?_eq_none (by rw [zar];omega)]
def OwnI (w:World) (lo hi:Nat) (v:Value) (n:Nat) (f:Nat→Int):Prop:=
 w.ownsRow lo 2 1 v n (zaZ n f)∧∀ k,v.ownBlock=some k→k<hi
def RdI (w:World) (hi:Nat) (v:Value) (n:Nat) (f:Nat→Int):Prop:=
 ∃ ao cap,v=.slice ao n cap∧n≤maxLen∧(n≠0→∃ b off,ao=some ⟨b,off,none⟩∧b<hi∧∀ i,i<n→w.cell? ⟨b,off+i,none⟩=some (.int .i64 (f i)))
theorem OwnI.mono {w:World} {lo hi hi':Nat} {v:Value} {n:Nat} {f:Nat→Int} (h:OwnI w lo hi v n f) (hB:hi≤hi'):OwnI w lo hi' v n f:=
 ⟨h.1,fun k hk=>Nat.lt_of_lt_of_le (h.2 k hk) hB⟩
theorem OwnI.rd {w:World} {lo hi:Nat} {v:Value} {n:Nat} {f:Nat→Int} (h:OwnI w lo hi v n f):RdI w hi v n f:=by
 rcases h.1.2 with ⟨rfl,rfl⟩ | ⟨g,cap,cur,rfl,hbg,hgg,hnc,hcm,rest⟩
 ·exact ⟨none,0,rfl,Nat.zero_le _,fun h=>absurd rfl h⟩
 ·refine ⟨_,_,rfl,Nat.le_trans hnc hcm,fun _=>⟨g,0,rfl,h.2 g rfl,fun i hi=>?_⟩⟩
  have:=h.1.cellAt i (by omega);rw [Nat.zero_add,this,za6 n f i hi]
theorem RdI.below {w w':World} {hi B:Nat} {v:Value} {n:Nat} {f:Nat→Int} (h:RdI w hi v n f) (hb:Below B w w') (hB:hi≤B):RdI w' hi v n f:=by
 obtain ⟨ao,cap,rfl,hn,hc⟩:=h;refine ⟨ao,cap,rfl,hn,fun h0=>?_⟩;obtain ⟨b,off,rfl,hlt,hcell⟩:=hc h0;exact ⟨b,off,rfl,hlt,fun i hi=>(hb.cell (p:=⟨b,off+i,none⟩) (by show b<B;omega)).trans (hcell i hi)⟩
theorem OwnI.congr {w:World} {lo hi:Nat} {v:Value} {n:Nat} {f g:Nat→Int} (h:OwnI w lo hi v n f) (e:∀ i,i<n→f i=g i):OwnI w lo hi v n g:=by
 refine ⟨?_,h.2⟩;rw [← zhL e];exact h.1
theorem OwnI.form {w:World} {lo hi:Nat} {v:Value} {n:Nat} {f:Nat→Int} (h:OwnI w lo hi v n f) (h0:n≠0) :
 ∃ g cap,v=.slice (some ⟨g,0,none⟩) n cap∧lo≤g∧g<hi∧g<w.heap.size∧n≤cap:=by
 rcases h.1.2 with ⟨rfl,rfl⟩ | ⟨g,cap,cur,rfl,hbg,hgg,hnc,_⟩
 ·exact absurd rfl h0
 ·exact ⟨g,cap,rfl,hbg,h.2 g rfl,(Array.getElem?_eq_some_iff.1 hgg).1,hnc⟩
theorem OwnI.slice {w:World} {lo hi:Nat} {v:Value} {n:Nat} {f:Nat→Int} (h:OwnI w lo hi v n f):∃ ao cap,v=.slice ao n cap:=by
 rcases h.1.2 with ⟨rfl,rfl⟩ | ⟨g,cap,cur,rfl,_⟩
 ·exact ⟨_,_,rfl⟩
 ·exact ⟨_,_,rfl⟩
theorem OwnI.store {w:World} {lo hi g cap n:Nat} {f g':Nat→Int} (h:OwnI w lo hi (.slice (some ⟨g,0,none⟩) n cap) n f) (k:Nat) (x:Int) (hk:k<n)
 (e:∀ i,i<n→g' i=if i=k then x else f i):OwnI (w.setCell ⟨g,k,none⟩ (.int .i64 x)) lo hi (.slice (some ⟨g,0,none⟩) n cap) n g':=by
 refine ⟨?_,h.2⟩;have:=(h.1.stored k (.int .i64 x)).1;rw [zhb n f g' k x hk e] at this;exact this
theorem zgO:(Tryz.prog.info? 2).map (fun i=>(i.zero,i.size,i.bytes))=some (some (.int .i64 0),1,8):=by kernel_rfl
theorem zgP (w:World) {ops:Array Oper} {rest:List Oper} {o:Oper} {a:Act} {Q:Exit→Act→World→Prop}
 (hg:o.guard=none) (l c:Operand) (hop:o.op=Op.makeSlice 25 l c) (L C:Int) (n:Nat) (hl:a.eval l=.int .i64 L) (hc:a.eval c=.int .i64 C) (hL:L=(n:Int)) (hC:C=(n:Int)) (hn:n≤1000000000)
 (hK:∀ w',OwnI w' w.heap.size w'.heap.size (.slice (some ⟨w.heap.size,0,none⟩) n n) n (fun _=>0)→Below w.heap.size w w'→w.heap.size<w'.heap.size→wpList Tryz.prog ops Q rest (a.put o.dst (.slice (some ⟨w.heap.size,0,none⟩) n n)) w') :
 wpList Tryz.prog ops Q (o::rest) a w:=by
 obtain ⟨i0,hi0,hz0,hz1,hz2⟩:=info_parts zgO;refine wpList_make_full w hg l c 25 hop w.heap.size 2 i0 (.int .i64 0) 1 Tryz.underlying25 hi0 hz0 hz1 .i64 .i64 L C n hl hc hL hC (by rw [hz2];omega) (by unfold maxLen;omega) (Nat.le_refl _) ?_;intro w' hown hgrow
 have hown':w'.ownsRow w.heap.size 2 1 (.slice (some ⟨w.heap.size,0,none⟩) n n) n (zaZ n fun _=>0):=by
  rw [← zf5 n]
  have e:(madeCells (Value.int IntKind.i64 0).cells (n*1)).toList=(madeCells #[Value.int .i64 0] n).toList:=by rw [Nat.mul_one];rfl
  rw [← e];exact hown
 have hlt:=(hown'.lt _ rfl).2;exact hK w' ⟨hown',fun k hk=>(hown'.lt k hk).2⟩ (zb8 hgrow) hlt
theorem OwnI.weaken {w:World} {lo hi lo' hi':Nat} {v:Value} {n:Nat} {f:Nat→Int} (h:OwnI w lo hi v n f) (h1:lo'≤lo) (h2:hi≤hi'):OwnI w lo' hi' v n f:=by
 refine ⟨⟨h.1.1,?_⟩,fun k hk=>Nat.lt_of_lt_of_le (h.2 k hk) h2⟩
 rcases h.1.2 with hn | ⟨g,cap,cur,rfl,hbg,rest⟩
 ·exact .inl hn
 ·exact .inr ⟨g,cap,cur,rfl,by omega,rest⟩
end Go.Proofs.YtonemlgejkapbaaGreat
namespace Go.Proofs.YtonemlgejkapbaaGreat
open Go.ChangeShapes Go.WideShapes Go.ChangeAt Go.RowKit F256
def IsRowI (w:World) (a:Option Addr) (len cap:Nat) (zs:List Int):Prop:=
 (a=none∧len=0∧cap=0∧zs=[]) ∨
 ∃ x,a=some x∧len≤cap∧cap≤maxLen∧zs.length=cap∧(∀ i,i<zs.length→w.cell? (x.add i)=some (.int .i64 (zs.getD i 0)))∧∀ n∈zs,(Lit.int .i64 n).wf=true
theorem zfd {t e:TypeId} {H:Type} {enc:TypeId×Value→H} {W:World} {a:Option Addr} {len cap:Nat} {d:DataW H} {ps:List MemPlace}
 (hu:Tryz.prog.underlying t=some (.slice e)) (he:Tryz.prog.underlying e=some (.int .i64)) (hc:Tryz.prog.cellsOf e=1)
 (h:DataW.Trod enc Tryz.prog W 0 (fun _=>true) true t (.slice a len cap) d ps):∃ zs,IsRowI W a len cap zs:=by
 obtain ⟨fuel,hf⟩:=h
 rcases open_ints hu he hc hf with ⟨hcs,_⟩ | ⟨x,l,c,zs,hcs,_,hl,hm,hz,_,hcell,hwz⟩
 ·simp [Value.cells] at hcs
  obtain ⟨rfl,rfl,rfl⟩:=hcs;exact ⟨[],.inl ⟨rfl,rfl,rfl,rfl⟩⟩
 ·simp [Value.cells] at hcs
  obtain ⟨rfl,rfl,rfl⟩:=hcs;exact ⟨zs,.inr ⟨_,rfl,hl,hm,by simpa using hz,hcell,hwz⟩⟩
theorem IsRowI.rd {w:World} {a:Option Addr} {len cap:Nat} {zs:List Int} (h:IsRowI w a len cap zs):∃ f:Nat→Int,(∀ i,-9223372036854775808≤f i∧f i≤9223372036854775807)∧RdI w w.heap.size (.slice a len cap) len f:=by
 rcases h with ⟨rfl,rfl,rfl,rfl⟩ | ⟨x,rfl,hl,hm,hz,hcell,hwz⟩
 ·exact ⟨fun _=>0,fun _=>(by show -9223372036854775808≤(0:Int)∧(0:Int)≤9223372036854775807;omega),none,0,rfl,Nat.zero_le _,fun h=>absurd rfl h⟩
 ·have hb:∀ i,-9223372036854775808≤zs.getD i 0∧zs.getD i 0≤9223372036854775807:=fun i=>by
   by_cases h:i<zs.length
   ·have e:zs.getD i 0=zs[i]:=by simp [List.getD,h]
    rw [e];exact bounds_i64 (hwz _ (List.getElem_mem h))
   ·have e:zs.getD i 0=0:=by simp [List.getD,h]
    rw [e];omega
  refine ⟨fun i=>zs.getD i 0,hb,some x,cap,rfl,by omega,fun h0=>?_⟩;have h00:=hcell 0 (by omega);have hspot:(x.add 0).spot=none:=World.cell?_spot h00;obtain ⟨b,off,spot⟩:=x
  have hspot':spot=none:=by simpa [Addr.add] using hspot
  subst hspot';refine ⟨b,off,rfl,World.block_lt_of_cell? w _ h00,fun i hi=>?_⟩;have hci:=hcell i (by omega);rw [← zdz];exact hci
end Go.Proofs.YtonemlgejkapbaaGreat
namespace Go.Proofs.YtonemlgejkapbaaGreat
open Go.RowKit
def catN {β:Type} (n:Nat) (f:Nat→List β):List β:=(List.range n).flatMap f
theorem zbZ {β:Type} (f:Nat→List β):catN 0 f=[]:=rfl
theorem za7 {β:Type} (n:Nat) (f:Nat→List β):catN (n+1) f=catN n f++f n:=by
 unfold catN;rw [List.range_succ,List.flatMap_append]
 simp
theorem zcY {β:Type} {n s:Nat} {f:Nat→List β} (h:∀ i,i<n→(f i).length=s):(catN n f).length=n*s:=by
 induction n with
 | zero=>simp [catN]
 | succ n ih=>rw [za7,List.length_append,ih (fun i hi=>h i (by omega)),h n (by omega),Nat.succ_mul]
theorem zcJ {β:Type} {n:Nat} {f g:Nat→List β} (h:∀ i,i<n→f i=g i):catN n f=catN n g:=by
 induction n with
 | zero=>rfl
 | succ n ih=>rw [za7,za7,ih (fun i hi=>h i (by omega)),h n (by omega)]
theorem zcK {β:Type} {n s:Nat} {f:Nat→List β} (h:∀ i,i<n→(f i).length=s) {i j:Nat} (hi:i<n) (hj:j<s):(catN n f)[i*s+j]?=(f i)[j]?:=by
 induction n with
 | zero=>omega
 | succ n ih=>
  have hl:(catN n f).length=n*s:=zcY (fun i hi=>h i (by omega));rw [za7]
  by_cases c:i<n
  ·have:i*s+j<n*s:=by
    have:=Nat.mul_le_mul_right s (show i+1≤n from c);rw [Nat.succ_mul] at this;omega
   rw [List.getElem?_append_left (by omega),ih (fun i hi=>h i (by omega)) c]
  ·obtain rfl:i=n:=by omega
   rw [List.getElem?_append_right (by omega),hl]
   congr 1
   omega
theorem zir {β:Type} {n s:Nat} {f:Nat→List β} (h:∀ i,i<n→(f i).length=s) {i j:Nat} (hi:i<n) (hj:j<s) (u:β):(catN n f).set (i*s+j) u=catN n (fun k=>if k=i then (f i).set j u else f k):=by
 induction n with
 | zero=>omega
 | succ n ih=>
  have hl:(catN n f).length=n*s:=zcY (fun i hi=>h i (by omega));rw [za7,za7]
  by_cases c:i<n
  ·have:i*s+j<n*s:=by
    have:=Nat.mul_le_mul_right s (show i+1≤n from c);rw [Nat.succ_mul] at this;omega
   rw [List.set_append_left _ _ (by omega),ih (fun i hi=>h i (by omega)) c,if_neg (by omega)]
  ·obtain rfl:i=n:=by omega
   rw [List.set_append_right _ _ (by omega),hl,if_pos rfl]
   congr 1
   ·exact zcJ (fun k hk=>by rw [if_neg (by omega)])
   ·congr 1
    omega
theorem zaA {β:Type} {n:Nat} {f:Nat→List β} {b:β}:b∈catN n f↔∃ i,i<n∧b∈f i:=by
 unfold catN
 simp [List.mem_flatMap]
structure Lay (α:Type) where
 sz:Nat
 rd:World→Nat→α→List Value→Prop
 own:World→α→List Value→List Nat→Prop
 rd_len:∀ {w:World} {hi:Nat} {a:α} {cs:List Value},rd w hi a cs→cs.length=sz
 rd_below:∀ {w w':World} {hi B:Nat} {a:α} {cs:List Value},rd w hi a cs→Below B w w'→hi≤B→rd w' hi a cs
 rd_mono:∀ {w:World} {hi hi':Nat} {a:α} {cs:List Value},rd w hi a cs→hi≤hi'→rd w hi' a cs
 own_len:∀ {w:World} {a:α} {cs:List Value} {L:List Nat},own w a cs L→cs.length=sz
 own_kept:∀ {w w':World} {a:α} {cs:List Value} {L:List Nat},own w a cs L→(∀ b,b∈L→w'.heap[b]?=w.heap[b]?)→own w' a cs L
 own_lt:∀ {w:World} {a:α} {cs:List Value} {L:List Nat},own w a cs L→∀ b,b∈L→b<w.heap.size
 own_rd:∀ {w:World} {hi:Nat} {a:α} {cs:List Value} {L:List Nat},own w a cs L→(∀ b,b∈L→b<hi)→rd w hi a cs
 own_one:∀ {w:World} {a:α} {cs:List Value} {L:List Nat},own w a cs L→∀ u,u∈cs→u.oneCell'=true
def Lay.plain {α:Type} (enc:α→Value) (ok:α→Prop) (one:∀ a,(enc a).oneCell'=true):Lay α where
 sz:=1
 rd:=fun _ _ a cs=>cs=[enc a]∧ok a
 own:=fun _ a cs L=>cs=[enc a]∧ok a∧L=[]
 rd_len:=fun h=>by rw [h.1];rfl
 rd_below:=fun h _ _=>h
 rd_mono:=fun h _=>h
 own_len:=fun h=>by rw [h.1];rfl
 own_kept:=fun h _=>h
 own_lt:=fun h b hb=>by rw [h.2.2] at hb;cases hb
 own_rd:=fun h _=>⟨h.1,h.2.1⟩
 own_one:=fun {w a cs L} h u hu=>by rw [h.1] at hu;simp at hu;subst hu;exact one a
def layI:Lay Int:=Lay.plain (fun a=>.int .i64 a) (fun a=>-9223372036854775808≤a∧a≤9223372036854775807) (fun _=>rfl)
def layB:Lay Bool:=Lay.plain (fun a=>.bool a) (fun _=>True) (fun _=>rfl)
def layS:Lay ByteArray:=Lay.plain (fun a=>.string a) (fun a=>a.size≤maxLen) (fun _=>rfl)
def Lay.two {α β:Type} (A:Lay α) (B:Lay β):Lay (α×β) where
 sz:=A.sz+B.sz
 rd:=fun w hi p cs=>∃ c d,cs=c++d∧A.rd w hi p.1 c∧B.rd w hi p.2 d
 own:=fun w p cs L=>∃ c d K M,cs=c++d∧L=K++M∧A.own w p.1 c K∧B.own w p.2 d M
 rd_len:=fun h=>by obtain ⟨c,d,rfl,h1,h2⟩:=h;rw [List.length_append,A.rd_len h1,B.rd_len h2]
 rd_below:=fun h hb hB=>by obtain ⟨c,d,rfl,h1,h2⟩:=h;exact ⟨c,d,rfl,A.rd_below h1 hb hB,B.rd_below h2 hb hB⟩
 rd_mono:=fun h hb=>by obtain ⟨c,d,rfl,h1,h2⟩:=h;exact ⟨c,d,rfl,A.rd_mono h1 hb,B.rd_mono h2 hb⟩
 own_len:=fun h=>by obtain ⟨c,d,K,M,rfl,rfl,h1,h2⟩:=h;rw [List.length_append,A.own_len h1,B.own_len h2]
 own_kept:=fun h hk=>by
  obtain ⟨c,d,K,M,rfl,rfl,h1,h2⟩:=h;exact ⟨c,d,K,M,rfl,rfl,A.own_kept h1 (fun b hb=>hk b (List.mem_append_left _ hb)),B.own_kept h2 (fun b hb=>hk b (List.mem_append_right _ hb))⟩
 own_lt:=fun h b hb=>by
  obtain ⟨c,d,K,M,rfl,rfl,h1,h2⟩:=h
  rcases List.mem_append.1 hb with h | h
  ·exact A.own_lt h1 b h
  ·exact B.own_lt h2 b h
 own_rd:=fun h hk=>by
  obtain ⟨c,d,K,M,rfl,rfl,h1,h2⟩:=h;exact ⟨c,d,rfl,A.own_rd h1 (fun b hb=>hk b (List.mem_append_left _ hb)),B.own_rd h2 (fun b hb=>hk b (List.mem_append_right _ hb))⟩
 own_one:=fun h u hu=>by
  obtain ⟨c,d,K,M,rfl,rfl,h1,h2⟩:=h
  rcases List.mem_append.1 hu with h | h
  ·exact A.own_one h1 u h
  ·exact B.own_one h2 u h
def Lay.as {α β:Type} (A:Lay α) (to:β→α):Lay β where
 sz:=A.sz
 rd:=fun w hi b cs=>A.rd w hi (to b) cs
 own:=fun w b cs L=>A.own w (to b) cs L
 rd_len:=A.rd_len
 rd_below:=A.rd_below
 rd_mono:=A.rd_mono
 own_len:=A.own_len
 own_kept:=A.own_kept
 own_lt:=A.own_lt
 own_rd:=A.own_rd
 own_one:=A.own_one
def zad:Lay (Nat×(Nat→Nat)) where
 sz:=1
 rd:=fun w hi p cs=>∃ v,cs=[v]∧Rd w hi v p.1 p.2∧∀ i,p.2 i<256
 own:=fun w p cs L=>∃ v,cs=[v]∧L=v.ownBlock.toList∧Own w 0 w.heap.size v p.1 p.2∧∀ i,p.2 i<256
 rd_len:=fun h=>by obtain ⟨v,rfl,_⟩:=h;rfl
 rd_below:=fun h hb hB=>by obtain ⟨v,rfl,h1,h2⟩:=h;exact ⟨v,rfl,h1.below hb hB,h2⟩
 rd_mono:=fun h hb=>by obtain ⟨v,rfl,h1,h2⟩:=h;exact ⟨v,rfl,h1.mono hb,h2⟩
 own_len:=fun h=>by obtain ⟨v,rfl,_⟩:=h;rfl
 own_kept:=fun h hk=>by
  obtain ⟨v,rfl,rfl,h1,h2⟩:=h;have h3:=h1.1.lt;refine ⟨v,rfl,rfl,?_,h2⟩
  rcases h1.1.2 with hn | ⟨g,cap,cur,rfl,hbg,hgg,rest⟩
  ·exact ⟨⟨h1.1.1,.inl hn⟩,fun k hk'=>by rw [hn.1] at hk';cases hk'⟩
  ·have e:=hk g (by simp [Value.ownBlock])
   rw [hgg] at e
   exact ⟨⟨h1.1.1,.inr ⟨g,cap,cur,rfl,hbg,e,rest⟩⟩,fun k hk'=>by
    simp [Value.ownBlock] at hk'
    subst hk'
    exact (Array.getElem?_eq_some_iff.1 e).1⟩
 own_lt:=fun h b hb=>by
  obtain ⟨v,rfl,rfl,h1,h2⟩:=h;exact (h1.1.lt b (by simpa using hb)).2
 own_rd:=fun h hk=>by
  obtain ⟨v,rfl,rfl,h1,h2⟩:=h;refine ⟨v,rfl,?_,h2⟩;obtain ⟨ao,cap,rfl,hm,hc⟩:=h1.rd;refine ⟨ao,cap,rfl,hm,fun h0=>?_⟩;obtain ⟨b,off,rfl,hb,hcell⟩:=hc h0;exact ⟨b,off,rfl,hk b (by simp [Value.ownBlock]),hcell⟩
 own_one:=fun h u hu=>by
  obtain ⟨v,rfl,rfl,h1,h2⟩:=h;obtain ⟨ao,cap,rfl⟩:=h1.slice
  simp at hu
  subst hu;rfl
def Lay.slice {α:Type} (E:Lay α) (t:TypeId):Lay (Nat×(Nat→α)) where
 sz:=1
 rd:=fun w hi p cs=>∃ ao cap,cs=[.slice ao p.1 cap]∧p.1≤maxLen∧(p.1≠0→∃ b off,ao=some ⟨b,off,none⟩∧b<hi∧∀ i,i<p.1→∃ ce,E.rd w hi (p.2 i) ce∧∀ j,j<E.sz→w.cell? ⟨b,off+(i*E.sz+j),none⟩=ce[j]?)
 own:=fun w p cs L=>∃ (v:Value) (ce:Nat→List Value) (Ls:Nat→List Nat),cs=[v]∧L=v.ownBlock.toList++catN p.1 Ls∧w.ownsRow 0 t E.sz v p.1 (catN p.1 ce)∧∀ i,i<p.1→E.own w (p.2 i) (ce i) (Ls i)
 rd_len:=fun h=>by obtain ⟨ao,cap,rfl,_⟩:=h;rfl
 rd_below:=fun h hb hB=>by
  obtain ⟨ao,cap,rfl,hm,hc⟩:=h;refine ⟨ao,cap,rfl,hm,fun h0=>?_⟩;obtain ⟨b,off,rfl,hbh,hcell⟩:=hc h0;refine ⟨b,off,rfl,hbh,fun i hi=>?_⟩;obtain ⟨ce,h1,h2⟩:=hcell i hi;exact ⟨ce,E.rd_below h1 hb hB,fun j hj=>(hb.cell (p:=⟨b,off+(i*E.sz+j),none⟩) (by show b<_;omega)).trans (h2 j hj)⟩
 rd_mono:=fun h hb=>by
  obtain ⟨ao,cap,rfl,hm,hc⟩:=h;refine ⟨ao,cap,rfl,hm,fun h0=>?_⟩;obtain ⟨b,off,rfl,hbh,hcell⟩:=hc h0;refine ⟨b,off,rfl,by omega,fun i hi=>?_⟩;obtain ⟨ce,h1,h2⟩:=hcell i hi;exact ⟨ce,E.rd_mono h1 hb,h2⟩
 own_len:=fun h=>by obtain ⟨v,ce,Ls,rfl,_⟩:=h;rfl
 own_kept:=fun h hk=>by
  obtain ⟨v,ce,Ls,rfl,rfl,h1,h2⟩:=h;refine ⟨v,ce,Ls,rfl,rfl,⟨h1.1,?_⟩,fun i hi=>E.own_kept (h2 i hi) (fun b hb=>hk b (List.mem_append_right _ (zaA.2 ⟨i,hi,hb⟩)))⟩
  rcases h1.2 with hn | ⟨g,cap,cur,rfl,hbg,hgg,rest⟩
  ·exact .inl hn
  ·exact .inr ⟨g,cap,cur,rfl,hbg,(hk g (by simp [Value.ownBlock])).trans hgg,rest⟩
 own_lt:=fun h b hb=>by
  obtain ⟨v,ce,Ls,rfl,rfl,h1,h2⟩:=h
  rcases List.mem_append.1 hb with h | h
  ·exact (h1.lt b (by simpa using h)).2
  ·obtain ⟨i,hi,hbi⟩:=zaA.1 h
   exact E.own_lt (h2 i hi) b hbi
 own_rd:=fun {w} {hi0} {p} {cs} {L} h hk=>by
  obtain ⟨v,ce,Ls,rfl,rfl,h1,h2⟩:=h
  rcases h1.2 with ⟨rfl,h0⟩ | ⟨g,cap,cur,rfl,hbg,hgg,hnc,hcm,hcs,htake⟩
  ·exact ⟨none,0,by rw [h0],by omega,fun h=>absurd h0 h⟩
  ·refine ⟨_,_,rfl,by omega,fun h0=>⟨g,0,rfl,hk g (by simp [Value.ownBlock]),fun i hi=>?_⟩⟩
   refine ⟨ce i,E.own_rd (h2 i hi) (fun b hb=>hk b (List.mem_append_right _ (zaA.2 ⟨i,hi,hb⟩))),fun j hj=>?_⟩
   have hlt:i*E.sz+j<p.1*E.sz:=by
    have:=Nat.mul_le_mul_right E.sz (show i+1≤p.1 from hi);rw [Nat.succ_mul] at this;omega
   rw [Nat.zero_add,h1.cellAt _ hlt,zcK (fun i hi=>E.own_len (h2 i hi)) hi hj]
 own_one:=fun h u hu=>by
  obtain ⟨v,ce,Ls,rfl,rfl,h1,h2⟩:=h
  simp at hu
  subst hu
  rcases h1.2 with ⟨rfl,_⟩ | ⟨g,cap,cur,rfl,_⟩
  ·rfl
  ·rfl
def OwnT {α:Type} (A:Lay α) (w:World) (lo hi:Nat) (a:α) (cs:List Value):Prop:=∃ L,A.own w a cs L∧L.Nodup∧∀ b,b∈L→lo≤b∧b<hi
theorem OwnT.rd {α:Type} {A:Lay α} {w:World} {lo hi:Nat} {a:α} {cs:List Value} (h:OwnT A w lo hi a cs):A.rd w hi a cs:=by
 obtain ⟨L,h1,_,h3⟩:=h;exact A.own_rd h1 (fun b hb=>(h3 b hb).2)
theorem OwnT.below {α:Type} {A:Lay α} {w w':World} {lo hi B:Nat} {a:α} {cs:List Value} (h:OwnT A w lo hi a cs) (hb:Below B w w') (hB:hi≤B):OwnT A w' lo hi a cs:=by
 obtain ⟨L,h1,h2,h3⟩:=h;exact ⟨L,A.own_kept h1 (fun b hb'=>hb.block b (by have:=(h3 b hb').2;omega)),h2,h3⟩
theorem OwnT.chg {α:Type} {A:Lay α} {w w':World} {lo hi lo' hi':Nat} {a:α} {cs:List Value} (h:OwnT A w lo hi a cs) (hc:Chg lo' hi' w w') (hB:hi≤lo'∨hi'≤lo):OwnT A w' lo hi a cs:=by
 obtain ⟨L,h1,h2,h3⟩:=h;exact ⟨L,A.own_kept h1 (fun b hb'=>hc.block b (A.own_lt h1 b hb') (by have:=h3 b hb';omega)),h2,h3⟩
theorem OwnT.weaken {α:Type} {A:Lay α} {w:World} {lo hi lo' hi':Nat} {a:α} {cs:List Value} (h:OwnT A w lo hi a cs) (h1:lo'≤lo) (h2:hi≤hi'):OwnT A w lo' hi' a cs:=by
 obtain ⟨L,k1,k2,k3⟩:=h;exact ⟨L,k1,k2,fun b hb=>by have:=k3 b hb;omega⟩
def CapP (v:Value) (n:Nat):Prop:=∃ ao cap,v=.slice ao n cap∧n≤cap
def zai:Lay (Nat×(Nat→Int)) where
 sz:=1
 rd:=fun w hi p cs=>∃ v,cs=[v]∧(RdI w hi v p.1 p.2∧CapP v p.1)∧∀ i,-9223372036854775808≤p.2 i∧p.2 i≤9223372036854775807
 own:=fun w p cs L=>∃ v,cs=[v]∧L=v.ownBlock.toList∧OwnI w 0 w.heap.size v p.1 p.2∧∀ i,-9223372036854775808≤p.2 i∧p.2 i≤9223372036854775807
 rd_len:=fun h=>by obtain ⟨v,rfl,_⟩:=h;rfl
 rd_below:=fun h hb hB=>by obtain ⟨v,rfl,⟨h1,hcp⟩,h2⟩:=h;exact ⟨v,rfl,⟨h1.below hb hB,hcp⟩,h2⟩
 rd_mono:=fun h hb=>by
  obtain ⟨v,rfl,⟨⟨ao,cap,rfl,hm,hc⟩,hcp⟩,h2⟩:=h;refine ⟨_,rfl,⟨⟨ao,cap,rfl,hm,fun h0=>?_⟩,hcp⟩,h2⟩;obtain ⟨b,off,rfl,hbh,hcell⟩:=hc h0;exact ⟨b,off,rfl,by omega,hcell⟩
 own_len:=fun h=>by obtain ⟨v,rfl,_⟩:=h;rfl
 own_kept:=fun h hk=>by
  obtain ⟨v,rfl,rfl,h1,h2⟩:=h;refine ⟨v,rfl,rfl,?_,h2⟩
  rcases h1.1.2 with hn | ⟨g,cap,cur,rfl,hbg,hgg,rest⟩
  ·exact ⟨⟨h1.1.1,.inl hn⟩,fun k hk'=>by rw [hn.1] at hk';cases hk'⟩
  ·have e:=hk g (by simp [Value.ownBlock])
   rw [hgg] at e
   exact ⟨⟨h1.1.1,.inr ⟨g,cap,cur,rfl,hbg,e,rest⟩⟩,fun k hk'=>by
    simp [Value.ownBlock] at hk'
    subst hk'
    exact (Array.getElem?_eq_some_iff.1 e).1⟩
 own_lt:=fun h b hb=>by
  obtain ⟨v,rfl,rfl,h1,h2⟩:=h;exact (h1.1.lt b (by simpa using hb)).2
 own_rd:=fun {w hi p cs L} h hk=>by
  obtain ⟨v,rfl,rfl,h1,h2⟩:=h
  have hcp:CapP v p.1:=by
   rcases h1.1.2 with ⟨e,h0⟩ | ⟨g,cap,cur,e,hbg,hgg,hnc,_⟩
   ·exact ⟨none,0,by rw [e,h0],by omega⟩
   ·exact ⟨_,cap,e,hnc⟩
  refine ⟨v,rfl,⟨?_,hcp⟩,h2⟩;obtain ⟨ao,cap,rfl,hm,hc⟩:=h1.rd;refine ⟨ao,cap,rfl,hm,fun h0=>?_⟩;obtain ⟨b,off,rfl,hb,hcell⟩:=hc h0;exact ⟨b,off,rfl,hk b (by simp [Value.ownBlock]),hcell⟩
 own_one:=fun h u hu=>by
  obtain ⟨v,rfl,rfl,h1,h2⟩:=h;obtain ⟨ao,cap,rfl⟩:=h1.slice
  simp at hu
  subst hu;rfl
structure ChgL (K:List Nat) (w w':World):Prop where
 os:w'.os=w.os
 tape:w'.tape=w.tape
 output:w'.output=w.output
 size:w.heap.size≤w'.heap.size
 block:∀ b,b<w.heap.size→b∉K→w'.heap[b]?=w.heap[b]?
theorem ChgL.refl (K:List Nat) (w:World):ChgL K w w:=⟨rfl,rfl,rfl,Nat.le_refl _,fun _ _ _=>rfl⟩
theorem ChgL.trans {K:List Nat} {a b c:World} (h:ChgL K a b) (k:ChgL K b c):ChgL K a c:=
 ⟨k.os.trans h.os,k.tape.trans h.tape,k.output.trans h.output,Nat.le_trans h.size k.size,fun i hi hn=>(k.block i (Nat.lt_of_lt_of_le hi h.size) hn).trans (h.block i hi hn)⟩
theorem ChgL.mono {K K':List Nat} {w w':World} (h:ChgL K w w') (hs:∀ b,b∈K→b∈K'):ChgL K' w w':=
 ⟨h.os,h.tape,h.output,h.size,fun b hb hn=>h.block b hb (fun x=>hn (hs b x))⟩
theorem ChgL.store (K:List Nat) (w:World) (b j:Nat) (u:Value) (hb:b∈K):ChgL K w (w.setCell ⟨b,j,none⟩ u):=
 ⟨rfl,rfl,rfl,by simp,fun k hk hn=>heap_setCell_other w ⟨b,j,none⟩ k u (by show k≠b;intro h;subst h;exact hn hb)⟩
theorem ChgL.of_below {K:List Nat} {w w':World} (h:Below w.heap.size w w'):ChgL K w w':=⟨h.os,h.tape,h.output,h.size,fun b hb _=>h.block b hb⟩
theorem ChgL.of_out {K:List Nat} {g:Nat} {w w':World} (h:Out g (g+1) w w') (hg:g∈K):ChgL K w w':=
 ⟨h.os,h.tape,h.output,Nat.le_of_eq h.size.symm,fun b _ hn=>h.block b (by
  by_cases c:b=g
  ·subst c;exact absurd hg hn
  ·omega)⟩
theorem ChgL.chg {K:List Nat} {lo hi:Nat} {w w':World} (h:ChgL K w w') (hK:∀ b,b∈K→lo≤b∧b<hi):Chg lo hi w w':=
 ⟨h.os,h.tape,h.output,h.size,fun b hb hn=>h.block b hb (fun x=>by have:=hK b x;omega)⟩
theorem Lay.own_chgL {α:Type} (A:Lay α) {w w':World} {a:α} {cs:List Value} {K L:List Nat} (h:A.own w a cs L) (hc:ChgL K w w') (hd:∀ b,b∈L→b∉K):A.own w' a cs L:=
 A.own_kept h (fun b hb=>hc.block b (A.own_lt h b hb) (hd b hb))
def upd {β:Type} (f:Nat→β) (i:Nat) (a:β):Nat→β:=fun k=>if k=i then a else f k
theorem zaU {β:Type} (f:Nat→β) (i:Nat) (a:β):upd f i a i=a:=by simp [upd]
theorem zaW {β:Type} (f:Nat→β) {i k:Nat} (a:β) (h:k≠i):upd f i a k=f k:=by simp [upd,h]
structure SlO {α:Type} (E:Lay α) (t:TypeId) (w:World) (g cap n:Nat) (x:Nat→α) (ce:Nat→List Value) (Ls:Nat→List Nat):Prop where
 row:w.ownsRow 0 t E.sz (.slice (some ⟨g,0,none⟩) n cap) n (catN n ce)
 each:∀ i,i<n→E.own w (x i) (ce i) (Ls i)
section
variable {α:Type} {E:Lay α} {t:TypeId} {w w':World} {g cap n:Nat} {x:Nat→α} {ce:Nat→List Value} {Ls:Nat→List Nat}
theorem zbI {p:Nat×(Nat→α)} {cs:List Value} {L:List Nat} (h:(E.slice t).own w p cs L) (h0:p.1≠0):∃ g cap ce Ls,cs=[.slice (some ⟨g,0,none⟩) p.1 cap]∧L=g::catN p.1 Ls∧SlO E t w g cap p.1 p.2 ce Ls:=by
 obtain ⟨v,ce,Ls,rfl,rfl,h1,h2⟩:=h;have h1':=h1
 rcases h1.2 with ⟨rfl,h⟩ | ⟨g,cap,cur,rfl,_⟩
 ·exact absurd h h0
 ·exact ⟨g,cap,ce,Ls,rfl,by simp [Value.ownBlock],h1',h2⟩
theorem SlO.own (h:SlO E t w g cap n x ce Ls):(E.slice t).own w (n,x) [.slice (some ⟨g,0,none⟩) n cap] (g::catN n Ls):=
 ⟨_,ce,Ls,rfl,by simp [Value.ownBlock],h.row,h.each⟩
theorem SlO.lens (h:SlO E t w g cap n x ce Ls):∀ i,i<n→(ce i).length=E.sz:=fun i hi=>E.own_len (h.each i hi)
theorem ziG {i n s j:Nat} (hi:i<n) (hj:j<s):i*s+j<n*s:=by
 have:=Nat.mul_le_mul_right s (show i+1≤n from hi);rw [Nat.succ_mul] at this;omega
theorem SlO.cell (h:SlO E t w g cap n x ce Ls) {i j:Nat} (hi:i<n) (hj:j<E.sz):w.cell? ⟨g,i*E.sz+j,none⟩=(ce i)[j]?:=by
 rw [h.row.cellAt _ (ziG hi hj),zcK h.lens hi hj]
theorem SlO.frozen (h:SlO E t w g cap n x ce Ls) (j:Nat):w.frozen? ⟨g,j,none⟩=false:=h.row.frozenAt j
theorem SlO.lt (h:SlO E t w g cap n x ce Ls):g<w.heap.size:=(h.row.lt g rfl).2
theorem SlO.store (h:SlO E t w g cap n x ce Ls) (nd:(g::catN n Ls).Nodup) {i j:Nat} (hi:i<n) (hj:j<E.sz) (u:Value) {a':α} (ha:E.own w a' ((ce i).set j u) (Ls i)) :
 SlO E t (w.setCell ⟨g,i*E.sz+j,none⟩ u) g cap n (upd x i a') (upd ce i ((ce i).set j u)) Ls:=by
 have hg:∀ k,k<n→∀ b,b∈Ls k→b≠g:=fun k hk b hb hh=>by
  subst hh;exact (List.nodup_cons.1 nd).1 (zaA.2 ⟨k,hk,hb⟩)
 refine ⟨?_,fun k hk=>?_⟩
 ·have:=(h.row.stored (i*E.sz+j) u).1
  rw [zir h.lens hi hj] at this;exact this
 ·by_cases c:k=i
  ·subst c
   rw [zaU,zaU];exact E.own_kept ha (fun b hb=>heap_setCell_other w _ b u (hg k hk b hb))
  ·rw [zaW x a' c,zaW ce _ c]
   exact E.own_kept (h.each k hk) (fun b hb=>heap_setCell_other w _ b u (hg k hk b hb))
theorem zcZ {n:Nat} {Ls:Nat→List Nat} (nd:(catN n Ls).Nodup) {i k:Nat} (hi:i<n) (hk:k<n) (hne:k≠i) {b:Nat} (hb:b∈Ls k):b∉Ls i:=by
 induction n with
 | zero=>omega
 | succ n ih=>
  rw [za7] at nd;obtain ⟨n1,n2,n3⟩:=List.nodup_append.1 nd
  by_cases ci:i=n
  ·subst ci
   intro hbi;exact n3 b (zaA.2 ⟨k,by omega,hb⟩) b hbi rfl
  ·by_cases ck:k=n
   ·subst ck
    intro hbi;exact n3 b (zaA.2 ⟨i,by omega,hbi⟩) b hb rfl
   ·exact ih n1 (by omega) (by omega)
theorem SlO.into (h:SlO E t w g cap n x ce Ls) (nd:(g::catN n Ls).Nodup) {i:Nat} (hi:i<n) (hc:ChgL (Ls i) w w') {a':α} (ha:E.own w' a' (ce i) (Ls i)) :
 SlO E t w' g cap n (upd x i a') ce Ls:=by
 refine ⟨?_,fun k hk=>?_⟩
 ·refine ⟨h.row.1,?_⟩
  rcases h.row.2 with ⟨hn,_⟩ | ⟨g',cap',cur,he,hbg,hgg,rest⟩
  ·cases hn
  ·cases he
   refine .inr ⟨g,cap,cur,rfl,hbg,(hc.block g h.lt (fun hb=>(List.nodup_cons.1 nd).1 (zaA.2 ⟨i,hi,hb⟩))).trans hgg,rest⟩
 ·by_cases c:k=i
  ·subst c
   rw [zaU];exact ha
  ·rw [zaW x a' c]
   exact E.own_chgL (h.each k hk) hc (fun b hb=>zcZ (List.nodup_cons.1 nd).2 hi hk c hb)
theorem SlO.kept (h:SlO E t w g cap n x ce Ls) (hk:∀ b,b∈g::catN n Ls→w'.heap[b]?=w.heap[b]?):SlO E t w' g cap n x ce Ls:=by
 refine ⟨⟨h.row.1,?_⟩,fun i hi=>E.own_kept (h.each i hi) (fun b hb=>hk b (List.mem_cons_of_mem _ (zaA.2 ⟨i,hi,hb⟩)))⟩
 rcases h.row.2 with ⟨hn,_⟩ | ⟨g',cap',cur,he,hbg,hgg,rest⟩
 ·cases hn
 ·cases he
  exact .inr ⟨g,cap,cur,rfl,hbg,(hk g (List.mem_cons_self ..)).trans hgg,rest⟩
end
end Go.Proofs.YtonemlgejkapbaaGreat
namespace Go.Proofs.YtonemlgejkapbaaGreat
open Go.ChangeShapes Go.WideShapes Go.ChangeAt Go.RowKit Go.Deep
structure Opens {α:Type} (A:Lay α) (t:TypeId):Prop where
 size:Tryz.prog.cellsOf t=A.sz
 inh:∃ a:α,True
 opens:∀ {H:Type} {enc:TypeId×Value→H} {W:World} {fuel:Nat} {cs:List Value} {x:DataW H×List MemPlace},DataW.trod enc Tryz.prog W 0 (fun _=>true) true fuel t cs=some x→∃ a,A.rd W W.heap.size a cs
theorem zbP {t:TypeId} (hu:Tryz.prog.underlying t=some (.int .i64)) (hc:Tryz.prog.cellsOf t=1):Opens layI t:=
 ⟨hc,⟨0,trivial⟩,fun h=>by
  obtain ⟨n,rfl,_,hw⟩:=DataW.trod_int hu h
  exact ⟨n,rfl,bounds_i64 hw⟩⟩
theorem zhM {t:TypeId} (hu:Tryz.prog.underlying t=some .bool) (hc:Tryz.prog.cellsOf t=1):Opens layB t:=
 ⟨hc,⟨false,trivial⟩,fun h=>by
  obtain ⟨b,rfl,_⟩:=DataW.trod_bool hu h
  exact ⟨b,rfl,trivial⟩⟩
theorem zi2 {t:TypeId} (hu:Tryz.prog.underlying t=some .string) (hc:Tryz.prog.cellsOf t=1):Opens layS t:=
 ⟨hc,⟨ByteArray.empty,trivial⟩,fun h=>by
  obtain ⟨s,rfl,_,hm⟩:=DataW.trod_string hu h
  exact ⟨s,rfl,hm⟩⟩
theorem zb0 {α:Type} {E:Lay α} {t e u:TypeId} (hs:0<E.sz) (hu:Tryz.prog.underlying t=some (.slice e)) (hc:Tryz.prog.cellsOf t=1) (hE:Opens E e):Opens (E.slice u) t:=by
 obtain ⟨a0,_⟩:=hE.inh;refine ⟨hc,⟨(0,fun _=>a0),trivial⟩,fun {H enc W fuel cs x} h=>?_⟩
 rcases open_slice hu h with ⟨rfl,_⟩ | ⟨a,len,cap,m,n,D,Pl,rfl,_,hl,hm,hmm,_,hel⟩
 ·exact ⟨(0,fun _=>a0),none,0,rfl,Nat.zero_le _,fun h0=>absurd rfl h0⟩
 ·have hlm:len≤m:=by rw [hmm];simp;exact hl
  have each:∀ i,∃ y:α,i<len→∃ ce,E.rd W W.heap.size y ce∧W.cells? 0 (a.add (i*E.sz)) E.sz=some ce:=fun i=>by
   by_cases hi:i<len
   ·obtain ⟨ce,h1,h2⟩:=hel i (by omega)
    obtain ⟨y,hy⟩:=hE.opens h2;rw [hE.size] at h1;exact ⟨y,fun _=>⟨ce,hy,h1⟩⟩
   ·exact ⟨a0,fun h=>absurd h hi⟩
  refine ⟨(len,fun i=>(each i).choose),some a,cap,rfl,by show len≤maxLen;omega,fun h0=>?_⟩;have h0':0<len:=Nat.pos_of_ne_zero h0;obtain ⟨ce0,_,hc0⟩:=(each 0).choose_spec h0';obtain ⟨_,hl0,hcell0⟩:=World.cells?_some hc0;have h00:=hcell0 0 hs;rw [List.getElem?_eq_getElem (by omega)] at h00;have hspot:=World.cell?_spot h00;have hblk:=World.block_lt_of_cell? W _ h00;obtain ⟨b,off,spot⟩:=a
  have hspot':spot=none:=by simpa [Addr.add] using hspot
  subst hspot';refine ⟨b,off,rfl,by simpa [Addr.add] using hblk,fun i hi=>?_⟩;obtain ⟨ce,h1,h2⟩:=(each i).choose_spec hi;obtain ⟨_,_,hcell⟩:=World.cells?_some h2;refine ⟨ce,h1,fun j hj=>?_⟩;have:=hcell j hj;rw [zdz,zdz,Nat.add_assoc] at this;exact this
theorem zdd {t e:TypeId} (hu:Tryz.prog.underlying t=some (.slice e)) (he:Tryz.prog.underlying e=some (.int .u8)) (hc:Tryz.prog.cellsOf t=1) (hc1:Tryz.prog.cellsOf e=1):Opens zad t:=
 ⟨hc,⟨(0,fun _=>0),trivial⟩,fun {H enc W fuel cs x} h=>by
  have hsl:∃ a len cap,cs=[.slice a len cap]:=by
   rcases open_slice hu h with ⟨rfl,_⟩ | ⟨a,len,cap,_,_,_,_,rfl,_⟩
   ·exact ⟨_,_,_,rfl⟩
   ·exact ⟨_,_,_,rfl⟩
  obtain ⟨a,len,cap,rfl⟩:=hsl;obtain ⟨d,ps⟩:=x;obtain ⟨zs,hz⟩:=zf3 (t:=t) (a:=a) (len:=len) (cap:=cap) hu he hc1 ⟨fuel,h⟩;obtain ⟨f,kf,hr⟩:=hz.rd
  exact ⟨(len,f),_,rfl,hr,kf⟩⟩
theorem zfe {t e:TypeId} (hu:Tryz.prog.underlying t=some (.slice e)) (he:Tryz.prog.underlying e=some (.int .i64)) (hc:Tryz.prog.cellsOf t=1) (hc1:Tryz.prog.cellsOf e=1):Opens zai t:=
 ⟨hc,⟨(0,fun _=>0),trivial⟩,fun {H enc W fuel cs x} h=>by
  have hsl:∃ a len cap,cs=[.slice a len cap]∧len≤cap:=by
   rcases open_slice hu h with ⟨rfl,_⟩ | ⟨a,len,cap,_,_,_,_,rfl,_,hl,_⟩
   ·exact ⟨_,_,_,rfl,Nat.le_refl _⟩
   ·exact ⟨_,_,_,rfl,hl⟩
  obtain ⟨a,len,cap,rfl,hl⟩:=hsl;obtain ⟨d,ps⟩:=x;obtain ⟨zs,hz⟩:=zfd (t:=t) (a:=a) (len:=len) (cap:=cap) hu he hc1 ⟨fuel,h⟩;obtain ⟨f,kf,hr⟩:=hz.rd
  exact ⟨(len,f),_,rfl,⟨hr,_,_,rfl,hl⟩,kf⟩⟩
theorem zc0 {α β:Type} {A:Lay α} {t:TypeId} {to:β→α} (back:α→β) (hb:∀ a,to (back a)=a) (h:Opens A t):Opens (A.as to) t:=
 ⟨h.size,by obtain ⟨a,_⟩:=h.inh;exact ⟨back a,trivial⟩,fun h1=>by
  obtain ⟨a,ha⟩:=h.opens h1
  exact ⟨back a,by show A.rd _ _ (to (back a)) _;rw [hb];exact ha⟩⟩
structure OpensFrom {α:Type} (A:Lay α) (fs:Array Field) (i o tot:Nat):Prop where
 fits:o+A.sz=tot
 inh:∃ a:α,True
 opens:∀ {H:Type} {enc:TypeId×Value→H} {W:World} {n:Nat} {cs:List Value} {xs:List (DataW H×List MemPlace)},cs.length=tot→xs.length=fs.size→
  (∀ (k:Nat) (f:Field),fs[k]?=some f→DataW.trod enc Tryz.prog W 0 (fun _=>true) true n f.type ((cs.drop f.offset).take (Tryz.prog.cellsOf f.type))=xs[k]?)→∃ a,A.rd W W.heap.size a (cs.drop o)
theorem zbW {α:Type} {A:Lay α} {fs:Array Field} {i o tot:Nat} {t:TypeId} (hf:∃ f,fs[i]?=some f∧f.type=t∧f.offset=o) (h:Opens A t) (ht:o+A.sz=tot):OpensFrom A fs i o tot:=
 ⟨ht,h.inh,fun {H enc W n cs xs} hl hx hget=>by
  obtain ⟨f,h1,h2,h3⟩:=hf;have hg:=hget i f h1
  have hi:i<xs.length:=by rw [hx];exact (Array.getElem?_eq_some_iff.1 h1).1
  rw [List.getElem?_eq_getElem hi,h2,h3,h.size] at hg;obtain ⟨a,ha⟩:=h.opens hg;rw [List.take_of_length_le (by rw [List.length_drop];omega)] at ha
  exact ⟨a,ha⟩⟩
theorem zav {α β:Type} {A:Lay α} {B:Lay β} {fs:Array Field} {i o tot:Nat} {t:TypeId} (hf:∃ f,fs[i]?=some f∧f.type=t∧f.offset=o) (h:Opens A t) (hB:OpensFrom B fs (i+1) (o+A.sz) tot):OpensFrom (A.two B) fs i o tot:=
 ⟨by show o+(A.sz+B.sz)=tot;have:=hB.fits;omega,by obtain ⟨a,_⟩:=h.inh;obtain ⟨b,_⟩:=hB.inh;exact ⟨(a,b),trivial⟩,fun {H enc W n cs xs} hl hx hget=>by
  obtain ⟨f,h1,h2,h3⟩:=hf;have hg:=hget i f h1
  have hi:i<xs.length:=by rw [hx];exact (Array.getElem?_eq_some_iff.1 h1).1
  rw [List.getElem?_eq_getElem hi,h2,h3,h.size] at hg;obtain ⟨a,ha⟩:=h.opens hg;obtain ⟨b,hb⟩:=hB.opens hl hx hget;refine ⟨(a,b),_,_,?_,ha,hb⟩
  rw [← List.drop_drop,List.take_append_drop]⟩
theorem zbs {α:Type} {A:Lay α} {t:TypeId} {fs:Array Field} (hu:Tryz.prog.underlying t=some (.struct fs)) (hc:Tryz.prog.cellsOf t=A.sz) (h:OpensFrom A fs 0 0 A.sz):Opens A t:=
 ⟨hc,h.inh,fun {H enc W fuel cs x} h1=>by
  obtain ⟨xs,n,_,_,hl,hlen,hget⟩:=DataW.trod_struct hu h1;obtain ⟨a,ha⟩:=h.opens (by rw [hl,hc]) hlen hget
  exact ⟨a,by simpa using ha⟩⟩
end Go.Proofs.YtonemlgejkapbaaGreat
namespace Go.Proofs.YtonemlgejkapbaaGreat
open Go.RowKit
def stN (w:World) (g:Nat):Nat→List Value→World
 | _,[]=>w
 | off,c::cs=>stN (w.setCell ⟨g,off,none⟩ c) g (off+1) cs
def setL {β:Type} (xs:List β):Nat→List β→List β
 | _,[]=>xs
 | off,c::cs=>setL (xs.set off c) (off+1) cs
theorem zbz (g b:Nat) (hb:b≠g):∀ (cs:List Value) (w:World) (off:Nat),(stN w g off cs).heap[b]?=w.heap[b]?
 | [],w,off=>rfl
 | c::cs,w,off=>(zbz g b hb cs _ _).trans (heap_setCell_other w ⟨g,off,none⟩ b c hb)
theorem zbp (g:Nat):∀ (cs:List Value) (w:World) (off:Nat),(stN w g off cs).heap.size=w.heap.size
 | [],w,off=>rfl
 | c::cs,w,off=>(zbp g cs _ _).trans (by simp)
theorem za3 (g:Nat):∀ (cs:List Value) (w:World) (off:Nat),(stN w g off cs).os=w.os∧(stN w g off cs).tape=w.tape∧(stN w g off cs).output=w.output
 | [],w,off=>⟨rfl,rfl,rfl⟩
 | c::cs,w,off=>za3 g cs _ _
theorem zaK {B g:Nat} {w:World} (h:B≤g) (cs:List Value) (off:Nat):Below B w (stN w g off cs):=
 ⟨(za3 g cs w off).1,(za3 g cs w off).2.1,(za3 g cs w off).2.2,Nat.le_of_eq (zbp g cs w off).symm,fun k hk=>zbz g k (by omega) cs w off⟩
theorem zf6 {base cap n s g:Nat} {t:TypeId}:∀ (cs:List Value) (w:World) (off:Nat) (xs:List Value),w.ownsRow base t s (.slice (some ⟨g,0,none⟩) n cap) n xs→(stN w g off cs).ownsRow base t s (.slice (some ⟨g,0,none⟩) n cap) n (setL xs off cs)
 | [],w,off,xs,h=>h
 | c::cs,w,off,xs,h=>zf6 cs _ _ _ (h.stored off c).1
theorem zgQ {β:Type}:∀ (cs:List β) (xs:List β) (off i:Nat),off+cs.length≤xs.length→(setL xs off cs)[i]?=if off≤i∧i<off+cs.length then cs[i-off]? else xs[i]?
 | [],xs,off,i,h=>by simp [setL];omega
 | c::cs,xs,off,i,h=>by
  simp only [List.length_cons] at h
  rw [setL,zgQ cs (xs.set off c) (off+1) i (by simp;omega),List.length_cons]
  by_cases c1:off+1≤i∧i<off+1+cs.length
  ·rw [if_pos c1,if_pos (by omega),show i-off=(i-(off+1))+1 by omega,List.getElem?_cons_succ]
  ·rw [if_neg c1]
   by_cases c2:i=off
   ·subst c2
    rw [if_pos (by omega),List.getElem?_set_self (by omega),Nat.sub_self];rfl
   ·rw [if_neg (by omega),List.getElem?_set_ne (fun h=>c2 h.symm)]
theorem zff {n s:Nat} {ce:Nat→List Value} (h:∀ i,i<n→(ce i).length=s) {k:Nat} (hk:k<n) {cs:List Value} (hcs:cs.length=s):setL (catN n ce) (k*s) cs=catN n (upd ce k cs):=by
 have hl:=zcY h
 have hu:∀ i,i<n→(upd ce k cs i).length=s:=fun i hi=>by
  by_cases c:i=k
  ·subst c;rw [zaU];exact hcs
  ·rw [zaW ce cs c];exact h i hi
 have hl2:=zcY hu
 have hks:k*s+s≤n*s:=by
  have:=Nat.mul_le_mul_right s (show k+1≤n from hk);rw [Nat.succ_mul] at this;exact this
 apply List.ext_getElem?
 intro i;rw [zgQ cs _ _ i (by omega)]
 by_cases hi:i<n*s
 ·have hs:0<s:=by
   rcases Nat.eq_zero_or_pos s with h0 | h0
   ·rw [h0] at hi;omega
   ·exact h0
  have e:i/s*s+i%s=i:=by rw [Nat.mul_comm];exact Nat.div_add_mod i s
  have hq:i/s<n:=(Nat.div_lt_iff_lt_mul hs).2 hi;have hr:=Nat.mod_lt i hs;have g1:=zcK h hq hr;have g2:=zcK hu hq hr;rw [e] at g1 g2;rw [g1,g2]
  by_cases c:i/s=k
  ·have h1:k*s≤i:=by rw [← c];omega
   have h2:i<k*s+s:=by rw [← c];omega
   rw [if_pos ⟨h1,by omega⟩,c,zaU]
   congr 1
   rw [← c];omega
  ·rw [zaW ce cs c,if_neg]
   rintro ⟨h1,h2⟩
   apply c
   have h3:k≤i/s:=(Nat.le_div_iff_mul_le hs).2 h1;have h4:i/s<k+1:=(Nat.div_lt_iff_lt_mul hs).2 (by rw [Nat.succ_mul];omega);omega
 ·rw [if_neg (by omega),List.getElem?_eq_none (by omega),List.getElem?_eq_none (by omega)]
structure SlP {α:Type} (E:Lay α) (t:TypeId) (w:World) (lo g cap n k:Nat) (x:Nat→α) (ce:Nat→List Value) (Ls:Nat→List Nat):Prop where
 row:w.ownsRow lo t E.sz (.slice (some ⟨g,0,none⟩) n cap) n (catN n ce)
 lens:∀ i,i<n→(ce i).length=E.sz
 each:∀ i,i<k→E.own w (x i) (ce i) (Ls i)
 nd:(g::catN k Ls).Nodup
 low:∀ b,b∈catN k Ls→lo≤b
section
variable {α:Type} {E:Lay α} {t:TypeId} {w w':World} {lo g cap n k:Nat} {x:Nat→α} {ce:Nat→List Value} {Ls:Nat→List Nat}
theorem SlP.cell (h:SlP E t w lo g cap n k x ce Ls) {i j:Nat} (hi:i<n) (hj:j<E.sz):w.cell? ⟨g,i*E.sz+j,none⟩=(ce i)[j]?:=by
 rw [h.row.cellAt _ (ziG hi hj),zcK h.lens hi hj]
theorem SlP.frozen (h:SlP E t w lo g cap n k x ce Ls) (j:Nat):w.frozen? ⟨g,j,none⟩=false:=h.row.frozenAt j
theorem SlP.lt (h:SlP E t w lo g cap n k x ce Ls):g<w.heap.size:=(h.row.lt g rfl).2
theorem SlP.mem_lt (h:SlP E t w lo g cap n k x ce Ls):∀ b,b∈catN k Ls→b<w.heap.size:=fun b hb=>by
 obtain ⟨i,hi,hbi⟩:=zaA.1 hb;exact E.own_lt (h.each i hi) b hbi
theorem SlP.below (h:SlP E t w lo g cap n k x ce Ls) (hb:Below w.heap.size w w'):SlP E t w' lo g cap n k x ce Ls:=by
 refine ⟨⟨h.row.1,?_⟩,h.lens,fun i hi=>E.own_kept (h.each i hi) (fun b hb'=>hb.block b (E.own_lt (h.each i hi) b hb')),h.nd,h.low⟩
 rcases h.row.2 with ⟨hn,_⟩ | ⟨g',cap',cur,he,hbg,hgg,rest⟩
 ·cases hn
 ·cases he
  exact .inr ⟨g,cap,cur,rfl,hbg,(hb.block g h.lt).trans hgg,rest⟩
theorem SlP.lay {w1:World} (h1:SlP E t w1 lo g cap n k x ce Ls) (hb:Below w1.heap.size w1 w) (hk:k<n) {a:α} {cs:List Value} {K:List Nat} (ha:E.own w a cs K) (hnd:K.Nodup) (hK:∀ b,b∈K→w1.heap.size≤b) (hlo:lo≤w1.heap.size) :
 SlP E t (stN w g (k*E.sz) cs) lo g cap n (k+1) (upd x k a) (upd ce k cs) (upd Ls k K):=by
 have h:=h1.below hb;have hcs:=E.own_len ha
 have eL:catN (k+1) (upd Ls k K)=catN k Ls++K:=by
  rw [za7,zaU,zcJ (g:=Ls) (fun i hi=>zaW Ls K (by omega))]
 have hg1:=h1.lt
 have hgne:∀ b,b∈catN (k+1) (upd Ls k K)→b≠g:=fun b hb' hh=>by
  subst hh;rw [eL] at hb'
  rcases List.mem_append.1 hb' with h3 | h3
  ·exact (List.nodup_cons.1 h.nd).1 h3
  ·have:=hK b h3;omega
 have own':∀ i,i<k+1→E.own w (upd x k a i) (upd ce k cs i) (upd Ls k K i):=fun i hi=>by
  by_cases c:i=k
  ·subst c;rw [zaU,zaU,zaU];exact ha
  ·rw [zaW x a c,zaW ce cs c,zaW Ls K c];exact h.each i (by omega)
 refine ⟨?_,fun i hi=>?_,fun i hi=>?_,?_,?_⟩
 ·have:=zf6 cs w (k*E.sz) _ h.row
  rw [zff h.lens hk hcs] at this;exact this
 ·by_cases c:i=k
  ·subst c;rw [zaU];exact hcs
  ·rw [zaW ce cs c];exact h.lens i hi
 ·exact E.own_kept (own' i hi) (fun b hb'=>zbz g b (hgne b (zaA.2 ⟨i,hi,hb'⟩)) cs w _)
 ·rw [eL]
  refine List.nodup_cons.2 ⟨fun hb'=>hgne g (by rw [eL];exact hb') rfl,List.nodup_append.2 ⟨(List.nodup_cons.1 h.nd).2,hnd,fun b hb1 c hc1 hh=>?_⟩⟩;subst hh;have k1:=h1.mem_lt b hb1;have k2:=hK b hc1;omega
 ·rw [eL]
  intro b hb'
  rcases List.mem_append.1 hb' with h3 | h3
  ·exact h.low b h3
  ·have:=hK b h3;omega
theorem SlP.done (h:SlP E t w lo g cap n n x ce Ls) (hg:lo≤g):OwnT (E.slice t) w lo w.heap.size (n,x) [.slice (some ⟨g,0,none⟩) n cap]:=by
 refine ⟨g::catN n Ls,⟨_,ce,Ls,rfl,by simp [Value.ownBlock],⟨h.row.1,?_⟩,h.each⟩,h.nd,fun b hb=>?_⟩
 ·rcases h.row.2 with ⟨hn,_⟩ | ⟨g',cap',cur,he,hbg,rest⟩
  ·cases hn
  ·exact .inr ⟨g',cap',cur,he,Nat.zero_le _,rest⟩
 ·rcases List.mem_cons.1 hb with rfl | hb
  ·exact ⟨hg,h.lt⟩
  ·exact ⟨h.low b hb,h.mem_lt b hb⟩
end
def zde (n:Nat):Lay (Nat→Int) where
 sz:=n
 rd:=fun _ _ s cs=>cs=(List.range n).map (fun i=>Value.int .i64 (s i))∧∀ i,-9223372036854775808≤s i∧s i≤9223372036854775807
 own:=fun _ s cs L=>cs=(List.range n).map (fun i=>Value.int .i64 (s i))∧(∀ i,-9223372036854775808≤s i∧s i≤9223372036854775807)∧L=[]
 rd_len:=fun h=>by rw [h.1];simp
 rd_below:=fun h _ _=>h
 rd_mono:=fun h _=>h
 own_len:=fun h=>by rw [h.1];simp
 own_kept:=fun h _=>h
 own_lt:=fun h b hb=>by rw [h.2.2] at hb;cases hb
 own_rd:=fun h _=>⟨h.1,h.2.1⟩
 own_one:=fun h u hu=>by
  rw [h.1] at hu;obtain ⟨i,_,rfl⟩:=List.mem_map.1 hu;rfl
structure BlockD where
 stamp:Int
 bytes:Nat×(Nat→Nat)
structure DriveD where
 wiped:Bool
 blocks:Nat×(Nat→BlockD)
structure RecD where
 kind:Int
 seq:Int
 name:ByteArray
 length:Int
 group:Int
 row:Int
 rows:Nat×(Nat→Int)
 data:Nat×(Nat→Nat)
 delta:Nat×(Nat→Nat)
structure TapeD where
 wiped:Bool
 recs:Nat×(Nat→RecD)
structure WorldD where
 shape:Nat→Int
 groups:Nat×(Nat→Nat×(Nat→DriveD))
 on:Nat×(Nat→Int)
 tapes:Nat×(Nat→TapeD)
 writes:Int
 stop:Int
 down:Bool
def zah:Lay BlockD:=(layI.two zad).as fun d=>(d.stamp,d.bytes)
def zab:Lay DriveD:=(layB.two (zah.slice 43)).as fun d=>(d.wiped,d.blocks)
def zac:Lay RecD:=(layI.two (layI.two (layS.two (layI.two (layI.two (layI.two (zai.two (zad.two zad)))))))).as fun d=>(d.kind,d.seq,d.name,d.length,d.group,d.row,d.rows,d.data,d.delta)
def zag:Lay TapeD:=(layB.two (zac.slice 56)).as fun d=>(d.wiped,d.recs)
def zae:Lay WorldD:=((zde 9).two (((zab.slice 75).slice 76).two (zai.two ((zag.slice 100).two (layI.two (layI.two layB)))))).as fun d=>(d.shape,d.groups,d.on,d.tapes,d.writes,d.stop,d.down)
@[reducible] def rwW (d:WorldD) (a:Option Addr) (k:Nat) (b:Option Addr) (l:Nat) (c:Option Addr) (m:Nat):List Value:=[.int .i64 (d.shape 0),.int .i64 (d.shape 1),.int .i64 (d.shape 2),.int .i64 (d.shape 3),.int .i64 (d.shape 4),.int .i64 (d.shape 5),.int .i64 (d.shape 6),.int .i64 (d.shape 7),.int .i64 (d.shape 8),.slice a d.groups.1 k,.slice b d.on.1 l,.slice c d.tapes.1 m,.int .i64 d.writes,.int .i64 d.stop,.bool d.down]
@[reducible] def rwR (r:RecD) (a:Option Addr) (k:Nat) (b:Option Addr) (l:Nat) (c:Option Addr) (m:Nat):List Value:=[.int .i64 r.kind,.int .i64 r.seq,.string r.name,.int .i64 r.length,.int .i64 r.group,.int .i64 r.row,.slice a r.rows.1 k,.slice b r.data.1 l,.slice c r.delta.1 m]
@[reducible] def rwS (s:Nat→Int):List Value:=[.int .i64 (s 0),.int .i64 (s 1),.int .i64 (s 2),.int .i64 (s 3),.int .i64 (s 4),.int .i64 (s 5),.int .i64 (s 6),.int .i64 (s 7),.int .i64 (s 8)]
@[reducible] def rwZ:List Value:=[.int .i64 0,.int .i64 0,.int .i64 0,.int .i64 0,.int .i64 0,.int .i64 0,.int .i64 0,.int .i64 0,.int .i64 0,.int .i64 0,.slice none 0 0,.slice none 0 0,.slice none 0 0,.int .i64 0,.int .i64 0,.bool false]
@[reducible] def rwY:List Value:=[.int .i64 0,.int .i64 0,.int .i64 0,.int .i64 0,.int .i64 0,.int .i64 0,.int .i64 0,.int .i64 0,.int .i64 0,.slice none 0 0,.slice none 0 0,.slice none 0 0,.int .i64 0,.int .i64 0,.bool false]
@[reducible] def rwV (a b c d e f g h i:Int) (p:Option Addr) (l k:Nat) (q:Option Addr) (m n:Nat) (r:Option Addr) (s t:Nat) (u v:Int) (z:Bool):List Value:=[.int .i64 a,.int .i64 b,.int .i64 c,.int .i64 d,.int .i64 e,.int .i64 f,.int .i64 g,.int .i64 h,.int .i64 i,.slice p l k,.slice q m n,.slice r s t,.int .i64 u,.int .i64 v,.bool z]
end Go.Proofs.YtonemlgejkapbaaGreat
namespace Go.Proofs.YtonemlgejkapbaaGreat
open Go.RowKit F256
theorem zf7 (v:Value) (n:Nat) (f:Nat→Nat) (hi:Nat) (w:World) (h:Rd w hi v n f) (hhi:hi≤w.heap.size) (hn:n≤140737488351232) :
 Calls Tryz.prog 39 #[v] w fun e w'=>∃ v',e=.returned v'∧Own w' w.heap.size w'.heap.size v' n f∧Below w.heap.size w w':=by
 obtain ⟨ao,cap,rfl,hm,hc⟩:=h
 go_enter Tryz.func39,Tryz.ntmps39
 go_wp2_with (at_make;refine zgN _ rfl _ _ rfl _ _ n rfl rfl rfl rfl hn ?_;intro w1 hown1 hb1 hz1)
 go_loopw [4] (fun i wr=>∃ k:Nat,k≤n∧i=.int .i64 k∧Own wr w.heap.size w1.heap.size (.slice (some ⟨w.heap.size,0,none⟩) n n) n (fun i=>if i<k then f i else 0)∧Below w.heap.size w wr∧wr.heap.size=w1.heap.size) (fun i _=>n-(intOf i).toNat)
 case atStart=>exact ⟨0,Nat.zero_le _,rfl,hown1,hb1,rfl⟩
 case round=>
  obtain ⟨k,hk,rfl,hown,hb,hz⟩:=hrel
  by_cases hlt:k<n
  ·obtain ⟨b,off,rfl,hblt,hcell⟩:=hc (by omega)
   have hck:wr.cell? ⟨b,off+k,none⟩=some (.int .u8 (f k)):=(hb.cell (p:=⟨b,off+k,none⟩) (by show b<w.heap.size;omega)).trans (hcell k hlt)
   have hco:wr.cell? ⟨w.heap.size,k,none⟩=some (.int .u8 (0:Nat)):=by
    have:=hown.1.cellAt k (by omega);rw [this,zaY _ _ _ hlt,if_neg (Nat.lt_irrefl k)]
   have hfo:wr.frozen? ⟨w.heap.size,k,none⟩=false:=hown.1.frozenAt k
   have R:Own (wr.setCell ⟨w.heap.size,k,none⟩ (.int .u8 (f k))) w.heap.size w1.heap.size (.slice (some ⟨w.heap.size,0,none⟩) n n) n (fun i=>if i<k+1 then f i else 0):=
    hown.store k (f k) hlt (fun i _=>by by_cases e:i=k<;>simp [e]<;>by_cases e':i<k<;>simp [e']<;>omega)
   have R2:Below w.heap.size w (wr.setCell ⟨w.heap.size,k,none⟩ (.int .u8 (f k))):=hb.setCell (Nat.le_refl _) _;clear hown hb hc hcell;go_wp2
   go_roundw
   case rel=>exact ⟨k+1,by omega,by go_num,R,R2,by simpa using hz⟩
   case measure=>simp [intOf];omega
  ·have hkn:k=n:=by omega
   subst hkn;go_wp2;go_ret;exact ⟨_,rfl,(hown.congr (fun i hi=>by simp [hi])).mono (by omega),hb⟩
theorem zfg (v1 v2:Value) (n:Nat) (f:Nat→Nat) (h1 h2:Nat) (w:World) (r1:Rd w h1 v1 n f) (r2:Rd w h2 v2 n f) :
 Calls Tryz.prog 52 #[v1,v2] w fun e w'=>e=.returned (.bool true)∧Below w.heap.size w w':=by
 obtain ⟨ao,cap,rfl,hm,hc⟩:=r1;obtain ⟨ao2,cap2,rfl,_,hc2⟩:=r2;unfold maxLen at hm
 go_enter Tryz.func52,Tryz.ntmps52
 go_wp2
 go_loopw [5] (fun i wr=>∃ k:Nat,k≤n∧i=.int .i64 k∧∃ m,wr=w.drewN m) (fun i _=>n-(intOf i).toNat)
 case atStart=>exact ⟨0,Nat.zero_le _,rfl,0,rfl⟩
 case round=>
  obtain ⟨k,hk,rfl,m,rfl⟩:=hrel
  by_cases hlt:k<n
  ·obtain ⟨b,off,rfl,hblt,hcell⟩:=hc (by omega)
   obtain ⟨b2,off2,rfl,hblt2,hcell2⟩:=hc2 (by omega);have hck:w.cell? ⟨b,off+k,none⟩=some (.int .u8 (f k)):=hcell k hlt;have hck2:w.cell? ⟨b2,off2+k,none⟩=some (.int .u8 (f k)):=hcell2 k hlt;clear hc hc2 hcell hcell2;go_wp2
   go_quiet (fail)
   go_wp2
   go_roundw
   case rel=>exact ⟨k+1,by omega,by go_num,_,rfl⟩
   case measure=>simp [intOf];omega
  ·have hkn:k=n:=by omega
   subst hkn;go_wp2;go_ret;exact ⟨rfl,below_drewN (Below.refl _ _) _⟩
def zdw (k:Nat):Nat→Nat:=fun i=>(k+i)%256
theorem zdG (j k:Nat):((zdw j k:Nat):Int)=((j:Int)+(k:Int))%256:=by unfold zdw;omega
theorem zc1 (v:Value) (n:Nat) (f:Nat→Nat) (lo hi:Nat) (j:Nat) (hj:j≤1000000000) (hn:n≤1000000000) (w:World) (h:Own w lo hi v n f) :
 Calls Tryz.prog 56 #[v,.int .i64 j] w fun e w'=>e=.returned (.int .i64 ((j+n:Nat):Int))∧Own w' lo hi v n (zdw j)∧Out lo hi w w':=by
 by_cases h0:n=0
 ·subst h0
  have hown:=h.congr (g:=zdw j) (fun i hi=>by omega);obtain ⟨ao,cap,rfl⟩:=h.slice;clear h
  go_enter Tryz.func56,Tryz.ntmps56
  go_wp2
  go_loopw [1,5] (fun x i wr=>x=.int .i64 j∧i=.int .i64 0∧wr=w) (fun _ _ _=>0)
  case atStart=>exact ⟨rfl,rfl,rfl⟩
  case round=>
   obtain ⟨rfl,rfl,rfl⟩:=hrel;go_wp2;go_ret;exact ⟨zcp (by omega),hown,Out.refl _ _ _⟩
 ·obtain ⟨g,cap,rfl,hlo,hhi,hgs,hcap⟩:=h.form h0
  go_enter Tryz.func56,Tryz.ntmps56
  go_wp2
  go_loopw [1,5] (fun x i wr=>∃ k:Nat,k≤n∧i=.int .i64 k∧x=.int .i64 ((j+k:Nat):Int)∧Own wr lo hi (.slice (some ⟨g,0,none⟩) n cap) n (fun i=>if i<k then zdw j i else f i)∧Out lo hi w wr) (fun _ i _=>n-(intOf i).toNat)
  case atStart=>exact ⟨0,Nat.zero_le _,rfl,rfl,h,Out.refl _ _ _⟩
  case round=>
   obtain ⟨k,hk,rfl,rfl,hown,hout⟩:=hrel
   by_cases hlt:k<n
   ·have hco:∃ u,wr.cell? ⟨g,k,none⟩=some u:=by
     have:=hown.1.cellAt k (by omega);exact ⟨_,by rw [this,zaY _ _ _ hlt]⟩
    obtain ⟨u,hco⟩:=hco;have hfo:wr.frozen? ⟨g,k,none⟩=false:=hown.1.frozenAt k
    have R:Own (wr.setCell ⟨g,k,none⟩ (.int .u8 (zdw j k))) lo hi (.slice (some ⟨g,0,none⟩) n cap) n (fun i=>if i<k+1 then zdw j i else f i):=
     hown.store k (zdw j k) hlt (fun i _=>by by_cases e:i=k<;>simp [e]<;>by_cases e':i<k<;>simp [e']<;>omega)
    have R2:Out lo hi w (wr.setCell ⟨g,k,none⟩ (.int .u8 (zdw j k))):=hout.trans (zdE wr lo hi g k _ hlo hhi);clear hown hout h;go_wp2
    go_roundw
    case rel=>exact ⟨k+1,by omega,by go_num,zbr (by omega),by rw [← zdG];exact R,by rw [← zdG];exact R2⟩
    case measure=>simp [intOf];omega
   ·have hkn:k=n:=by omega
    subst hkn;go_wp2;go_ret;exact ⟨rfl,hown.congr (fun i hi=>by simp [hi]),hout⟩
theorem zeE (v:Value) (n:Nat) (hi:Nat) (j:Nat) (hj:j≤1000000000) (hn:n≤1000000000) (w:World) (h:Rd w hi v n (zdw j)) :
 Calls Tryz.prog 159 #[v,.int .i64 j] w fun e w'=>e=.returned (.int .i64 ((j+n:Nat):Int))∧w'=w:=by
 obtain ⟨ao,cap,rfl,hm,hc⟩:=h
 go_enter Tryz.func159,Tryz.ntmps159
 go_wp2
 go_loop [1,5] (fun x i=>∃ k:Nat,k≤n∧i=.int .i64 k∧x=.int .i64 ((j+k:Nat):Int)) (fun _ i=>n-(intOf i).toNat)
 case atStart=>exact ⟨0,Nat.zero_le _,rfl,rfl⟩
 case round=>
  obtain ⟨k,hk,rfl,rfl⟩:=hrel
  by_cases hlt:k<n
  ·obtain ⟨b,off,rfl,hblt,hcell⟩:=hc (by omega)
   have hck:w.cell? ⟨b,off+k,none⟩=some (.int .u8 (((j:Int)+(k:Int))%256)):=by rw [← zdG];exact hcell k hlt
   clear hc hcell;go_wp2
   go_round
   case rel=>exact ⟨k+1,by omega,by go_num,zbr (by omega)⟩
   case measure=>simp [intOf];omega
  ·have hkn:k=n:=by omega
   subst hkn;go_wp2;go_ret;exact ⟨rfl,rfl⟩
def zfh (n:Nat) (e:Nat→Value):List Value:=(List.range n).map e
abbrev nilS:Value:=.slice none 0 0
def RdM (w:World) (hi:Nat) (v:Value) (R:Nat) (n:Nat→Nat) (f:Nat→Nat→Nat):Prop:=
 ∃ (ao:Option Addr) (cap:Nat) (e:Nat→Value),v=.slice ao R cap∧R≤maxLen∧(R≠0→∃ b off,ao=some ⟨b,off,none⟩∧b<hi∧∀ i,i<R→w.cell? ⟨b,off+i,none⟩=some (e i))∧
  ∀ i,i<R→Rd w hi (e i) (n i) (f i)
def zi3 (g R:Nat) (e:Nat→Value):Prop:=(∀ i,i<R→(e i).ownBlock≠some g)∧∀ i j,i<R→j<R→i≠j→∀ k,(e i).ownBlock=some k→(e j).ownBlock≠some k
structure OwnE (w:World) (lo hi:Nat) (v:Value) (R:Nat) (n:Nat→Nat) (f:Nat→Nat→Nat) (g cap:Nat) (e:Nat→Value):Prop where
 val:v=.slice (some ⟨g,0,none⟩) R cap
 low:lo≤g
 high:g<hi
 row:w.ownsRow lo 29 1 v R (zfh R e)
 each:∀ i,i<R→Own w lo hi (e i) (n i) (f i)
 apart:zi3 g R e
def OwnM (w:World) (lo hi:Nat) (v:Value) (R:Nat) (n:Nat→Nat) (f:Nat→Nat→Nat):Prop:=∃ g cap e,OwnE w lo hi v R n f g cap e
def sumN (n:Nat→Nat):Nat→Nat
 | 0=>0
 | k+1=>sumN n k+n k
theorem zbc (n:Nat→Nat):∀ {a b:Nat},a≤b→sumN n a≤sumN n b
 | a,0,h=>by
  have:a=0:=by omega
  subst this;exact Nat.le_refl _
 | a,b+1,h=>by
  by_cases e:a=b+1
  ·subst e;exact Nat.le_refl _
  ·have:=zbc n (show a≤b by omega)
   simp only [sumN]
   omega
end Go.Proofs.YtonemlgejkapbaaGreat
namespace Go.Proofs.YtonemlgejkapbaaGreat
open Go.ChangeShapes Go.WideShapes Go.ChangeAt Go.RowKit Go.Deep F256
end Go.Proofs.YtonemlgejkapbaaGreat
namespace Go.Proofs.YtonemlgejkapbaaGreat
def zak (s:Nat→Int):Value:=.agg #[.int .i64 (s 0),.int .i64 (s 1),.int .i64 (s 2),.int .i64 (s 3),.int .i64 (s 4),.int .i64 (s 5),.int .i64 (s 6),.int .i64 (s 7),.int .i64 (s 8)]
end Go.Proofs.YtonemlgejkapbaaGreat
namespace Go.Proofs.YtonemlgejkapbaaGreat
open Go.ChangeShapes Go.WideShapes Go.ChangeAt Go.RowKit
end Go.Proofs.YtonemlgejkapbaaGreat
namespace Go.Proofs.YtonemlgejkapbaaGreat
open Go.ChangeShapes Go.WideShapes Go.ChangeAt Go.RowKit Go.Deep
theorem zgR:Opens zac 53:=
 zc0 (A:=layI.two (layI.two (layS.two (layI.two (layI.two (layI.two (zai.two (zad.two zad)))))))) (fun p=>⟨p.1,p.2.1,p.2.2.1,p.2.2.2.1,p.2.2.2.2.1,p.2.2.2.2.2.1,p.2.2.2.2.2.2.1,p.2.2.2.2.2.2.2.1,p.2.2.2.2.2.2.2.2⟩) (fun _=>rfl)
  (zbs Tryz.underlying53 (show _=9 by kernel_rfl)
   (zav ⟨_,rfl,rfl,rfl⟩ (zbP Tryz.underlying2 (by kernel_rfl))
   (zav ⟨_,rfl,rfl,rfl⟩ (zbP Tryz.underlying2 (by kernel_rfl))
   (zav ⟨_,rfl,rfl,rfl⟩ (zi2 Tryz.underlying9 (by kernel_rfl))
   (zav ⟨_,rfl,rfl,rfl⟩ (zbP Tryz.underlying2 (by kernel_rfl))
   (zav ⟨_,rfl,rfl,rfl⟩ (zbP Tryz.underlying2 (by kernel_rfl))
   (zav ⟨_,rfl,rfl,rfl⟩ (zbP Tryz.underlying2 (by kernel_rfl))
   (zav ⟨_,rfl,rfl,rfl⟩ (zfe Tryz.underlying25 Tryz.underlying2 (by kernel_rfl) (by kernel_rfl))
   (zav ⟨_,rfl,rfl,rfl⟩ (zdd Tryz.underlying29 Tryz.underlying5 (by kernel_rfl) (by kernel_rfl))
   (zbW ⟨_,rfl,rfl,rfl⟩ (zdd Tryz.underlying29 Tryz.underlying5 (by kernel_rfl) (by kernel_rfl)) rfl))))))))))
set_option maxRecDepth 20000 in
theorem zcQ {α:Type} {A:Lay α} {fs:Array Field} {H:Type} {enc:TypeId×Value→H} {W:World} {r:Reach} {b0:Nat} {v:Value} {d:DataW H} {ps:List MemPlace} {t:TypeId}
 (hO:Opens A t) (hu:Tryz.prog.underlying t=some (.struct fs)) (hval:Value.okWide Tryz.prog W r b0 t v) (h:DataW.Trod enc Tryz.prog W 0 (fun _=>true) true t v d ps) :
 ∃ cs a,v=.agg cs.toArray∧A.rd W W.heap.size a cs:=by
 obtain ⟨cs,rfl,hsz⟩:=okWide_struct hu hval;obtain ⟨fuel,hfu⟩:=h;have hfu':DataW.trod enc Tryz.prog W 0 (fun _=>true) true fuel t cs.toList=some (d,ps):=hfu;obtain ⟨a,ha⟩:=hO.opens hfu';exact ⟨cs.toList,a,by simp,ha⟩
theorem zhN {α β:Type} {A:Lay α} {B:Lay β} {t:TypeId} (h:Opens A t) (hs:A.sz=B.sz) (hi:∃ b:β,True) (f:∀ W hi a cs,A.rd W hi a cs→∃ b,B.rd W hi b cs):Opens B t:=
 ⟨h.size.trans hs,hi,fun h1=>by
  obtain ⟨a,ha⟩:=h.opens h1
  exact f _ _ _ _ ha⟩
def nine (a0 a1 a2 a3 a4 a5 a6 a7 a8:Int):Nat→Int
 | 0=>a0 | 1=>a1 | 2=>a2 | 3=>a3 | 4=>a4 | 5=>a5 | 6=>a6 | 7=>a7 | 8=>a8 | _=>0
theorem zf8:Opens (zde 9) 23:=by
 refine zhN (A:=layI.two (layI.two (layI.two (layI.two (layI.two (layI.two (layI.two (layI.two layI)))))))) ?_ rfl ⟨fun _=>0,trivial⟩ ?_
 ·exact zbs Tryz.underlying23 (show _=9 by kernel_rfl)
   (zav ⟨_,rfl,rfl,rfl⟩ (zbP Tryz.underlying2 (by kernel_rfl))
   (zav ⟨_,rfl,rfl,rfl⟩ (zbP Tryz.underlying2 (by kernel_rfl))
   (zav ⟨_,rfl,rfl,rfl⟩ (zbP Tryz.underlying2 (by kernel_rfl))
   (zav ⟨_,rfl,rfl,rfl⟩ (zbP Tryz.underlying2 (by kernel_rfl))
   (zav ⟨_,rfl,rfl,rfl⟩ (zbP Tryz.underlying2 (by kernel_rfl))
   (zav ⟨_,rfl,rfl,rfl⟩ (zbP Tryz.underlying2 (by kernel_rfl))
   (zav ⟨_,rfl,rfl,rfl⟩ (zbP Tryz.underlying2 (by kernel_rfl))
   (zav ⟨_,rfl,rfl,rfl⟩ (zbP Tryz.underlying2 (by kernel_rfl))
   (zbW ⟨_,rfl,rfl,rfl⟩ (zbP Tryz.underlying2 (by kernel_rfl)) rfl)))))))))
 ·intro W hi a cs h
  obtain ⟨a0,a1,a2,a3,a4,a5,a6,a7,a8⟩:=a;obtain ⟨_,_,rfl,⟨rfl,k0⟩,_,_,rfl,⟨rfl,k1⟩,_,_,rfl,⟨rfl,k2⟩,_,_,rfl,⟨rfl,k3⟩,_,_,rfl,⟨rfl,k4⟩,_,_,rfl,⟨rfl,k5⟩,_,_,rfl,⟨rfl,k6⟩,_,_,rfl,⟨rfl,k7⟩,⟨rfl,k8⟩⟩:=h;refine ⟨nine a0 a1 a2 a3 a4 a5 a6 a7 a8,rfl,fun i=>?_⟩
  match i with
  | 0=>exact k0
  | 1=>exact k1
  | 2=>exact k2
  | 3=>exact k3
  | 4=>exact k4
  | 5=>exact k5
  | 6=>exact k6
  | 7=>exact k7
  | 8=>exact k8
  | n+9=>exact ⟨show (-9223372036854775808:Int)≤0 by decide,show (0:Int)≤9223372036854775807 by decide⟩
theorem zhc:Opens zah 31:=
 zc0 (A:=layI.two zad) (fun p=>⟨p.1,p.2⟩) (fun _=>rfl)
  (zbs Tryz.underlying31 (show _=2 by kernel_rfl)
   (zav ⟨_,rfl,rfl,rfl⟩ (zbP Tryz.underlying2 (by kernel_rfl))
   (zbW ⟨_,rfl,rfl,rfl⟩ (zdd Tryz.underlying29 Tryz.underlying5 (by kernel_rfl) (by kernel_rfl)) rfl)))
theorem zhd:Opens zab 140:=
 zc0 (A:=layB.two (zah.slice 43)) (fun p=>⟨p.1,p.2⟩) (fun _=>rfl)
  (zbs Tryz.underlying140 (show _=2 by kernel_rfl)
   (zav ⟨_,rfl,rfl,rfl⟩ (zhM Tryz.underlying4 (by kernel_rfl))
   (zbW ⟨_,rfl,rfl,rfl⟩ (zb0 (by decide) Tryz.underlying138 (by kernel_rfl) zhc) rfl)))
theorem zhO:Opens zag 109:=
 zc0 (A:=layB.two (zac.slice 56)) (fun p=>⟨p.1,p.2⟩) (fun _=>rfl)
  (zbs Tryz.underlying109 (show _=2 by kernel_rfl)
   (zav ⟨_,rfl,rfl,rfl⟩ (zhM Tryz.underlying4 (by kernel_rfl))
   (zbW ⟨_,rfl,rfl,rfl⟩ (zb0 (by decide) Tryz.underlying107 (by kernel_rfl) zgR) rfl)))
theorem zhe:Opens zae 28:=
 zc0 (A:=(zde 9).two (((zab.slice 75).slice 76).two (zai.two ((zag.slice 100).two (layI.two (layI.two layB)))))) (fun p=>⟨p.1,p.2.1,p.2.2.1,p.2.2.2.1,p.2.2.2.2.1,p.2.2.2.2.2.1,p.2.2.2.2.2.2⟩) (fun _=>rfl)
  (zbs Tryz.underlying28 (show _=15 by kernel_rfl)
   (zav ⟨_,rfl,rfl,rfl⟩ zf8
   (zav ⟨_,rfl,rfl,rfl⟩ (zb0 (by decide) Tryz.underlying24 (by kernel_rfl) (zb0 (by decide) Tryz.underlying105 (by kernel_rfl) zhd))
   (zav ⟨_,rfl,rfl,rfl⟩ (zfe Tryz.underlying25 Tryz.underlying2 (by kernel_rfl) (by kernel_rfl))
   (zav ⟨_,rfl,rfl,rfl⟩ (zb0 (by decide) Tryz.underlying26 (by kernel_rfl) zhO)
   (zav ⟨_,rfl,rfl,rfl⟩ (zbP Tryz.underlying2 (by kernel_rfl))
   (zav ⟨_,rfl,rfl,rfl⟩ (zbP Tryz.underlying2 (by kernel_rfl))
   (zbW ⟨_,rfl,rfl,rfl⟩ (zhM Tryz.underlying4 (by kernel_rfl)) rfl))))))))
end Go.Proofs.YtonemlgejkapbaaGreat
namespace Go.Proofs.YtonemlgejkapbaaGreat
open Go.RowKit
theorem zhP (zs:List Value) (hz:0<zs.length) (n:Nat):(madeCells zs.toArray (n*zs.length)).toList=catN n (fun _=>zs):=by
 have hl:∀ i,i<n→((fun _=>zs:Nat→List Value) i).length=zs.length:=fun _ _=>rfl
 apply List.ext_getElem?
 intro i
 by_cases hi:i<n*zs.length
 ·have e:i/zs.length*zs.length+i%zs.length=i:=by rw [Nat.mul_comm];exact Nat.div_add_mod i zs.length
  have hq:i/zs.length<n:=(Nat.div_lt_iff_lt_mul hz).2 hi;have hr:=Nat.mod_lt i hz;have g1:=zcK hl hq hr;rw [e] at g1;rw [g1]
  simp only [madeCells,Array.toList_map,Array.toList_range,List.getElem?_map,List.getElem?_range hi,Option.map_some]
  simp [hr]
 ·rw [List.getElem?_eq_none (by simp [size_madeCells];omega),List.getElem?_eq_none (by rw [zcY hl];omega)]
theorem zbM {α:Type} (E:Lay α) (zs:List Value) (T e:TypeId) (by_:Nat) (hs:0<E.sz) (hzs:zs.length=E.sz) (hu:Tryz.prog.underlying T=some (.slice e)) (hi:(Tryz.prog.info? e).map (fun i=>(i.zero.map (·.cells),i.size,i.bytes))=some (some zs.toArray,E.sz,by_))
 (x:Nat→α) (Ls:Nat→List Nat) (w:World) {ops:Array Oper} {rest:List Oper} {o:Oper} {a:Act} {Q:Exit→Act→World→Prop}
 (hg:o.guard=none) (l c:Operand) (hop:o.op=Op.makeSlice T l c) (L C:Int) (n:Nat) (hl:a.eval l=.int .i64 L) (hc:a.eval c=.int .i64 C) (hL:L=(n:Int)) (hC:C=(n:Int)) (hn:by_*n≤281474976710656) (hm:n≤maxLen)
 (hK:∀ w',SlP E e w' w.heap.size w.heap.size n n 0 x (fun _=>zs) Ls→Below w.heap.size w w'→wpList Tryz.prog ops Q rest (a.put o.dst (.slice (some ⟨w.heap.size,0,none⟩) n n)) w') :
 wpList Tryz.prog ops Q (o::rest) a w:=by
 obtain ⟨i0,hi0⟩:∃ i0,Tryz.prog.info? e=some i0:=by
  cases h:Tryz.prog.info? e with
  | none=>rw [h] at hi;cases hi
  | some i0=>exact ⟨i0,rfl⟩
 rw [hi0] at hi
 simp only [Option.map_some,Option.some.injEq,Prod.mk.injEq] at hi
 obtain ⟨h1,h2,h3⟩:=hi
 obtain ⟨z,hz,hzc⟩:∃ z,i0.zero=some z∧z.cells=zs.toArray:=by
  cases h:i0.zero with
  | none=>rw [h] at h1;cases h1
  | some z=>rw [h] at h1;exact ⟨z,rfl,by simpa using h1⟩
 refine wpList_make_full w hg l c T hop w.heap.size e i0 z E.sz hu hi0 hz h2 .i64 .i64 L C n hl hc hL hC (by rw [h3];exact hn) hm (Nat.le_refl _) ?_;intro w' hown hgrow;rw [hzc,← hzs,zhP zs (by omega)] at hown;rw [hzs] at hown;exact hK w' ⟨hown,fun _ _=>hzs,fun i hi=>by omega,by simp [zbZ],fun b hb=>by rw [zbZ] at hb;cases hb⟩ (zb8 hgrow)
structure SlG {α:Type} (E:Lay α) (t:TypeId) (w:World) (lo:Nat) (v:Value) (n:Nat) (x:Nat→α) (ce:Nat→List Value) (Ls:Nat→List Nat):Prop where
 row:w.ownsRow lo t E.sz v n (catN n ce)
 each:∀ i,i<n→E.own w (x i) (ce i) (Ls i)
 nd:(v.ownBlock.toList++catN n Ls).Nodup
 low:∀ b,b∈catN n Ls→lo≤b
section
variable {α:Type} {E:Lay α} {t:TypeId} {w w':World} {lo n:Nat} {v:Value} {x:Nat→α} {ce:Nat→List Value} {Ls:Nat→List Nat}
theorem SlG.nil (x:Nat→α) (w:World) (lo:Nat):SlG E t w lo (.slice none 0 0) 0 x (fun _=>[]) (fun _=>[]):=⟨World.ownsRow_nil w lo t E.sz,fun i hi=>by omega,by simp [Value.ownBlock,zbZ],fun b hb=>by rw [zbZ] at hb;cases hb⟩
theorem SlG.mem_lt (h:SlG E t w lo v n x ce Ls):∀ b,b∈v.ownBlock.toList++catN n Ls→b<w.heap.size:=fun b hb=>by
 rcases List.mem_append.1 hb with h1 | h1
 ·exact (h.row.lt b (by simpa using h1)).2
 ·obtain ⟨i,hi,hbi⟩:=zaA.1 h1
  exact E.own_lt (h.each i hi) b hbi
theorem SlG.kept (h:SlG E t w lo v n x ce Ls) (hk:∀ b,b∈v.ownBlock.toList++catN n Ls→w'.heap[b]?=w.heap[b]?):SlG E t w' lo v n x ce Ls:=by
 refine ⟨⟨h.row.1,?_⟩,fun i hi=>E.own_kept (h.each i hi) (fun b hb=>hk b (List.mem_append_right _ (zaA.2 ⟨i,hi,hb⟩))),h.nd,h.low⟩
 rcases h.row.2 with hn | ⟨g,cap,cur,rfl,hbg,hgg,rest⟩
 ·exact .inl hn
 ·exact .inr ⟨g,cap,cur,rfl,hbg,(hk g (by simp [Value.ownBlock])).trans hgg,rest⟩
theorem SlG.below (h:SlG E t w lo v n x ce Ls) (hb:Below w.heap.size w w'):SlG E t w' lo v n x ce Ls:=h.kept (fun b hb'=>hb.block b (h.mem_lt b hb'))
theorem SlG.own (h:SlG E t w lo v n x ce Ls):OwnT (E.slice t) w lo w.heap.size (n,x) [v]:=by
 refine ⟨v.ownBlock.toList++catN n Ls,⟨v,ce,Ls,rfl,rfl,⟨h.row.1,?_⟩,h.each⟩,h.nd,fun b hb=>⟨?_,h.mem_lt b hb⟩⟩
 ·rcases h.row.2 with hn | ⟨g,cap,cur,rfl,hbg,rest⟩
  ·exact .inl hn
  ·exact .inr ⟨g,cap,cur,rfl,Nat.zero_le _,rest⟩
 ·rcases List.mem_append.1 hb with h1 | h1
  ·exact (h.row.lt b (by simpa using h1)).1
  ·exact h.low b h1
theorem SlG.grown (h:SlG E t w lo v n x ce Ls) {a:α} {cs:List Value} {K:List Nat} (ha:E.own w a cs K) (hnd:K.Nodup) (hK:∀ b,b∈K→lo≤b∧b∉v.ownBlock.toList++catN n Ls) {v':Value}
 (hr:w'.ownsRow lo t E.sz v' (n+1) (catN n ce++cs)) (hg:w.grownBy w' v.ownBlock) (h5:v'.ownBlock=v.ownBlock∨v'.ownBlock=some w.heap.size) :
 SlG E t w' lo v' (n+1) (upd x n a) (upd ce n cs) (upd Ls n K):=by
 have eL:catN (n+1) (upd Ls n K)=catN n Ls++K:=by
  rw [za7,zaU,zcJ (g:=Ls) (fun i hi=>zaW Ls K (by omega))]
 have eC:catN (n+1) (upd ce n cs)=catN n ce++cs:=by
  rw [za7,zaU,zcJ (g:=ce) (fun i hi=>zaW ce cs (by omega))]
 have nd1:=List.nodup_append.1 h.nd
 have hall:∀ b,b∈catN n Ls++K→b<w.heap.size∧some b≠v.ownBlock:=fun b hb=>by
  rcases List.mem_append.1 hb with h1 | h1
  ·exact ⟨h.mem_lt b (List.mem_append_right _ h1),fun hh=>nd1.2.2 b (by rw [← hh];simp) b h1 rfl⟩
  ·exact ⟨E.own_lt ha b h1,fun hh=>(hK b h1).2 (List.mem_append_left _ (by rw [← hh];simp))⟩
 refine ⟨by rw [eC];exact hr,fun i hi=>?_,?_,?_⟩
 ·by_cases c:i=n
  ·subst c
   rw [zaU,zaU,zaU]
   exact E.own_kept ha (fun b hb=>by
    have:=hall b (List.mem_append_right _ hb)
    exact hg.block b this.1 this.2)
  ·rw [zaW x a c,zaW ce cs c,zaW Ls K c]
   exact E.own_kept (h.each i (by omega)) (fun b hb=>by
    have:=hall b (List.mem_append_left _ (zaA.2 ⟨i,by omega,hb⟩))
    exact hg.block b this.1 this.2)
 ·rw [eL]
  refine List.nodup_append.2 ⟨?_,List.nodup_append.2 ⟨nd1.2.1,hnd,fun b hb c hc hh=>?_⟩,fun b hb c hc hh=>?_⟩
  ·cases hv:v'.ownBlock with
   | none=>simp
   | some g=>simp
  ·subst hh
   exact (hK b hc).2 (List.mem_append_right _ hb)
  ·subst hh
   have h3:=hall b hc
   have h4:v'.ownBlock=some b:=by simpa using hb
   rcases h5 with h5 | h5
   ·exact h3.2 (by rw [← h5,h4])
   ·rw [h5] at h4
    simp at h4
    omega
 ·rw [eL]
  intro b hb
  rcases List.mem_append.1 hb with h1 | h1
  ·exact h.low b h1
  ·exact (hK b h1).1
end
theorem zi4 (b j:Nat):(⟨b,0,none⟩:Addr).add j=⟨b,j,none⟩:=by unfold Addr.add;split<;>simp_all
end Go.Proofs.YtonemlgejkapbaaGreat
namespace Go.Proofs.YtonemlgejkapbaaGreat
open Go.RowKit F256
def zcq (k:Nat):Nat→Int:=fun i=>(k:Int)+(i:Int)
theorem zcL (j k:Nat):zcq j k=(j:Int)+(k:Int):=rfl
theorem zfi (v:Value) (n:Nat) (f:Nat→Int) (hi:Nat) (w:World) (h:RdI w hi v n f) (hhi:hi≤w.heap.size) (hn:n≤1000000000) :
 Calls Tryz.prog 37 #[v] w fun e w'=>∃ v',e=.returned v'∧OwnI w' w.heap.size w'.heap.size v' n f∧Below w.heap.size w w':=by
 obtain ⟨ao,cap,rfl,hm,hc⟩:=h
 go_enter Tryz.func37,Tryz.ntmps37
 go_wp2_with (at_make;refine zgP _ rfl _ _ rfl _ _ n rfl rfl rfl rfl hn ?_;intro w1 hown1 hb1 hz1)
 go_loopw [4] (fun i wr=>∃ k:Nat,k≤n∧i=.int .i64 k∧OwnI wr w.heap.size w1.heap.size (.slice (some ⟨w.heap.size,0,none⟩) n n) n (fun i=>if i<k then f i else 0)∧Below w.heap.size w wr∧wr.heap.size=w1.heap.size) (fun i _=>n-(intOf i).toNat)
 case atStart=>exact ⟨0,Nat.zero_le _,rfl,hown1,hb1,rfl⟩
 case round=>
  obtain ⟨k,hk,rfl,hown,hb,hz⟩:=hrel
  by_cases hlt:k<n
  ·obtain ⟨b,off,rfl,hblt,hcell⟩:=hc (by omega)
   have hck:wr.cell? ⟨b,off+k,none⟩=some (.int .i64 (f k)):=(hb.cell (p:=⟨b,off+k,none⟩) (by show b<w.heap.size;omega)).trans (hcell k hlt)
   have hco:wr.cell? ⟨w.heap.size,k,none⟩=some (.int .i64 0):=by
    have:=hown.1.cellAt k (by omega);rw [this,za6 _ _ _ hlt,if_neg (Nat.lt_irrefl k)]
   have hfo:wr.frozen? ⟨w.heap.size,k,none⟩=false:=hown.1.frozenAt k
   have R:OwnI (wr.setCell ⟨w.heap.size,k,none⟩ (.int .i64 (f k))) w.heap.size w1.heap.size (.slice (some ⟨w.heap.size,0,none⟩) n n) n (fun i=>if i<k+1 then f i else 0):=
    hown.store k (f k) hlt (fun i _=>by by_cases e:i=k<;>simp [e]<;>by_cases e':i<k<;>simp [e']<;>omega)
   have R2:Below w.heap.size w (wr.setCell ⟨w.heap.size,k,none⟩ (.int .i64 (f k))):=hb.setCell (Nat.le_refl _) _;clear hown hb hc hcell;go_wp2
   go_roundw
   case rel=>exact ⟨k+1,by omega,by go_num,R,R2,by simpa using hz⟩
   case measure=>simp [intOf];omega
  ·have hkn:k=n:=by omega
   subst hkn;go_wp2;go_ret;exact ⟨_,rfl,(hown.congr (fun i hi=>by simp [hi])).mono (by omega),hb⟩
theorem zeF (v1 v2:Value) (n:Nat) (f:Nat→Int) (h1 h2:Nat) (w:World) (r1:RdI w h1 v1 n f) (r2:RdI w h2 v2 n f) :
 Calls Tryz.prog 50 #[v1,v2] w fun e w'=>e=.returned (.bool true)∧Below w.heap.size w w':=by
 obtain ⟨ao,cap,rfl,hm,hc⟩:=r1;obtain ⟨ao2,cap2,rfl,_,hc2⟩:=r2;unfold maxLen at hm
 go_enter Tryz.func50,Tryz.ntmps50
 go_wp2
 go_loopw [5] (fun i wr=>∃ k:Nat,k≤n∧i=.int .i64 k∧∃ m,wr=w.drewN m) (fun i _=>n-(intOf i).toNat)
 case atStart=>exact ⟨0,Nat.zero_le _,rfl,0,rfl⟩
 case round=>
  obtain ⟨k,hk,rfl,m,rfl⟩:=hrel
  by_cases hlt:k<n
  ·obtain ⟨b,off,rfl,hblt,hcell⟩:=hc (by omega)
   obtain ⟨b2,off2,rfl,hblt2,hcell2⟩:=hc2 (by omega);have hck:w.cell? ⟨b,off+k,none⟩=some (.int .i64 (f k)):=hcell k hlt;have hck2:w.cell? ⟨b2,off2+k,none⟩=some (.int .i64 (f k)):=hcell2 k hlt;clear hc hc2 hcell hcell2;go_wp2
   go_quiet (fail)
   go_wp2
   go_roundw
   case rel=>exact ⟨k+1,by omega,by go_num,_,rfl⟩
   case measure=>simp [intOf];omega
  ·have hkn:k=n:=by omega
   subst hkn;go_wp2;go_ret;exact ⟨rfl,below_drewN (Below.refl _ _) _⟩
theorem zee (v:Value) (n:Nat) (f:Nat→Int) (lo hi:Nat) (j:Nat) (hj:j≤1000000000) (hn:n≤1000000000) (w:World) (h:OwnI w lo hi v n f) :
 Calls Tryz.prog 54 #[v,.int .i64 j] w fun e w'=>e=.returned (.int .i64 ((j+n:Nat):Int))∧OwnI w' lo hi v n (zcq j)∧Out lo hi w w':=by
 by_cases h0:n=0
 ·subst h0
  have hown:=h.congr (g:=zcq j) (fun i hi=>by omega);obtain ⟨ao,cap,rfl⟩:=h.slice;clear h
  go_enter Tryz.func54,Tryz.ntmps54
  go_wp2
  go_loopw [1,5] (fun x i wr=>x=.int .i64 j∧i=.int .i64 0∧wr=w) (fun _ _ _=>0)
  case atStart=>exact ⟨rfl,rfl,rfl⟩
  case round=>
   obtain ⟨rfl,rfl,rfl⟩:=hrel;go_wp2;go_ret;exact ⟨zcp (by omega),hown,Out.refl _ _ _⟩
 ·obtain ⟨g,cap,rfl,hlo,hhi,hgs,hcap⟩:=h.form h0
  go_enter Tryz.func54,Tryz.ntmps54
  go_wp2
  go_loopw [1,5] (fun x i wr=>∃ k:Nat,k≤n∧i=.int .i64 k∧x=.int .i64 ((j+k:Nat):Int)∧OwnI wr lo hi (.slice (some ⟨g,0,none⟩) n cap) n (fun i=>if i<k then zcq j i else f i)∧Out lo hi w wr) (fun _ i _=>n-(intOf i).toNat)
  case atStart=>exact ⟨0,Nat.zero_le _,rfl,rfl,h,Out.refl _ _ _⟩
  case round=>
   obtain ⟨k,hk,rfl,rfl,hown,hout⟩:=hrel
   by_cases hlt:k<n
   ·have hco:∃ u,wr.cell? ⟨g,k,none⟩=some u:=by
     have:=hown.1.cellAt k (by omega);exact ⟨_,by rw [this,za6 _ _ _ hlt]⟩
    obtain ⟨u,hco⟩:=hco;have hfo:wr.frozen? ⟨g,k,none⟩=false:=hown.1.frozenAt k
    have R:OwnI (wr.setCell ⟨g,k,none⟩ (.int .i64 (zcq j k))) lo hi (.slice (some ⟨g,0,none⟩) n cap) n (fun i=>if i<k+1 then zcq j i else f i):=
     hown.store k (zcq j k) hlt (fun i _=>by by_cases e:i=k<;>simp [e]<;>by_cases e':i<k<;>simp [e']<;>omega)
    have R2:Out lo hi w (wr.setCell ⟨g,k,none⟩ (.int .i64 (zcq j k))):=hout.trans (zdE wr lo hi g k _ hlo hhi);clear hown hout h;go_wp2
    go_roundw
    case rel=>exact ⟨k+1,by omega,by go_num,zbr (by omega),by rw [← zcL];exact R,by rw [← zcL];exact R2⟩
    case measure=>simp [intOf];omega
   ·have hkn:k=n:=by omega
    subst hkn;go_wp2;go_ret;exact ⟨rfl,hown.congr (fun i hi=>by simp [hi]),hout⟩
end Go.Proofs.YtonemlgejkapbaaGreat
