/- A region that draws its order and whose last store writes a cell that it has read: loads are taken first, whatever comes up; the condition on the world need not hold behind that store, since it waits for all that is taken first. -/
import Derived.OrdersHeld
import Derived.Deep.RegionHeld
import Derived.Defers
import Derived.Recover
import Derived.Laws.LoneSync
import Derived.Laws.Pointers
import Derived.RegionCalls
import Derived.Test.YtdhnekgfhpanfaaGreatZPtrustah
set_option linter.unusedVariables false
set_option linter.unusedSimpArgs false
set_option maxHeartbeats 16000000
namespace Go.Proofs.YtdhnekgfhpanfaaGreat
open Go.RowKit
section
variable {P:Program} {ops:Array Oper} {Q:Exit→Act→World→Prop} {md:Region.Mode} {S:World→Prop} {L:Nat}
def zbI (P:Program) (md:Region.Mode) (ops:Array Oper) (Q:Exit→Act→World→Prop) (S:World→Prop) (L:Nat):Nat→Array Bool→Act→World→Prop
 | 0,listed,a,w=>Region.ready md ops listed=[]∧Q .normal a w
 | fuel+1,listed,a,w=>
  (Region.ready md ops listed=[]→Q .normal a w)∧
  ∀ i∈Region.ready md ops listed,wpOp P ops Q i (fun a' w'=>(i≠L→S w')∧zbI P md ops Q S L fuel (listed.setIfInBounds i true) a' w') a w
theorem zeo:∀ (fuel:Nat) (listed:Array Bool) (a:Act) (w:World),zbI P md ops Q S L fuel listed a w→wpAny P md ops Q fuel listed a w
 | 0,_,_,_,h=>h
 | fuel+1,_,_,_,h=>⟨h.1,fun i hi=>wpOp_mono (fun a' w' h'=>zeo fuel _ a' w' h'.2) (h.2 i hi)⟩
def zdh (md:Region.Mode) (ops:Array Oper) (listed:Array Bool):Prop:=
 ∀ j oj,ops[j]?=some oj→listed.getD j false=true→∀ e∈oj.after,Region.binds md e=true→listed.getD e.on false=true
def zdZ (md:Region.Mode) (ops:Array Oper) (listed:Array Bool):Bool:=
 (List.range ops.size).all fun j=>!listed.getD j false||((ops[j]?).map (·.after.all fun e=>!Region.binds md e||listed.getD e.on false)).getD false
theorem zhT {listed:Array Bool} (h:zdZ md ops listed=true):zdh md ops listed:=fun j oj hj hl e he hb=>by
 unfold zdZ at h;have hlt:j<ops.size:=(Array.getElem?_eq_some_iff.1 hj).1;have h1:=List.all_eq_true.1 h j (List.mem_range.2 hlt);rw [hl,hj] at h1
 simp only [Bool.not_true,Bool.false_or,Option.map_some,Option.getD_some,Array.all_eq_true_iff_forall_mem] at h1
 have h2:=h1 e he;rw [hb] at h2
 simpa using h2
theorem zgo {listed:Array Bool} {j:Nat} (h:zdh md ops listed) (hj:j∈Region.ready md ops listed):zdh md ops (listed.setIfInBounds j true):=fun k ok hk hl e he hb=>by
 obtain ⟨_,o,ho,hall⟩:=mem_ready.1 hj
 by_cases c:j=k
 ·subst c
  rw [hk] at ho
  cases ho
  exact getD_set_true (hall e he hb)
 ·rw [getD_set_ne false c] at hl
  exact getD_set_true (h k ok hk hl e he hb)
def depB (md:Region.Mode) (ops:Array Oper):Nat→Nat→Nat→Bool
 | 0,l,i=>l==i
 | n+1,l,i=>l==i||((ops[l]?).map (·.after.any fun e=>Region.binds md e&&depB md ops n e.on i)).getD false
theorem zep {listed:Array Bool} (hc:zdh md ops listed):∀ (n l i:Nat),depB md ops n l i=true→listed.getD l false=true→listed.getD i false=true
 | 0,l,i,h,hl=>by
  unfold depB at h
  have:l=i:=by simpa using h
  rw [← this];exact hl
 | n+1,l,i,h,hl=>by
  unfold depB at h
  rcases Bool.or_eq_true _ _ ▸ h with h1 | h1
  ·have:l=i:=by simpa using h1
   rw [← this];exact hl
  ·cases ho:ops[l]? with
   | none=>rw [ho] at h1;simp at h1
   | some o=>
    rw [ho] at h1
    simp only [Option.map_some,Option.getD_some] at h1
    obtain ⟨k,hk,hbk⟩:=Array.any_eq_true.1 h1;obtain ⟨hb,hd⟩:=Bool.and_eq_true _ _ ▸ hbk;exact zep hc n _ i hd (hc l o ho hl _ (Array.getElem_mem hk) hb)
theorem zhU {listed:Array Bool} (hc:zdh md ops listed) {n i:Nat} (hne:L≠i) (hd:depB md ops n L i=true) (hi:listed.getD i false=false):L∉Region.ready md ops listed:=fun hL=>by
 obtain ⟨_,o,ho,hall⟩:=mem_ready.1 hL
 cases n with
 | zero=>unfold depB at hd;exact hne (by simpa using hd)
 | succ n=>
  unfold depB at hd
  rcases Bool.or_eq_true _ _ ▸ hd with h1 | h1
  ·exact hne (by simpa using h1)
  ·rw [ho] at h1
   simp only [Option.map_some,Option.getD_some] at h1
   obtain ⟨k,hk,hbk⟩:=Array.any_eq_true.1 h1;obtain ⟨hb,hd'⟩:=Bool.and_eq_true _ _ ▸ hbk;have:=zep hc n _ i hd' (hall _ (Array.getElem_mem hk) hb);rw [hi] at this
   cases this
theorem zcM {listed:Array Bool} {i:Nat} (h:listed.getD i true=false):listed.getD i false=false:=by
 rcases Nat.lt_or_ge i listed.size with h' | h'
 ·simpa [h'] using h
 ·simp [Array.getElem?_eq_none h'] at h
theorem zfv {i:Nat} {oi:Oper} {v:Value} (hi:ops[i]?=some oi) (hsel:∀ (j:Nat) (o:Oper) cs b,ops[j]?=some o→o.op≠.select cs b)
 (hQ:∀ c a w,Q (.panic c) (a.put oi.dst v) w→Q (.panic c) a w) (hLi:L≠i) {n:Nat} (hd:depB md ops n L i=true) :
 ∀ (fuel:Nat) (listed:Array Bool) (a:Act) (w:World),zdh md ops listed→
  (∀ j oj,ops[j]?=some oj→j≠i→listed.getD j true=false→(∀ e∈oj.after,Region.binds md e=true→e.on≠i)→oi.apart ops oj=true)→
  i∈Region.ready md ops listed→YieldsIf P ops S oi v a→S w→
  zbI P md ops Q S L fuel (listed.setIfInBounds i true) (a.put oi.dst v) w→zbI P md ops Q S L (fuel+1) listed a w:=by
 intro fuel
 induction fuel with
 | zero=>
  intro listed a w _ _ hr hy hS H;refine ⟨fun h=>(by rw [h] at hr;cases hr),fun j hj=>?_⟩
  by_cases hji:j=i
  ·subst hji;exact hy.wpOp hi hS ⟨fun _=>hS,H⟩
  ·have:=ready_mono hj hji
   rw [H.1] at this
   cases this
 | succ fuel ih=>
  intro listed a w hcl hfree hr hy hS H;refine ⟨fun h=>(by rw [h] at hr;cases hr),fun j hj=>?_⟩
  by_cases hji:j=i
  ·subst hji;exact hy.wpOp hi hS ⟨fun _=>hS,H⟩
  ·have hjL:j≠L:=fun h=>by
    subst h;exact zhU hcl hLi hd (zcM (mem_ready.1 hr).1) hj
   have h1:=H.2 j (ready_mono hj hji);obtain ⟨hjun,oj,hoj,hall⟩:=mem_ready.1 hj
   have hnot:∀ e∈oj.after,Region.binds md e=true→e.on≠i:=fun e he hb heq=>by
    have h1:=hall e he hb;have h0:=zcM (mem_ready.1 hr).1;rw [heq,h0] at h1
    cases h1
   have h2:=wpOp_putIf hoj (hfree j oj hoj hji hjun hnot) (fun cs b=>hsel i oi cs b hi) (fun cs b=>hsel j oj cs b hoj) hQ hy h1
   have hfree':∀ k ok,ops[k]?=some ok→k≠i→(listed.setIfInBounds j true).getD k true=false→
    (∀ e∈ok.after,Region.binds md e=true→e.on≠i)→oi.apart ops ok=true:=fun k ok hk hki hun hno=>by
    refine hfree k ok hk hki ?_ hno
    by_cases hjk:j=k
    ·subst hjk;exact hjun
    ·rw [getD_set_ne true hjk] at hun;exact hun
   refine wpOp_mono (fun a' w' h3=>⟨h3.2.1,ih (listed.setIfInBounds j true) a' w' (zgo hcl hj) hfree' (ready_mono hr (Ne.symm hji)) h3.1 (h3.2.1 hjL) ?_⟩) h2;rw [Array.setIfInBounds_comm _ _ hji];exact h3.2.2
theorem zaf {i:Nat} {oi:Oper} {v:Value} {fuel:Nat} {listed:Array Bool} {a:Act} {w:World} (n:Nat) (hi:ops[i]?=some oi)
 (hs:(Region.noSelect ops&&Region.free md ops listed i&&(Region.ready md ops listed).contains i&&!(L==i)&&depB md ops n L i&&zdZ md ops listed)=true)
 (hQ:∀ c a w,Q (.panic c) (a.put oi.dst v) w→Q (.panic c) a w) (hy:YieldsIf P ops S oi v a) (hS:S w)
 (h:zbI P md ops Q S L fuel (listed.setIfInBounds i true) (a.put oi.dst v) w):zbI P md ops Q S L (fuel+1) listed a w:=by
 simp only [Bool.and_eq_true,Bool.not_eq_true',beq_eq_false_iff_ne] at hs
 obtain ⟨⟨⟨⟨⟨h1,h2⟩,h3⟩,h4⟩,h5⟩,h6⟩:=hs;exact zfv hi (Region.noSelect_spec h1) hQ h4 h5 fuel listed a w (zhT h6) (Region.free_spec hi h2) (by simpa using h3) hy hS h
theorem ziU (i:Nat) {oi:Oper} {v:Value} {fuel:Nat} {listed:Array Bool} {a:Act} {w:World} (hi:ops[i]?=some oi) (hy:∀ w,S w→(execOp a.eval oi).run P w=.ok (.value v) w) (h:zbI P md ops Q S L fuel (listed.setIfInBounds i true) (a.put oi.dst v) w) (hs:(Region.noSelect ops && Region.free md ops listed i && (Region.ready md ops listed).contains i && !(L==i) && depB md ops 16 L i && zdZ md ops listed)=true:=by kernel_rfl) (hQ:∀ c a w,Q (.panic c) (a.put oi.dst v) w→Q (.panic c) a w:=by exact fun _ _ _ h=>h) (hw:Region.wanted oi (yielded ops a.tmps)=true:=by first | rfl | kernel_rfl) (hS:S w:=by assumption):zbI P md ops Q S L (fuel+1) listed a w:=zaf 16 hi hs hQ (Or.inl ⟨hw,hy⟩) hS h
theorem ziV (i:Nat) {oi:Oper} {v:Value} {fuel:Nat} {listed:Array Bool} {a:Act} {w:World} (hi:ops[i]?=some oi) (h:zbI P md ops Q S L fuel (listed.setIfInBounds i true) (a.put oi.dst v) w) (hy:∀ w,S w→(execOp a.eval oi).run P w=.ok (.value v) w:=by intro w' hSw;(try dsimp only at hSw);(repeat (have _q:=And.left hSw;replace hSw:=And.right hSw));go_simp;try with_reducible rfl) (hs:(Region.noSelect ops && Region.free md ops listed i && (Region.ready md ops listed).contains i && !(L==i) && depB md ops 16 L i && zdZ md ops listed)=true:=by kernel_rfl) (hQ:∀ c a w,Q (.panic c) (a.put oi.dst v) w→Q (.panic c) a w:=by exact fun _ _ _ h=>h) (hw:Region.wanted oi (yielded ops a.tmps)=true:=by first | kernel_rfl | rfl) (hS:S w:=by assumption):zbI P md ops Q S L (fuel+1) listed a w:=zaf 16 hi hs hQ (Or.inl ⟨hw,hy⟩) hS h
theorem zbh {i:Nat} {o:Oper} {fuel:Nat} {listed:Array Bool} {a:Act} {w:World} (ho:ops[i]?=some o) (hr:Region.ready md ops listed=[i])
 (h:∀ K':Act→World→Prop,Shut (∀ a w,S w→(S w→zbI P md ops Q S L fuel (listed.setIfInBounds i true) a w)→K' a w)→if Region.wanted o (yielded ops a.tmps)=true then Oper.wp P o a w K' Q else K' (a.put o.dst undef) w):zbI P md ops Q S L (fuel+1) listed a w:=by
 refine ⟨fun h0=>(by rw [hr] at h0;cases h0),fun j hj=>?_⟩;rw [hr] at hj
 obtain rfl:j=i:=by simpa using hj
 exact wpOp_step ho (fun K' hK=>h K' (fun a w hS hW=>hK a w ⟨fun _=>hS,hW hS⟩))
theorem zcc {o:Oper} {fuel:Nat} {listed:Array Bool} {a:Act} {w:World} (ho:ops[L]?=some o) (hr:Region.ready md ops listed=[L])
 (h:∀ K':Act→World→Prop,Shut (∀ a w,zbI P md ops Q S L fuel (listed.setIfInBounds L true) a w→K' a w)→if Region.wanted o (yielded ops a.tmps)=true then Oper.wp P o a w K' Q else K' (a.put o.dst undef) w):zbI P md ops Q S L (fuel+1) listed a w:=by
 refine ⟨fun h0=>(by rw [hr] at h0;cases h0),fun j hj=>?_⟩;rw [hr] at hj
 obtain rfl:j=L:=by simpa using hj
 exact wpOp_step ho (fun K' hK=>h K' (fun a w hW=>hK a w ⟨fun hn=>absurd rfl hn,hW⟩))
theorem zcd {listed:Array Bool} {a:Act} {w:World} (hr:Region.ready md ops listed=[]) (h:Q .normal a w):∀ fuel,zbI P md ops Q S L fuel listed a w
 | 0=>⟨hr,h⟩
 | _+1=>⟨fun _=>h,by rw [hr];simp⟩
theorem zce {id:Nat} {a:Act} {w:World} (L:Nat) (S:World→Prop) (hm:P.follows .mixedOrders=true) (hS:S w.drew)
 (h:S w.drew→zbI P .any ops Q S L ops.size (Array.replicate ops.size false) a w.drew):(Code.region id ops true).wp P Q a w:=
 wp_region_any hm (zeo _ _ _ _ (h hS))
end
theorem zdt (w:World):(callFunc 155 #[]).run Tryz.prog w=.ok (.value (.tuple #[])) w:=run_call_mark0 Tryz.func155 (by kernel_rfl) (by kernel_rfl) (by kernel_rfl) .disable (by kernel_rfl) w
theorem zd0 (w:World):(callFunc 157 #[]).run Tryz.prog w=.ok (.value (.tuple #[])) w:=run_call_mark0 Tryz.func157 (by kernel_rfl) (by kernel_rfl) (by kernel_rfl) .enable (by kernel_rfl) w
theorem zfw (a:Addr) (w:World):(callFunc 158 #[.pointer (some a)]).run Tryz.prog w=.ok (.value (.tuple #[])) w:=run_call_marked Tryz.func158 (by kernel_rfl) (by kernel_rfl) (by kernel_rfl) .acquire (by kernel_rfl) a w
theorem zfx (a:Addr) (w:World):(callFunc 160 #[.pointer (some a)]).run Tryz.prog w=.ok (.value (.tuple #[])) w:=run_call_marked Tryz.func160 (by kernel_rfl) (by kernel_rfl) (by kernel_rfl) .releaseMerge (by kernel_rfl) a w
set_option maxRecDepth 100000 in
theorem zdA (a:Addr) (w:World) (hc:w.cell? a=some (.int .i32 0)) (hz:w.frozen? a=false) :
 Calls Tryz.prog 96 #[.pointer (some a)] w fun e w'=>e=.returned (.tuple #[])∧w'=w.setCell a (.int .i32 1):=by
 have hd:=zdt;have he:=zd0;have ha:=zfw;have hcas:=run_call_cas_hit (P:=Tryz.prog) Tryz.func156 (by kernel_rfl) (by kernel_rfl) (by kernel_rfl) .i32 (by kernel_rfl) (y:=1) hc hz;have hc':(w.setCell a (.int .i32 1)).cell? a=some (.int .i32 1):=World.cell?_setCell_same w a _ hc;have hcv:=run_convert_to_unsafe (P:=Tryz.prog) (src:=174) (dst:=178) Tryz.underlying174 Tryz.underlying178 (by kernel_rfl) hc'
 go_enter Tryz.func96,Tryz.ntmps96
 go_wp2
 first | go_end0 | (simp only [Exit.inBlock,Exit.then];refine bodyPost_ret (results_none rfl _ _ _) rfl ?_) | refine bodyPost_ret (results_none rfl _ _ _) rfl ?_
 go_wp2
 go_end0
 exact ⟨rfl,rfl⟩
set_option maxRecDepth 100000 in
theorem zcf (a:Addr) (u:FrameMode) (w:World) (hc:w.cell? a=some (.int .i32 1)) (hz:w.frozen? a=false) :
 CallsD Tryz.prog 97 #[.pointer (some a)] u w fun e u' w'=>u'=u∧(e=.returned (.tuple #[])∧w'=w.setCell a (.int .i32 0)):=by
 have hd:=zdt;have he:=zd0;have hr:=zfx;have hadd:=run_call_add (P:=Tryz.prog) Tryz.func161 (by kernel_rfl) (by kernel_rfl) (by kernel_rfl) .i32 (by kernel_rfl) (y:=-1) (s:=0) hc hz (by simp [go_sem];rfl);have hcv:=run_convert_to_unsafe (P:=Tryz.prog) (src:=174) (dst:=178) Tryz.underlying174 Tryz.underlying178 (by kernel_rfl) hc
 go_enter_d Tryz.func97,Tryz.ntmps97
 go_wp2
 go_end0
 go_wp2
 go_end0
 exact ⟨rfl,rfl⟩
set_option maxRecDepth 100000 in
theorem zhg (a:Addr) (x:Value) (u:FrameMode) (w:World) (hc:w.cell? a=some x) (hz:w.frozen? a=false) :
 CallsD Tryz.prog 164 #[.pointer (some a),.bool true] u w fun e u' w'=>u'=u∧(e=.returned (.tuple #[])∧w'=w.drew.setCell a (.int .u32 1)):=by
 have hc':w.drew.cell? a=some x:=by go_simp
 have hz':w.drew.frozen? a=false:=by go_simp
 have hst:=run_call_store (P:=Tryz.prog) Tryz.func181 (by kernel_rfl) (by kernel_rfl) (by kernel_rfl) (by kernel_rfl) (k:=.u32) (y:=1) hc' hz'
 go_enter_d Tryz.func164,Tryz.ntmps164
 go_wp2
 go_region_calls
 all_goals (go_end0;exact ⟨rfl,rfl⟩)
end Go.Proofs.YtdhnekgfhpanfaaGreat
namespace Go.Proofs.YtdhnekgfhpanfaaGreat
open Go.RowKit F256
structure EncO (w:World) (E:Nat) (d:WorldD) (cs:List Value) (K:List Nat):Prop where
 own:zab.own w d cs K
 nd:K.Nodup
 ne:E∉K
theorem zeO {w:World} {d:WorldD} {cs:List Value} {K:List Nat} (h:zab.own w d cs K):∃ v0 v1 v2 v3 v4 v5 v6 v7 v8 vp0 vl0 vq0 vp1 vl1 vq1 vp2 vl2 vq2 v9 v10 vb,cs=[.int .i64 v0,.int .i64 v1,.int .i64 v2,.int .i64 v3,.int .i64 v4,.int .i64 v5,.int .i64 v6,.int .i64 v7,.int .i64 v8,.slice vp0 vl0 vq0,.slice vp1 vl1 vq1,.slice vp2 vl2 vq2,.int .i64 v9,.int .i64 v10,.bool vb]:=by
 obtain ⟨p1,pc1,p2,pc2,p3,pc3,K1,K2,K3,rfl,-⟩:=zbj h;exact ⟨_,_,_,_,_,_,_,_,_,_,_,_,_,_,_,_,_,_,_,_,_,rfl⟩
theorem zih {w:World} {d:WorldD} {c0 c1 c2 c3 c4 c5 c6 c7 c8 c9 c10 c11 c12 c13 c14:Value} {K:List Nat} (h:zab.own w d [c0,c1,c2,c3,c4,c5,c6,c7,c8,c9,c10,c11,c12,c13,c14] K) (nd:K.Nodup):∃ K',zab.own w (cutW d) [c0,c1,c2,c3,c4,c5,c6,c7,c8,c9,.slice none 0 0,c11,c12,c13,.bool true] K'∧K'.Nodup∧∀ b,b∈K'→b∈K:=by
 obtain ⟨a1,b1,a2,b2,a3,b3,K1,K2,K3,e,hM,o1,o2,o3,k0,k4,k5⟩:=zbj h
 simp only [List.cons.injEq,and_true] at e
 obtain ⟨rfl,rfl,rfl,rfl,rfl,rfl,rfl,rfl,rfl,rfl,rfl,rfl,rfl,rfl,rfl⟩:=e;subst hM;refine ⟨K1++([]++(K3++[])),zb4 (cutW d) o1 (zdf w _ (fun _=>show (-9223372036854775808≤(0:Int)∧(0:Int)≤9223372036854775807) by decide)) o3 k0 k4 k5,?_,fun b hb=>?_⟩
 ·obtain ⟨n1,n2,n3⟩:=List.nodup_append.1 nd
  obtain ⟨_,n4,_⟩:=List.nodup_append.1 n2;exact List.nodup_append.2 ⟨n1,n4,fun b hb c hc=>n3 b hb c (List.mem_append_right _ hc)⟩
 ·rcases List.mem_append.1 hb with h | h
  ·exact List.mem_append_left _ h
  ·exact List.mem_append_right _ (List.mem_append_right _ h)
set_option maxRecDepth 20000 in
theorem zc7 (v0 v1 v2 v3 v4 v5 v6 v7 v8 vp0 vl0 vq0 vp1 vl1 vq1 vp2 vl2 vq2 v9 v10 vb:_) (w:World) (h1:∀ x,x∈([.int .i64 v0,.int .i64 v1,.int .i64 v2,.int .i64 v3,.int .i64 v4,.int .i64 v5,.int .i64 v6,.int .i64 v7,.int .i64 v8,.slice vp0 vl0 vq0,.slice none 0 0,.slice vp2 vl2 vq2,.int .i64 v9,.int .i64 v10,.bool true]:List Value)→x.oneCell'=true) :
 Calls Tryz.prog 100 #[.agg #[.int .i64 v0,.int .i64 v1,.int .i64 v2,.int .i64 v3,.int .i64 v4,.int .i64 v5,.int .i64 v6,.int .i64 v7,.int .i64 v8,.slice vp0 vl0 vq0,.slice vp1 vl1 vq1,.slice vp2 vl2 vq2,.int .i64 v9,.int .i64 v10,.bool vb]] w fun e w'=>e=.returned (.agg #[.int .i64 v0,.int .i64 v1,.int .i64 v2,.int .i64 v3,.int .i64 v4,.int .i64 v5,.int .i64 v6,.int .i64 v7,.int .i64 v8,.slice vp0 vl0 vq0,.slice none 0 0,.slice vp2 vl2 vq2,.int .i64 v9,.int .i64 v10,.bool true])∧Below w.heap.size w w':=by
 have T0:=zau w (rwV v0 v1 v2 v3 v4 v5 v6 v7 v8 vp0 vl0 vq0 vp1 vl1 vq1 vp2 vl2 vq2 v9 v10 vb).toArray (rwV 0 0 0 0 0 0 0 0 0 none 0 0 none 0 0 none 0 0 0 0 false).toArray 34 34
 go_enter Tryz.func100,Tryz.ntmps100
 go_upto_region 1 with fail
 obtain ⟨W,hW⟩:∃ x,x=(w.alloc (.cells (rwV v0 v1 v2 v3 v4 v5 v6 v7 v8 vp0 vl0 vq0 vp1 vl1 vq1 vp2 vl2 vq2 v9 v10 vb).toArray 34)).alloc (.cells (rwV 0 0 0 0 0 0 0 0 0 none 0 0 none 0 0 none 0 0 0 0 false).toArray 34):=⟨_,rfl⟩;rw [← hW] at T0 ⊢;clear hW;have y0:W.cell? ⟨w.heap.size,14,none⟩=some (.bool vb):=T0.b1.cell 14;have yf0:W.frozen? ⟨w.heap.size,14,none⟩=false:=T0.b1.frozen 14;have X0:Box (W.setCell ⟨w.heap.size,14,none⟩ (.bool true)) w.heap.size (rwV v0 v1 v2 v3 v4 v5 v6 v7 v8 vp0 vl0 vq0 vp1 vl1 vq1 vp2 vl2 vq2 v9 v10 true).toArray 34:=T0.b1.setc 14 _;have y1:(W.setCell ⟨w.heap.size,14,none⟩ (.bool true)).cell? ⟨w.heap.size,10,none⟩=some (.slice vp1 vl1 vq1):=X0.cell 10;have yf1:(W.setCell ⟨w.heap.size,14,none⟩ (.bool true)).frozen? ⟨w.heap.size,10,none⟩=false:=X0.frozen 10;have X1:Box ((W.setCell ⟨w.heap.size,14,none⟩ (.bool true)).setCell ⟨w.heap.size,10,none⟩ (.slice none 0 0)) w.heap.size (rwV v0 v1 v2 v3 v4 v5 v6 v7 v8 vp0 vl0 vq0 none 0 0 vp2 vl2 vq2 v9 v10 true).toArray 34:=X0.setc 10 _;have CC:ChgL [w.heap.size] W ((W.setCell ⟨w.heap.size,14,none⟩ (.bool true)).setCell ⟨w.heap.size,10,none⟩ (.slice none 0 0)):=((ChgL.refl _ _).st _ 14 (.bool true) (by simp)).st _ 10 (.slice none 0 0) (by simp);have R1:=T0.b2.chgl CC (by simp);have B1:=T0.bel.trans (CC.bel (fun b hb=>by simp at hb;omega) T0.bel.size);have HH1:=hid h1;clear h1
 go_wp2_with (first | (refine zaq 34 (.tmp 1) rfl rfl (w.heap.size) rfl (X1) Tryz.underlying34 zbz rfl ?_) | (refine zaR 34 _ _ rfl rfl (w.heap.size+1) rfl (cs:=(rwV v0 v1 v2 v3 v4 v5 v6 v7 v8 vp0 vl0 vq0 none 0 0 vp2 vl2 vq2 v9 v10 true)) rfl R1 zbz rfl rfl HH1.out ?_;intro w9 X9 C9 z9))
 refine zbT Tryz.results100 rfl X9 Tryz.underlying34 zbz rfl rfl ?_;exact ⟨rfl,B1.trans (C9.bel (fun b hb=>by simp at hb;omega) B1.size)⟩
set_option maxRecDepth 20000 in
theorem zii (E pe:Nat) (l o m:Int) (v0 v1 v2 v3 v4 v5 v6 v7 v8 vp0 vl0 vq0 vp1 vl1 vq1 vp2 vl2 vq2 v9 v10 vb:_) (w:World) (hp:w.cell? ⟨pe,0,none⟩=some (.pointer (some ⟨E,0,none⟩))) (hpe:pe<w.heap.size) (hX:Box w E #[.int .i32 l,.int .u32 0,.int .u32 o,.int .i32 m,.int .u32 0,.int .i64 v0,.int .i64 v1,.int .i64 v2,.int .i64 v3,.int .i64 v4,.int .i64 v5,.int .i64 v6,.int .i64 v7,.int .i64 v8,.slice vp0 vl0 vq0,.slice vp1 vl1 vq1,.slice vp2 vl2 vq2,.int .i64 v9,.int .i64 v10,.bool vb] 110) (h1:∀ x,x∈([.int .i64 v0,.int .i64 v1,.int .i64 v2,.int .i64 v3,.int .i64 v4,.int .i64 v5,.int .i64 v6,.int .i64 v7,.int .i64 v8,.slice vp0 vl0 vq0,.slice none 0 0,.slice vp2 vl2 vq2,.int .i64 v9,.int .i64 v10,.bool true]:List Value)→x.oneCell'=true) :
 Calls Tryz.prog 99 #[.pointer (some ⟨pe,0,none⟩)] w fun e w'=>e=.returned (.tuple #[])∧Box w' E #[.int .i32 l,.int .u32 0,.int .u32 o,.int .i32 m,.int .u32 0,.int .i64 v0,.int .i64 v1,.int .i64 v2,.int .i64 v3,.int .i64 v4,.int .i64 v5,.int .i64 v6,.int .i64 v7,.int .i64 v8,.slice vp0 vl0 vq0,.slice none 0 0,.slice vp2 vl2 vq2,.int .i64 v9,.int .i64 v10,.bool true] 110∧ChgL [E] w w':=by
 have hE:E<w.heap.size:=hX.lt;have HX:=hid hX;have x_5:w.cell? ⟨E,5,none⟩=some (.int .i64 v0):=hX.cell 5;have x_6:w.cell? ⟨E,6,none⟩=some (.int .i64 v1):=hX.cell 6;have x_7:w.cell? ⟨E,7,none⟩=some (.int .i64 v2):=hX.cell 7;have x_8:w.cell? ⟨E,8,none⟩=some (.int .i64 v3):=hX.cell 8;have x_9:w.cell? ⟨E,9,none⟩=some (.int .i64 v4):=hX.cell 9;have x_10:w.cell? ⟨E,10,none⟩=some (.int .i64 v5):=hX.cell 10;have x_11:w.cell? ⟨E,11,none⟩=some (.int .i64 v6):=hX.cell 11;have x_12:w.cell? ⟨E,12,none⟩=some (.int .i64 v7):=hX.cell 12;have x_13:w.cell? ⟨E,13,none⟩=some (.int .i64 v8):=hX.cell 13;have x_14:w.cell? ⟨E,14,none⟩=some (.slice vp0 vl0 vq0):=hX.cell 14;have x_15:w.cell? ⟨E,15,none⟩=some (.slice vp1 vl1 vq1):=hX.cell 15;have x_16:w.cell? ⟨E,16,none⟩=some (.slice vp2 vl2 vq2):=hX.cell 16;have x_17:w.cell? ⟨E,17,none⟩=some (.int .i64 v9):=hX.cell 17;have x_18:w.cell? ⟨E,18,none⟩=some (.int .i64 v10):=hX.cell 18;have x_19:w.cell? ⟨E,19,none⟩=some (.bool vb):=hX.cell 19;have KS:∀ w',Below w.heap.size w w'→(w'.cell? ⟨pe,0,none⟩=some (.pointer (some ⟨E,0,none⟩))∧w'.cell? ⟨E,5,none⟩=some (.int .i64 v0)∧w'.cell? ⟨E,6,none⟩=some (.int .i64 v1)∧w'.cell? ⟨E,7,none⟩=some (.int .i64 v2)∧w'.cell? ⟨E,8,none⟩=some (.int .i64 v3)∧w'.cell? ⟨E,9,none⟩=some (.int .i64 v4)∧w'.cell? ⟨E,10,none⟩=some (.int .i64 v5)∧w'.cell? ⟨E,11,none⟩=some (.int .i64 v6)∧w'.cell? ⟨E,12,none⟩=some (.int .i64 v7)∧w'.cell? ⟨E,13,none⟩=some (.int .i64 v8)∧w'.cell? ⟨E,14,none⟩=some (.slice vp0 vl0 vq0)∧w'.cell? ⟨E,15,none⟩=some (.slice vp1 vl1 vq1)∧w'.cell? ⟨E,16,none⟩=some (.slice vp2 vl2 vq2)∧w'.cell? ⟨E,17,none⟩=some (.int .i64 v9)∧w'.cell? ⟨E,18,none⟩=some (.int .i64 v10)∧w'.cell? ⟨E,19,none⟩=some (.bool vb)):=fun w' hb=>⟨(hb.cell (p:=⟨pe,0,none⟩) hpe).trans hp,(hb.cell (p:=⟨E,5,none⟩) hE).trans x_5,(hb.cell (p:=⟨E,6,none⟩) hE).trans x_6,(hb.cell (p:=⟨E,7,none⟩) hE).trans x_7,(hb.cell (p:=⟨E,8,none⟩) hE).trans x_8,(hb.cell (p:=⟨E,9,none⟩) hE).trans x_9,(hb.cell (p:=⟨E,10,none⟩) hE).trans x_10,(hb.cell (p:=⟨E,11,none⟩) hE).trans x_11,(hb.cell (p:=⟨E,12,none⟩) hE).trans x_12,(hb.cell (p:=⟨E,13,none⟩) hE).trans x_13,(hb.cell (p:=⟨E,14,none⟩) hE).trans x_14,(hb.cell (p:=⟨E,15,none⟩) hE).trans x_15,(hb.cell (p:=⟨E,16,none⟩) hE).trans x_16,(hb.cell (p:=⟨E,17,none⟩) hE).trans x_17,(hb.cell (p:=⟨E,18,none⟩) hE).trans x_18,(hb.cell (p:=⟨E,19,none⟩) hE).trans x_19⟩;have CC:=zc7 v0 v1 v2 v3 v4 v5 v6 v7 v8 vp0 vl0 vq0 vp1 vl1 vq1 vp2 vl2 vq2 v9 v10 vb w.drew h1
 clear hX h1
 go_enter Tryz.func99,Tryz.ntmps99
 go_upto_region 0 with fail
 refine zce 8 (fun w'=>w'.cell? ⟨pe,0,none⟩=some (.pointer (some ⟨E,0,none⟩))∧w'.cell? ⟨E,5,none⟩=some (.int .i64 v0)∧w'.cell? ⟨E,6,none⟩=some (.int .i64 v1)∧w'.cell? ⟨E,7,none⟩=some (.int .i64 v2)∧w'.cell? ⟨E,8,none⟩=some (.int .i64 v3)∧w'.cell? ⟨E,9,none⟩=some (.int .i64 v4)∧w'.cell? ⟨E,10,none⟩=some (.int .i64 v5)∧w'.cell? ⟨E,11,none⟩=some (.int .i64 v6)∧w'.cell? ⟨E,12,none⟩=some (.int .i64 v7)∧w'.cell? ⟨E,13,none⟩=some (.int .i64 v8)∧w'.cell? ⟨E,14,none⟩=some (.slice vp0 vl0 vq0)∧w'.cell? ⟨E,15,none⟩=some (.slice vp1 vl1 vq1)∧w'.cell? ⟨E,16,none⟩=some (.slice vp2 vl2 vq2)∧w'.cell? ⟨E,17,none⟩=some (.int .i64 v9)∧w'.cell? ⟨E,18,none⟩=some (.int .i64 v10)∧w'.cell? ⟨E,19,none⟩=some (.bool vb)) (by kernel_rfl) (KS _ ⟨rfl,rfl,rfl,Nat.le_refl _,fun _ _=>rfl⟩) (fun hHeld=>?_);refine ziV 0 rfl ?_
 try simp only [Act.put,SL]
 refine ziV 1 rfl ?_
 try simp only [Act.put,SL]
 refine ziV 2 rfl ?_
 try simp only [Act.put,SL]
 refine ziV 3 rfl ?_
 try simp only [Act.put,SL]
 refine ziV 4 rfl ?_
 try simp only [Act.put,SL]
 refine zbh (i:=5) (o:=_) rfl (by kernel_rfl) (fun KC hKC=>?_)
 refine zdD rfl 100 _ _ rfl #[.agg (rwV v0 v1 v2 v3 v4 v5 v6 v7 v8 vp0 vl0 vq0 vp1 vl1 vq1 vp2 vl2 vq2 v9 v10 vb).toArray] ?_ Tryz.func100 (by kernel_rfl) (by kernel_rfl) CC ?_;(simp [Act.eval,Act.put]);rintro ee w5 ⟨rfl,b5'⟩;have b5w:Below w.heap.size w w5:=⟨b5'.os,b5'.tape,b5'.output,b5'.size,b5'.block⟩;have X5:=HX.out.below b5w hE;have z_5:w5.cell? ⟨E,5,none⟩=some (.int .i64 v0):=X5.cell 5;have zf_5:w5.frozen? ⟨E,5,none⟩=false:=X5.frozen 5;have z_6:w5.cell? ⟨E,6,none⟩=some (.int .i64 v1):=X5.cell 6;have zf_6:w5.frozen? ⟨E,6,none⟩=false:=X5.frozen 6;have z_7:w5.cell? ⟨E,7,none⟩=some (.int .i64 v2):=X5.cell 7;have zf_7:w5.frozen? ⟨E,7,none⟩=false:=X5.frozen 7;have z_8:w5.cell? ⟨E,8,none⟩=some (.int .i64 v3):=X5.cell 8;have zf_8:w5.frozen? ⟨E,8,none⟩=false:=X5.frozen 8;have z_9:w5.cell? ⟨E,9,none⟩=some (.int .i64 v4):=X5.cell 9;have zf_9:w5.frozen? ⟨E,9,none⟩=false:=X5.frozen 9;have z_10:w5.cell? ⟨E,10,none⟩=some (.int .i64 v5):=X5.cell 10;have zf_10:w5.frozen? ⟨E,10,none⟩=false:=X5.frozen 10;have z_11:w5.cell? ⟨E,11,none⟩=some (.int .i64 v6):=X5.cell 11;have zf_11:w5.frozen? ⟨E,11,none⟩=false:=X5.frozen 11;have z_12:w5.cell? ⟨E,12,none⟩=some (.int .i64 v7):=X5.cell 12;have zf_12:w5.frozen? ⟨E,12,none⟩=false:=X5.frozen 12;have z_13:w5.cell? ⟨E,13,none⟩=some (.int .i64 v8):=X5.cell 13;have zf_13:w5.frozen? ⟨E,13,none⟩=false:=X5.frozen 13;have z_14:w5.cell? ⟨E,14,none⟩=some (.slice vp0 vl0 vq0):=X5.cell 14;have zf_14:w5.frozen? ⟨E,14,none⟩=false:=X5.frozen 14;have z_15:w5.cell? ⟨E,15,none⟩=some (.slice vp1 vl1 vq1):=X5.cell 15;have zf_15:w5.frozen? ⟨E,15,none⟩=false:=X5.frozen 15;have z_16:w5.cell? ⟨E,16,none⟩=some (.slice vp2 vl2 vq2):=X5.cell 16;have zf_16:w5.frozen? ⟨E,16,none⟩=false:=X5.frozen 16;have z_17:w5.cell? ⟨E,17,none⟩=some (.int .i64 v9):=X5.cell 17;have zf_17:w5.frozen? ⟨E,17,none⟩=false:=X5.frozen 17;have z_18:w5.cell? ⟨E,18,none⟩=some (.int .i64 v10):=X5.cell 18;have zf_18:w5.frozen? ⟨E,18,none⟩=false:=X5.frozen 18;have z_19:w5.cell? ⟨E,19,none⟩=some (.bool vb):=X5.cell 19;have zf_19:w5.frozen? ⟨E,19,none⟩=false:=X5.frozen 19;refine ⟨_,rfl,?_⟩
 refine hKC.out _ _ (KS _ b5w) (fun hHeld=>?_);clear hKC KC
 try simp only [Act.put,SL]
 refine ziV 6 rfl ?_
 try simp only [Act.put,SL]
 refine ziV 7 rfl ?_
 try simp only [Act.put,SL]
 refine zcc (o:=_) rfl (by kernel_rfl) (fun KC hKC=>?_);go_simp;refine hKC.out _ _ ?_;clear hKC KC
 try simp only [Act.put,SL]
 refine zcd (by kernel_rfl) ?_ _;have X6:Box (stN w5 E 5 (rwV v0 v1 v2 v3 v4 v5 v6 v7 v8 vp0 vl0 vq0 none 0 0 vp2 vl2 vq2 v9 v10 true)) E #[.int .i32 l,.int .u32 0,.int .u32 o,.int .i32 m,.int .u32 0,.int .i64 v0,.int .i64 v1,.int .i64 v2,.int .i64 v3,.int .i64 v4,.int .i64 v5,.int .i64 v6,.int .i64 v7,.int .i64 v8,.slice vp0 vl0 vq0,.slice none 0 0,.slice vp2 vl2 vq2,.int .i64 v9,.int .i64 v10,.bool true] 110:=X5.stL (rwV v0 v1 v2 v3 v4 v5 v6 v7 v8 vp0 vl0 vq0 none 0 0 vp2 vl2 vq2 v9 v10 true) 5;have C6:ChgL [E] w (stN w5 E 5 (rwV v0 v1 v2 v3 v4 v5 v6 v7 v8 vp0 vl0 vq0 none 0 0 vp2 vl2 vq2 v9 v10 true)):=(ChgL.of_below b5w).trans ⟨(zbf E _ w5 5).1,(zbf E _ w5 5).2.1,(zbf E _ w5 5).2.2,Nat.le_of_eq (zbA E _ w5 5).symm,fun b _ hb=>zbJ E b (fun hh=>hb (by simp [hh])) _ w5 5⟩;go_wp2
 go_end0
 exact ⟨rfl,X6,C6⟩
theorem Box.drew {w:World} {b:Nat} {cs:Array Value} {t:TypeId} (h:Box w b cs t):Box w.drew b cs t:=h
theorem ChgL.drew {K:List Nat} {w w':World} (h:ChgL K w w'):ChgL K w w'.drew:=⟨h.os,h.tape,h.output,h.size,h.block⟩
set_option maxRecDepth 100000 in
theorem zhV (E pe:Nat) (l:Int) (v0 v1 v2 v3 v4 v5 v6 v7 v8 vp0 vl0 vq0 vp1 vl1 vq1 vp2 vl2 vq2 v9 v10 vb:_) (w:World) (hp:w.cell? ⟨pe,0,none⟩=some (.pointer (some ⟨E,0,none⟩))) (hpe:pe<w.heap.size) (hne:pe≠E) (hX:Box w E #[.int .i32 l,.int .u32 0,.int .u32 0,.int .i32 0,.int .u32 0,.int .i64 v0,.int .i64 v1,.int .i64 v2,.int .i64 v3,.int .i64 v4,.int .i64 v5,.int .i64 v6,.int .i64 v7,.int .i64 v8,.slice vp0 vl0 vq0,.slice vp1 vl1 vq1,.slice vp2 vl2 vq2,.int .i64 v9,.int .i64 v10,.bool vb] 110) (h1:∀ x,x∈([.int .i64 v0,.int .i64 v1,.int .i64 v2,.int .i64 v3,.int .i64 v4,.int .i64 v5,.int .i64 v6,.int .i64 v7,.int .i64 v8,.slice vp0 vl0 vq0,.slice none 0 0,.slice vp2 vl2 vq2,.int .i64 v9,.int .i64 v10,.bool true]:List Value)→x.oneCell'=true) :
 Calls Tryz.prog 135 #[.pointer (some ⟨E,2,none⟩),.func (.func 99) #[] #[.pointer (some ⟨pe,0,none⟩)]] w fun e w'=>e=.returned (.tuple #[])∧Box w' E #[.int .i32 l,.int .u32 0,.int .u32 1,.int .i32 0,.int .u32 0,.int .i64 v0,.int .i64 v1,.int .i64 v2,.int .i64 v3,.int .i64 v4,.int .i64 v5,.int .i64 v6,.int .i64 v7,.int .i64 v8,.slice vp0 vl0 vq0,.slice none 0 0,.slice vp2 vl2 vq2,.int .i64 v9,.int .i64 v10,.bool true] 110∧ChgL [E] w w':=by
 have X1:Box (w.setCell ⟨E,3,none⟩ (.int .i32 1)) E #[.int .i32 l,.int .u32 0,.int .u32 0,.int .i32 1,.int .u32 0,.int .i64 v0,.int .i64 v1,.int .i64 v2,.int .i64 v3,.int .i64 v4,.int .i64 v5,.int .i64 v6,.int .i64 v7,.int .i64 v8,.slice vp0 vl0 vq0,.slice vp1 vl1 vq1,.slice vp2 vl2 vq2,.int .i64 v9,.int .i64 v10,.bool vb] 110:=hX.setc 3 _;have c3:w.cell? ⟨E,3,none⟩=some (.int .i32 0):=hX.cell 3;have f3:w.frozen? ⟨E,3,none⟩=false:=hX.frozen 3;have c2:(w.setCell ⟨E,3,none⟩ (.int .i32 1)).cell? ⟨E,2,none⟩=some (.int .u32 0):=X1.cell 2;have C1:ChgL [E] w (w.setCell ⟨E,3,none⟩ (.int .i32 1)):=(ChgL.refl _ _).st _ 3 _ (by simp);have hl:=run_call_load (P:=Tryz.prog) Tryz.func163 (by kernel_rfl) (by kernel_rfl) (by kernel_rfl) .u32 (by kernel_rfl) c2;have hnot:∀ (x:Bool) (w:World),(Op.unary .not (.bool x)).run Tryz.prog w=.ok (.bool (!x)) w:=fun _ _=>rfl;have hp1:(w.setCell ⟨E,3,none⟩ (.int .i32 1)).cell? ⟨pe,0,none⟩=some (.pointer (some ⟨E,0,none⟩)):=(World.cell?_of_block (C1.block pe hpe (by simpa using hne))).trans hp;have CF:=zii E pe l 0 1 v0 v1 v2 v3 v4 v5 v6 v7 v8 vp0 vl0 vq0 vp1 vl1 vq1 vp2 vl2 vq2 v9 v10 vb _ hp1 (by simpa using hpe) X1 h1;have HC1:=hid C1;have HCF:=CF;clear C1 X1 hX h1 hp hp1 CF
 go_enter_defers Tryz.func135,Tryz.ntmps135
 go_wp2_with (first | (go_at_call 96;refine (zdA ⟨E,3,none⟩ _ c3 f3).mono ?_;rintro e w' ⟨rfl,rfl⟩) | (go_at_call 99;refine HCF.mono ?_;rintro e w5 ⟨rfl,X5,C5⟩) | (go_at_call 134;go_in))
 refine leaves_cons (f:=164) (args:=#[.pointer (some ⟨E,2,none⟩),.bool true]) (by simp) (by simp [go_sem]) ?_;refine (zhg ⟨E,2,none⟩ (.int .u32 0) .returning _ (X5.cell 2) (X5.frozen 2)).mono ?_;rintro e u' w'' ⟨rfl,rfl,rfl⟩;have X6:Box (w5.drew.setCell ⟨E,2,none⟩ (.int .u32 1)) E #[.int .i32 l,.int .u32 0,.int .u32 1,.int .i32 1,.int .u32 0,.int .i64 v0,.int .i64 v1,.int .i64 v2,.int .i64 v3,.int .i64 v4,.int .i64 v5,.int .i64 v6,.int .i64 v7,.int .i64 v8,.slice vp0 vl0 vq0,.slice none 0 0,.slice vp2 vl2 vq2,.int .i64 v9,.int .i64 v10,.bool true] 110:=X5.drew.setc 2 _;refine leaves_cons (f:=97) (args:=#[.pointer (some ⟨E,3,none⟩)]) (by simp [settle]) (by simp [go_sem]) ?_;refine (zcf ⟨E,3,none⟩ _ _ (X6.cell 3) (X6.frozen 3)).mono ?_;rintro e u' w'' ⟨rfl,rfl,rfl⟩;have X7:Box ((w5.drew.setCell ⟨E,2,none⟩ (.int .u32 1)).setCell ⟨E,3,none⟩ (.int .i32 0)) E #[.int .i32 l,.int .u32 0,.int .u32 1,.int .i32 0,.int .u32 0,.int .i64 v0,.int .i64 v1,.int .i64 v2,.int .i64 v3,.int .i64 v4,.int .i64 v5,.int .i64 v6,.int .i64 v7,.int .i64 v8,.slice vp0 vl0 vq0,.slice none 0 0,.slice vp2 vl2 vq2,.int .i64 v9,.int .i64 v10,.bool true] 110:=X6.setc 3 _;have C7:ChgL [E] w ((w5.drew.setCell ⟨E,2,none⟩ (.int .u32 1)).setCell ⟨E,3,none⟩ (.int .i32 0)):=(((HC1.out.trans C5).drew.st _ 2 _ (by simp)).st _ 3 _ (by simp))
 simp only [Leaves,settle]
 exact ⟨_,results_none rfl _ _ _,rfl,X7,C7⟩
set_option maxRecDepth 100000 in
theorem zhW (E pe:Nat) (l:Int) (v0 v1 v2 v3 v4 v5 v6 v7 v8 vp0 vl0 vq0 vp1 vl1 vq1 vp2 vl2 vq2 v9 v10 vb:_) (w:World) (hp:w.cell? ⟨pe,0,none⟩=some (.pointer (some ⟨E,0,none⟩))) (hpe:pe<w.heap.size) (hne:pe≠E) (hX:Box w E #[.int .i32 l,.int .u32 0,.int .u32 0,.int .i32 0,.int .u32 0,.int .i64 v0,.int .i64 v1,.int .i64 v2,.int .i64 v3,.int .i64 v4,.int .i64 v5,.int .i64 v6,.int .i64 v7,.int .i64 v8,.slice vp0 vl0 vq0,.slice vp1 vl1 vq1,.slice vp2 vl2 vq2,.int .i64 v9,.int .i64 v10,.bool vb] 110) (h1:∀ x,x∈([.int .i64 v0,.int .i64 v1,.int .i64 v2,.int .i64 v3,.int .i64 v4,.int .i64 v5,.int .i64 v6,.int .i64 v7,.int .i64 v8,.slice vp0 vl0 vq0,.slice none 0 0,.slice vp2 vl2 vq2,.int .i64 v9,.int .i64 v10,.bool true]:List Value)→x.oneCell'=true) :
 Calls Tryz.prog 98 #[.pointer (some ⟨E,2,none⟩),.func (.func 99) #[] #[.pointer (some ⟨pe,0,none⟩)]] w fun e w'=>e=.returned (.tuple #[])∧Box w' E #[.int .i32 l,.int .u32 0,.int .u32 1,.int .i32 0,.int .u32 0,.int .i64 v0,.int .i64 v1,.int .i64 v2,.int .i64 v3,.int .i64 v4,.int .i64 v5,.int .i64 v6,.int .i64 v7,.int .i64 v8,.slice vp0 vl0 vq0,.slice none 0 0,.slice vp2 vl2 vq2,.int .i64 v9,.int .i64 v10,.bool true] 110∧ChgL [E] w w':=by
 have CS:=zhV E pe l v0 v1 v2 v3 v4 v5 v6 v7 v8 vp0 vl0 vq0 vp1 vl1 vq1 vp2 vl2 vq2 v9 v10 vb w hp hpe hne hX h1;have c2:w.cell? ⟨E,2,none⟩=some (.int .u32 0):=hX.cell 2;have hl:=run_call_load (P:=Tryz.prog) Tryz.func163 (by kernel_rfl) (by kernel_rfl) (by kernel_rfl) .u32 (by kernel_rfl) c2;have hnot:∀ (x:Bool) (w:World),(Op.unary .not (.bool x)).run Tryz.prog w=.ok (.bool (!x)) w:=fun _ _=>rfl;clear hX h1 hp
 go_enter Tryz.func98,Tryz.ntmps98
 go_wp2_with (first | (go_at_call 135;refine CS.mono ?_;rintro e w5 ⟨rfl,X5,C5⟩) | (go_at_call 134;go_in))
 go_end0
 exact ⟨rfl,X5,C5⟩
set_option maxRecDepth 100000 in
theorem zeP (E:Nat) (v0 v1 v2 v3 v4 v5 v6 v7 v8 vp0 vl0 vq0 vp1 vl1 vq1 vp2 vl2 vq2 v9 v10 vb:_) (fv:Value) (w:World) (hX:Box w E #[.int .i32 0,.int .u32 0,.int .u32 0,.int .i32 0,.int .u32 0,.int .i64 v0,.int .i64 v1,.int .i64 v2,.int .i64 v3,.int .i64 v4,.int .i64 v5,.int .i64 v6,.int .i64 v7,.int .i64 v8,.slice vp0 vl0 vq0,.slice vp1 vl1 vq1,.slice vp2 vl2 vq2,.int .i64 v9,.int .i64 v10,.bool vb] 110) (h1:∀ x,x∈([.int .i64 v0,.int .i64 v1,.int .i64 v2,.int .i64 v3,.int .i64 v4,.int .i64 v5,.int .i64 v6,.int .i64 v7,.int .i64 v8,.slice vp0 vl0 vq0,.slice none 0 0,.slice vp2 vl2 vq2,.int .i64 v9,.int .i64 v10,.bool true]:List Value)→x.oneCell'=true) (hs:v10≠-1) (hw:v10≤v9) :
 Calls Tryz.prog 58 #[.pointer (some ⟨E,0,none⟩),fv] w fun e w'=>e=.panicked [{ v:=.iface 139 (.agg #[]),recovered:=false }]∧Box w' E #[.int .i32 0,.int .u32 0,.int .u32 1,.int .i32 0,.int .u32 0,.int .i64 v0,.int .i64 v1,.int .i64 v2,.int .i64 v3,.int .i64 v4,.int .i64 v5,.int .i64 v6,.int .i64 v7,.int .i64 v8,.slice vp0 vl0 vq0,.slice none 0 0,.slice vp2 vl2 vq2,.int .i64 v9,.int .i64 v10,.bool true] 110∧ChgL [E] w w':=by
 have d1:(v10 != -1)=true:=by simpa using hs
 have d2:decide (v10≤v9)=true:=by simpa using hw
 have H1:=hid h1;clear hs hw h1;have hE:E<w.heap.size:=hX.lt;have hmf:∀ (fn:Fn) (first cap:Array Value) (w:World),(Instr.makeFunc fn first cap).run Tryz.prog w=.ok (.func fn first cap) w:=fun _ _ _ _=>rfl;have bA:=bAl w (.cells #[.pointer (some ⟨E,0,none⟩)] 64);have P1:=zaC w #[.pointer (some ⟨E,0,none⟩)] 64;have X1:=hX.below bA hE
 go_enter_defers Tryz.func58,Tryz.ntmps58
 go_upto_region 1 with fail
 obtain ⟨W1,hW1⟩:∃ x,x=w.alloc (.cells #[.pointer (some ⟨E,0,none⟩)] 64):=⟨_,rfl⟩;rw [← hW1] at bA P1 X1 ⊢
 have zW:W1.heap.size=w.heap.size+1:=by rw [hW1];simp
 clear hW1;have hp1:W1.cell? ⟨w.heap.size,0,none⟩=some (.pointer (some ⟨E,0,none⟩)):=P1.cell 0;have c0:W1.cell? ⟨E,0,none⟩=some (.int .i32 0):=X1.cell 0;have f0:W1.frozen? ⟨E,0,none⟩=false:=X1.frozen 0;have X2:Box (W1.setCell ⟨E,0,none⟩ (.int .i32 1)) E #[.int .i32 1,.int .u32 0,.int .u32 0,.int .i32 0,.int .u32 0,.int .i64 v0,.int .i64 v1,.int .i64 v2,.int .i64 v3,.int .i64 v4,.int .i64 v5,.int .i64 v6,.int .i64 v7,.int .i64 v8,.slice vp0 vl0 vq0,.slice vp1 vl1 vq1,.slice vp2 vl2 vq2,.int .i64 v9,.int .i64 v10,.bool vb] 110:=X1.setc 0 _;have P2:Box (W1.setCell ⟨E,0,none⟩ (.int .i32 1)) w.heap.size #[.pointer (some ⟨E,0,none⟩)] 64:=P1.seto 0 _ (by omega);have C2':ChgL [E] w (W1.setCell ⟨E,0,none⟩ (.int .i32 1)):=(ChgL.of_below bA).st _ 0 _ (by simp)
 go_upto_region 2 with (go_at_call 96;refine (zdA ⟨E,0,none⟩ _ c0 f0).mono ?_;rintro e w' ⟨rfl,rfl⟩)
 obtain ⟨W2,hW2⟩:∃ x,x=W1.setCell ⟨E,0,none⟩ (.int .i32 1):=⟨_,rfl⟩;rw [← hW2] at X2 P2 C2' ⊢
 have z2:W2.heap.size=w.heap.size+1:=by rw [hW2];simpa using zW
 clear hW2 hp1 c0 f0 X1 P1 bA hX;have hp2:W2.cell? ⟨w.heap.size,0,none⟩=some (.pointer (some ⟨E,0,none⟩)):=P2.cell 0;have x17:W2.cell? ⟨E,17,none⟩=some (.int .i64 v9):=X2.cell 17;have x18:W2.cell? ⟨E,18,none⟩=some (.int .i64 v10):=X2.cell 18
 go_upto_region 3 with fail
 go_quiet (fail)
 go_upto_region 4 with fail
 obtain ⟨W3,hW3⟩:∃ x,x=W2.drewN nq:=⟨_,rfl⟩;rw [← hW3]
 have X3:Box W3 E #[.int .i32 1,.int .u32 0,.int .u32 0,.int .i32 0,.int .u32 0,.int .i64 v0,.int .i64 v1,.int .i64 v2,.int .i64 v3,.int .i64 v4,.int .i64 v5,.int .i64 v6,.int .i64 v7,.int .i64 v8,.slice vp0 vl0 vq0,.slice vp1 vl1 vq1,.slice vp2 vl2 vq2,.int .i64 v9,.int .i64 v10,.bool vb] 110:=by rw [hW3];exact X2
 have P3:Box W3 w.heap.size #[.pointer (some ⟨E,0,none⟩)] 64:=by rw [hW3];exact P2
 have C3':ChgL [E] w W3:=by rw [hW3];exact ⟨C2'.os,C2'.tape,C2'.output,C2'.size,C2'.block⟩
 have z3:W3.heap.size=w.heap.size+1:=by rw [hW3];exact z2
 have hp3:W3.cell? ⟨w.heap.size,0,none⟩=some (.pointer (some ⟨E,0,none⟩)):=P3.cell 0;clear hW3 X2 P2 C2' z2 hp2 x17 x18
 go_wp2_with (go_at_call 98;refine (zhW E w.heap.size 1 v0 v1 v2 v3 v4 v5 v6 v7 v8 vp0 vl0 vq0 vp1 vl1 vq1 vp2 vl2 vq2 v9 v10 vb _ hp3 (by omega) (by omega) X3 H1.out).mono ?_;rintro e w5 ⟨rfl,X5,C5⟩)
 refine leaves_cons (f:=97) (args:=#[.pointer (some ⟨E,0,none⟩)]) (by simp) (by simp [go_sem]) ?_;refine (zcf ⟨E,0,none⟩ _ _ (X5.cell 0) (X5.frozen 0)).mono ?_;rintro e u' w'' ⟨rfl,rfl,rfl⟩;have X6:Box (w5.setCell ⟨E,0,none⟩ (.int .i32 0)) E #[.int .i32 0,.int .u32 0,.int .u32 1,.int .i32 0,.int .u32 0,.int .i64 v0,.int .i64 v1,.int .i64 v2,.int .i64 v3,.int .i64 v4,.int .i64 v5,.int .i64 v6,.int .i64 v7,.int .i64 v8,.slice vp0 vl0 vq0,.slice none 0 0,.slice vp2 vl2 vq2,.int .i64 v9,.int .i64 v10,.bool true] 110:=X5.setc 0 _;have C6:ChgL [E] w (w5.setCell ⟨E,0,none⟩ (.int .i32 0)):=(C3'.trans C5).st _ 0 _ (by simp)
 simp only [Leaves,settle]
 exact ⟨trivial,X6,C6⟩
theorem zd1 {w:World} {d:WorldD} {c0 c1 c2 c3 c4 c5 c6 c7 c8 c9 c10 c11 c12 c13 c14:Value} {K:List Nat} (n:Int) (hn:-9223372036854775808≤n∧n≤9223372036854775807) (h:zab.own w d [c0,c1,c2,c3,c4,c5,c6,c7,c8,c9,c10,c11,c12,c13,c14] K):zab.own w { d with writes:=n } [c0,c1,c2,c3,c4,c5,c6,c7,c8,c9,c10,c11,.int .i64 n,c13,c14] K:=by
 obtain ⟨a1,b1,a2,b2,a3,b3,K1,K2,K3,e,hM,o1,o2,o3,k0,k4,k5⟩:=zbj h
 simp only [List.cons.injEq,and_true] at e
 obtain ⟨rfl,rfl,rfl,rfl,rfl,rfl,rfl,rfl,rfl,rfl,rfl,rfl,rfl,rfl,rfl⟩:=e;subst hM;exact zb4 { d with writes:=n } o1 o2 o3 k0 hn k5
theorem zd2 {w:World} {d:WorldD} {c0 c1 c2 c3 c4 c5 c6 c7 c8 c9 c10 c11 c13 c14:Value} {n:Int} {K:List Nat} (h:zab.own w d [c0,c1,c2,c3,c4,c5,c6,c7,c8,c9,c10,c11,.int .i64 n,c13,c14] K):n=d.writes:=by
 obtain ⟨a1,b1,a2,b2,a3,b3,K1,K2,K3,e,_⟩:=zbj h
 simp only [List.cons.injEq,Value.int.injEq,true_and,and_true] at e
 exact e.2.2.2.2.2.2.2.2.2.2.2.2.1
theorem ziI {w:World} {d:WorldD} {c0 c1 c2 c3 c4 c5 c6 c7 c8 c9 c10 c11 c12 c14:Value} {n:Int} {K:List Nat} (h:zab.own w d [c0,c1,c2,c3,c4,c5,c6,c7,c8,c9,c10,c11,c12,.int .i64 n,c14] K):n=d.stop:=by
 obtain ⟨a1,b1,a2,b2,a3,b3,K1,K2,K3,e,_⟩:=zbj h
 simp only [List.cons.injEq,Value.int.injEq,true_and,and_true] at e
 exact e.2.2.2.2.2.2.2.2.2.2.2.2.2.1
theorem EncO.chg {w w':World} {E:Nat} {d:WorldD} {cs:List Value} {K:List Nat} (h:EncO w E d cs K) (hc:ChgL [E] w w'):EncO w' E d cs K:=⟨Lay.own_chgL _ h.own hc (fun b hb hbE=>by simp only [List.mem_singleton] at hbE;subst hbE;exact h.ne hb),h.nd,h.ne⟩
theorem EncO.open {w:World} {E:Nat} {d:WorldD} {cs:List Value} {K:List Nat} (h:EncO w E d cs K):∃ p1 c1 p2 c2 p3 c3 K1 K2 K3,cs=[.int .i64 (d.shape 0),.int .i64 (d.shape 1),.int .i64 (d.shape 2),.int .i64 (d.shape 3),.int .i64 (d.shape 4),.int .i64 (d.shape 5),.int .i64 (d.shape 6),.int .i64 (d.shape 7),.int .i64 (d.shape 8),.slice p1 d.groups.1 c1,.slice p2 d.on.1 c2,.slice p3 d.tapes.1 c3,.int .i64 d.writes,.int .i64 d.stop,.bool d.down]∧K=K1++(K2++K3)∧WOpen w 0 w.heap.size d (.slice p1 d.groups.1 c1) (.slice p2 d.on.1 c2) (.slice p3 d.tapes.1 c3) K1 K2 K3:=by
 obtain ⟨a1,b1,a2,b2,a3,b3,K1,K2,K3,e,hM,o1,o2,o3,k0,k4,k5⟩:=zbj h.own;have hl:=fun b hb=>zab.own_lt h.own b hb;have nd:=h.nd;subst hM
 simp only [List.append_nil] at nd hl
 exact ⟨a1,b1,a2,b2,a3,b3,K1,K2,K3,e,by simp,o1,o2,o3,nd,fun b hb=>⟨Nat.zero_le _,hl b hb⟩,k0,k4,k5⟩
theorem WOpen.encO {w:World} {lo hi E:Nat} {d:WorldD} {p1 p2 p3:Option Addr} {c1 c2 c3:Nat} {K1 K2 K3:List Nat} (h:WOpen w lo hi d (.slice p1 d.groups.1 c1) (.slice p2 d.on.1 c2) (.slice p3 d.tapes.1 c3) K1 K2 K3) (hE:E∉K1++(K2++K3)):EncO w E d [.int .i64 (d.shape 0),.int .i64 (d.shape 1),.int .i64 (d.shape 2),.int .i64 (d.shape 3),.int .i64 (d.shape 4),.int .i64 (d.shape 5),.int .i64 (d.shape 6),.int .i64 (d.shape 7),.int .i64 (d.shape 8),.slice p1 d.groups.1 c1,.slice p2 d.on.1 c2,.slice p3 d.tapes.1 c3,.int .i64 d.writes,.int .i64 d.stop,.bool d.down] (K1++(K2++(K3++[]))):=
 ⟨zb4 d h.g h.o h.t h.k0 h.k4 h.k5,by simpa using h.nd,by simpa using hE⟩
theorem WOpen.drives2 {w:World} {lo hi:Nat} {d:WorldD} {v1 v2 v3:Value} {K1 K2 K3:List Nat} (h:WOpen w lo hi d v1 v2 v3 K1 K2 K3) (hhi:hi≤w.heap.size) (hlo:lo≤w.heap.size) {G:Nat} (hG:G<d.groups.1) (hD:(d.groups.2 G).1≠0) :
 ∃ g1 c1 g cap ce Ls,v1=.slice (some ⟨g1,0,none⟩) d.groups.1 c1∧w.cell? ⟨g1,G,none⟩=some (.slice (some ⟨g,0,none⟩) (d.groups.2 G).1 cap)∧SlO zaa 77 w g cap (d.groups.2 G).1 (d.groups.2 G).2 ce Ls∧(g::catN (d.groups.2 G).1 Ls).Nodup∧(∀ b,b∈g::catN (d.groups.2 G).1 Ls→b∈K1)∧g1∈K1∧g1∉g::catN (d.groups.2 G).1 Ls∧
  ∀ (w':World) (p:Nat×(Nat→DriveD)) (K':List Nat),Turn (zaa.slice 77) w (g::catN (d.groups.2 G).1 Ls) w' p [.slice (some ⟨g,0,none⟩) (d.groups.2 G).1 cap] K'→∃ K1',WOpen w' lo w'.heap.size { d with groups:=(d.groups.1,upd d.groups.2 G p) } v1 v2 v3 K1' K2 K3∧(∀ b,b∈K1'→b∈K1∨w.heap.size≤b)∧ChgL K1 w w':=by
 obtain ⟨g1,c1,ce1,Ls1,e1,eL1,S1⟩:=zbe h.g (by omega)
 cases e1
 subst eL1;have nd1:(g1::catN d.groups.1 Ls1).Nodup:=(List.nodup_append.1 h.nd).1;obtain ⟨g,cap,ce,Ls,e2,eL2,S2⟩:=zbe (S1.each G hG) hD
 have nd2:(g::catN (d.groups.2 G).1 Ls).Nodup:=by rw [← eL2];exact zcA (List.nodup_cons.1 nd1).2 hG
 have sub2:∀ b,b∈g::catN (d.groups.2 G).1 Ls→b∈g1::catN d.groups.1 Ls1:=fun b hb=>SlO.sub G hG b (by rw [eL2];exact hb);refine ⟨g1,c1,g,cap,ce,Ls,rfl,?_,S2,nd2,sub2,List.mem_cons_self ..,fun hb=>(List.nodup_cons.1 nd1).1 (zaw.2 ⟨G,hG,by rw [eL2];exact hb⟩),fun w' p K' ht=>?_⟩
 ·have:=S1.cell hG (j:=0) (by decide)
  have e:G*(zaa.slice 77).sz+0=G:=by show G*1+0=G;omega
  rw [e,e2] at this;exact this
 ·rw [← eL2,← e2] at ht
  have T1:=S1.turn_in nd1 hG ht;exact ⟨_,h.groups hhi hlo T1,fun b hb=>(T1.sub b hb).imp id (fun h=>h.1),T1.chg⟩
def zc8 (x:DriveD):DriveD:={ x with wiped:=false }
def zcN (d:WorldD) (G k:Nat):WorldD:={ d with groups:=(d.groups.1,upd d.groups.2 G ((d.groups.2 G).1,upd (d.groups.2 G).2 k (zc8 ((d.groups.2 G).2 k)))) }
set_option maxRecDepth 20000 in
theorem zgp (E:Nat) (d:WorldD) (cs:List Value) (K:List Nat) (q0 q1 G k:Nat) (hG:G<d.groups.1) (hk:k<(d.groups.2 G).1) (w:World) (hX:Box w E (([.int .i32 1,.int .u32 0,.int .u32 0,.int .i32 0,.int .u32 0]:List Value)++cs).toArray 110) (hO:EncO w E d cs K) (h0:w.cell? ⟨q0,0,none⟩=some (.int .i64 (G:Int))) (h1:w.cell? ⟨q1,0,none⟩=some (.int .i64 (k:Int))) :
 Calls Tryz.prog 74 #[.pointer (some ⟨E,5,none⟩),.pointer (some ⟨q0,0,none⟩),.pointer (some ⟨q1,0,none⟩)] w fun e w'=>e=.returned (.tuple #[])∧∃ cs' K',Box w' E (([.int .i32 1,.int .u32 0,.int .u32 0,.int .i32 0,.int .u32 0]:List Value)++cs').toArray 110∧EncO w' E (zcN d G k) cs' K'∧(∀ b,b∈K'→b∈K∨w.heap.size≤b)∧ChgL (E::K) w w':=by
 obtain ⟨p1,c1,p2,c2,p3,c3,K1,K2,K3,rfl,rfl,WO⟩:=hO.open;obtain ⟨g1,cc1,gg,cap,ce,Ls,e1,c0,S2,nd2,in2,in1,ng1,back⟩:=WO.drives2 (Nat.le_refl _) (Nat.zero_le _) hG (by omega)
 simp only [Value.slice.injEq,true_and] at e1
 obtain ⟨rfl,rfl⟩:=e1;obtain ⟨ao9,cap9,K9,e9,eK9,o9⟩:=zcZ (S2.each k hk);have xg:w.cell? ⟨E,14,none⟩=some (.slice (some ⟨g1,0,none⟩) d.groups.1 c1):=hX.cell 14;have y0:w.cell? ⟨gg,k*2,none⟩=some (.bool ((d.groups.2 G).2 k).wiped):=(S2.cell hk (j:=0) (by decide)).trans (by rw [e9];rfl);have f0:w.frozen? ⟨gg,k*2,none⟩=false:=S2.frozen _
 have i1:(0:Int)≤(G:Int):=by omega
 have i2:(G:Int)<(d.groups.1:Int):=by omega
 have i3:(0:Int)≤(k:Int):=by omega
 have i4:(k:Int)<((d.groups.2 G).1:Int):=by omega
 have hE1:E∉K1:=fun h=>hO.ne (List.mem_append_left _ h)
 have TK:Turn zaa w (Ls k) w (zc8 ((d.groups.2 G).2 k)) ((ce k).set 0 (.bool false)) (Ls k):=by
  rw [e9,eK9];exact ⟨zdy (zc8 ((d.groups.2 G).2 k)) o9,by rw [← eK9];exact zcA (List.nodup_cons.1 nd2).2 hk,fun b hb=>.inl hb,ChgL.refl _ _⟩
 obtain ⟨T7,-⟩:=S2.turn_cell nd2 hk (j:=0) (by decide) (.bool false) TK (w':=w.setCell ⟨gg,k*zaa.sz+0,none⟩ (.bool false)) rfl;obtain ⟨K1',WO7,sb7,ch7⟩:=back _ _ _ T7;have X7:=hX.chgl ch7 hE1;have HX7:=hid X7
 have hE7:E∉K1'++(K2++K3):=fun h=>by
  rcases List.mem_append.1 h with h | h
  ·rcases sb7 E h with h | h
   ·exact hE1 h
   ·have:=hX.lt;omega
  ·exact hO.ne (List.mem_append_right _ h)
 have O7:Hid (EncO (w.setCell ⟨gg,k*zaa.sz+0,none⟩ (.bool false)) E (zcN d G k) (rwW d (some ⟨g1,0,none⟩) c1 p2 c2 p3 c3) (K1'++(K2++(K3++[])))):=WO7.encO hE7
 have HS:Hid (∀ b,b∈K1'++(K2++(K3++[]))→b∈K1++(K2++K3)∨w.heap.size≤b):=fun b hb=>by
  simp only [List.append_nil] at hb
  rcases List.mem_append.1 hb with h | h
  ·exact (sb7 b h).imp (fun h=>List.mem_append_left _ h) id
  ·exact .inl (List.mem_append_right _ h)
 have HC:Hid (ChgL (E::(K1++(K2++K3))) w (w.setCell ⟨gg,k*zaa.sz+0,none⟩ (.bool false))):=ch7.mono (fun b hb=>List.mem_cons_of_mem _ (List.mem_append_left _ hb));have HS0:Hid (w.drew.cell? ⟨E,14,none⟩=some (.slice (some ⟨g1,0,none⟩) d.groups.1 c1)∧w.drew.cell? ⟨g1,G,none⟩=some (.slice (some ⟨gg,0,none⟩) (d.groups.2 G).1 cap)∧w.drew.cell? ⟨q0,0,none⟩=some (.int .i64 (G:Int))∧w.drew.cell? ⟨q1,0,none⟩=some (.int .i64 (k:Int))):=⟨xg,c0,h0,h1⟩;clear T7 WO7 back TK S2 nd2 X7 hX hO e9 eK9 o9 sb7 ch7 hE7
 go_enter Tryz.func74,Tryz.ntmps74
 go_upto_region 0 with fail
 refine zce 10 (fun w'=>w'.cell? ⟨E,14,none⟩=some (.slice (some ⟨g1,0,none⟩) d.groups.1 c1)∧w'.cell? ⟨g1,G,none⟩=some (.slice (some ⟨gg,0,none⟩) (d.groups.2 G).1 cap)∧w'.cell? ⟨q0,0,none⟩=some (.int .i64 (G:Int))∧w'.cell? ⟨q1,0,none⟩=some (.int .i64 (k:Int))) (by kernel_rfl) (HS0.out) (fun hHeld=>?_);refine ziV 0 rfl ?_
 try simp only [Act.put,SL]
 refine ziV 1 rfl ?_
 try simp only [Act.put,SL]
 refine ziV 2 rfl ?_
 try simp only [Act.put,SL]
 refine ziV 3 rfl ?_
 try simp only [Act.put,SL]
 refine ziV 4 rfl ?_
 try simp only [Act.put,SL]
 refine ziV 5 rfl ?_
 try simp only [Act.put,SL]
 refine ziV 6 rfl ?_
 try simp only [Act.put,SL]
 refine ziV 7 rfl ?_
 try simp only [Act.put,SL]
 refine ziV 8 rfl ?_
 try simp only [Act.put,SL]
 refine ziV 9 rfl ?_
 try simp only [Act.put,SL]
 refine zcc (o:=_) rfl (by kernel_rfl) (fun KC hKC=>?_);go_simp;refine hKC.out _ _ ?_;clear hKC KC
 try simp only [Act.put,SL]
 refine zcd (by kernel_rfl) ?_ _;go_wp2
 go_end0
 exact ⟨rfl,_,_,HX7.out,O7.out.chg (ChgL.refl [E] _).drew,HS.out,HC.out.drew⟩
def zgL (d:WorldD):Prop:=d.stop≠-1∧d.stop≤d.writes
def zeQ (d:WorldD) (G k:Nat):WorldD:={ zcN d G k with writes:=d.writes+1 }
def TrustAns (d:WorldD) (g k:Int) (r:WorldResultD):Prop:=(∃ x,x≠0∧AskAns d x∧r=⟨x,zd8⟩)∨(AskAns d 0∧((¬ zcB d.shape g k∧r=⟨3,zd8⟩)∨(zcB d.shape g k∧((¬ HasP d.on.1 d.on.2 g∧r=⟨8,zd8⟩)∨(HasP d.on.1 d.on.2 g∧((zgL d∧r=⟨9,cutW d⟩)∨(¬ zgL d∧r=⟨0,zeQ d g.toNat k.toNat⟩)))))))
theorem TrustAns.one {d:WorldD} {g k:Int} {r q:WorldResultD} (h:TrustAns d g k r) (l:TrustAns d g k q):r=q:=by
 rcases h with ⟨x,h1,h2,rfl⟩ | ⟨h1,h⟩<;>rcases l with ⟨y,k1,k2,rfl⟩ | ⟨k1,l⟩
 ·rw [h2.one k2]
 ·exact absurd (h2.one k1) h1
 ·exact absurd (k2.one h1) k1
 ·rcases h with ⟨h2,rfl⟩ | ⟨h2,h⟩<;>rcases l with ⟨k2,rfl⟩ | ⟨k2,l⟩
  ·rfl
  ·exact absurd k2 h2
  ·exact absurd h2 k2
  ·rcases h with ⟨h3,rfl⟩ | ⟨h3,h⟩<;>rcases l with ⟨k3,rfl⟩ | ⟨k3,l⟩
   ·rfl
   ·exact absurd k3 h3
   ·exact absurd h3 k3
   ·rcases h with ⟨h4,rfl⟩ | ⟨h4,rfl⟩<;>rcases l with ⟨k4,rfl⟩ | ⟨k4,rfl⟩
    ·rfl
    ·exact absurd h4 k4
    ·exact absurd k4 h4
    ·rfl
theorem ziW {d:WorldD} (h:AskAns d 0):d.down=false:=by
 rcases h with ⟨h,_⟩ | ⟨_,⟨_,h⟩ | ⟨h,_⟩⟩
 ·exact absurd rfl h
 ·cases h
 ·exact h
theorem WOpen.writes {w:World} {lo hi:Nat} {d:WorldD} {v1 v2 v3:Value} {K1 K2 K3:List Nat} (h:WOpen w lo hi d v1 v2 v3 K1 K2 K3) (n:Int) (hn:-9223372036854775808≤n∧n≤9223372036854775807):WOpen w lo hi { d with writes:=n } v1 v2 v3 K1 K2 K3:=⟨h.g,h.o,h.t,h.nd,h.inn,h.k0,hn,h.k5⟩
theorem zeR {d:WorldD} (h:OkWorld d):-9223372036854775808≤d.writes∧d.writes+1≤9223372036854775807:=by
 have hc:=h.count;unfold zeh InP at hc;omega
set_option maxRecDepth 20000 in
theorem zhh (b:Nat) (v0 v1 v2 v3 v4 v5 v6 v7 v8 vp0 vl0 vq0 vp1 vl1 vq1 vp2 vl2 vq2 v9 v10 vb:_) (w:World) (hB:Box w b #[.int .i64 v0,.int .i64 v1,.int .i64 v2,.int .i64 v3,.int .i64 v4,.int .i64 v5,.int .i64 v6,.int .i64 v7,.int .i64 v8,.slice vp0 vl0 vq0,.slice vp1 vl1 vq1,.slice vp2 vl2 vq2,.int .i64 v9,.int .i64 v10,.bool vb] 34) (hd:vb=false) (hs:v10≠-1) (hw:v10≤v9) :
 Calls Tryz.prog 22 #[.pointer (some ⟨b,0,none⟩)] w fun e w'=>e=.returned (.bool false)∧Box w' b #[.int .i64 v0,.int .i64 v1,.int .i64 v2,.int .i64 v3,.int .i64 v4,.int .i64 v5,.int .i64 v6,.int .i64 v7,.int .i64 v8,.slice vp0 vl0 vq0,.slice none 0 0,.slice vp2 vl2 vq2,.int .i64 v9,.int .i64 v10,.bool true] 34∧ChgL [b] w w':=by
 subst hd
 have d1:(v10 != -1)=true:=by simpa using hs
 have d2:decide (v10≤v9)=true:=by simpa using hw
 have x12:w.cell? ⟨b,12,none⟩=some (.int .i64 v9):=hB.cell 12;have x13:w.cell? ⟨b,13,none⟩=some (.int .i64 v10):=hB.cell 13;have x14:w.cell? ⟨b,14,none⟩=some (.bool false):=hB.cell 14;clear hs hw
 go_enter Tryz.func22,Tryz.ntmps22
 go_upto_region 3 with fail
 go_quiet (fail)
 go_upto_region 4 with fail
 obtain ⟨W,hW⟩:∃ x,x=w.drewN nq:=⟨_,rfl⟩;rw [← hW]
 have X1:Box W b (rwV v0 v1 v2 v3 v4 v5 v6 v7 v8 vp0 vl0 vq0 vp1 vl1 vq1 vp2 vl2 vq2 v9 v10 false).toArray 34:=by rw [hW];exact hB
 have C1:ChgL [b] w W:=by rw [hW];exact ⟨rfl,rfl,rfl,Nat.le_refl _,fun _ _ _=>rfl⟩
 clear hW x12 x13 x14 hB;have y0:W.cell? ⟨b,14,none⟩=some (.bool false):=X1.cell 14;have yf0:W.frozen? ⟨b,14,none⟩=false:=X1.frozen 14;have X2:Box (W.setCell ⟨b,14,none⟩ (.bool true)) b (rwV v0 v1 v2 v3 v4 v5 v6 v7 v8 vp0 vl0 vq0 vp1 vl1 vq1 vp2 vl2 vq2 v9 v10 true).toArray 34:=X1.setc 14 _;have y1:(W.setCell ⟨b,14,none⟩ (.bool true)).cell? ⟨b,10,none⟩=some (.slice vp1 vl1 vq1):=X2.cell 10;have yf1:(W.setCell ⟨b,14,none⟩ (.bool true)).frozen? ⟨b,10,none⟩=false:=X2.frozen 10;have X3:Box ((W.setCell ⟨b,14,none⟩ (.bool true)).setCell ⟨b,10,none⟩ (.slice none 0 0)) b (rwV v0 v1 v2 v3 v4 v5 v6 v7 v8 vp0 vl0 vq0 none 0 0 vp2 vl2 vq2 v9 v10 true).toArray 34:=X2.setc 10 _;have C3:ChgL [b] w ((W.setCell ⟨b,14,none⟩ (.bool true)).setCell ⟨b,10,none⟩ (.slice none 0 0)):=(C1.st _ 14 _ (by simp)).st _ 10 _ (by simp);clear X1 X2 C1;go_wp2;go_ret;exact ⟨rfl,X3,C3⟩
set_option maxRecDepth 20000 in
theorem zhX (b:Nat) (v0 v1 v2 v3 v4 v5 v6 v7 v8 vp0 vl0 vq0 vp1 vl1 vq1 vp2 vl2 vq2 v9 v10 vb:_) (w:World) (hB:Box w b #[.int .i64 v0,.int .i64 v1,.int .i64 v2,.int .i64 v3,.int .i64 v4,.int .i64 v5,.int .i64 v6,.int .i64 v7,.int .i64 v8,.slice vp0 vl0 vq0,.slice vp1 vl1 vq1,.slice vp2 vl2 vq2,.int .i64 v9,.int .i64 v10,.bool vb] 34) (hd:vb=false) (d1:(v10 != -1)=false) (hwr:-9223372036854775808≤v9∧v9+1≤9223372036854775807) :
 Calls Tryz.prog 22 #[.pointer (some ⟨b,0,none⟩)] w fun e w'=>e=.returned (.bool true)∧Box w' b #[.int .i64 v0,.int .i64 v1,.int .i64 v2,.int .i64 v3,.int .i64 v4,.int .i64 v5,.int .i64 v6,.int .i64 v7,.int .i64 v8,.slice vp0 vl0 vq0,.slice vp1 vl1 vq1,.slice vp2 vl2 vq2,.int .i64 (v9+1),.int .i64 v10,.bool vb] 34∧ChgL [b] w w':=by
 have HD:=hid hd;obtain ⟨vc,hvc⟩:∃ x:Bool,x=vb:=⟨_,rfl⟩
 have zz:IntKind.i64.wrap (v9+1)=v9+1:=by rw [IntKind.wrap_i64];omega
 have x12:w.cell? ⟨b,12,none⟩=some (.int .i64 v9):=hB.cell 12;have x13:w.cell? ⟨b,13,none⟩=some (.int .i64 v10):=hB.cell 13
 have x14:w.cell? ⟨b,14,none⟩=some (.bool false):=by rw [← HD.out];exact hB.cell 14
 clear hwr hd
 go_enter Tryz.func22,Tryz.ntmps22
 go_upto_region 3 with fail
 go_quiet (fail)
 go_upto_region 7 with fail
 obtain ⟨W,hW⟩:∃ x,x=w.drewN nq:=⟨_,rfl⟩;rw [← hW]
 have X1:Box W b (rwV v0 v1 v2 v3 v4 v5 v6 v7 v8 vp0 vl0 vq0 vp1 vl1 vq1 vp2 vl2 vq2 v9 v10 vb).toArray 34:=by rw [hW];exact hB
 have C1:ChgL [b] w W:=by rw [hW];exact ⟨rfl,rfl,rfl,Nat.le_refl _,fun _ _ _=>rfl⟩
 clear hW x12 x13 x14 hB;have y0:W.cell? ⟨b,12,none⟩=some (.int .i64 v9):=X1.cell 12;have yf0:W.frozen? ⟨b,12,none⟩=false:=X1.frozen 12;have X2:Box (W.setCell ⟨b,12,none⟩ (.int .i64 (v9+1))) b #[.int .i64 v0,.int .i64 v1,.int .i64 v2,.int .i64 v3,.int .i64 v4,.int .i64 v5,.int .i64 v6,.int .i64 v7,.int .i64 v8,.slice vp0 vl0 vq0,.slice vp1 vl1 vq1,.slice vp2 vl2 vq2,.int .i64 (v9+1),.int .i64 v10,.bool vb] 34:=X1.setc 12 _;have C2':ChgL [b] w (W.setCell ⟨b,12,none⟩ (.int .i64 (v9+1))):=C1.st _ 12 _ (by simp);clear X1 C1;go_wp2;go_ret;exact ⟨rfl,X2,C2'⟩
set_option maxRecDepth 20000 in
theorem zhY (b:Nat) (v0 v1 v2 v3 v4 v5 v6 v7 v8 vp0 vl0 vq0 vp1 vl1 vq1 vp2 vl2 vq2 v9 v10 vb:_) (w:World) (hB:Box w b #[.int .i64 v0,.int .i64 v1,.int .i64 v2,.int .i64 v3,.int .i64 v4,.int .i64 v5,.int .i64 v6,.int .i64 v7,.int .i64 v8,.slice vp0 vl0 vq0,.slice vp1 vl1 vq1,.slice vp2 vl2 vq2,.int .i64 v9,.int .i64 v10,.bool vb] 34) (hd:vb=false) (d1:(v10 != -1)=true) (d2:decide (v10≤v9)=false) (hwr:-9223372036854775808≤v9∧v9+1≤9223372036854775807) :
 Calls Tryz.prog 22 #[.pointer (some ⟨b,0,none⟩)] w fun e w'=>e=.returned (.bool true)∧Box w' b #[.int .i64 v0,.int .i64 v1,.int .i64 v2,.int .i64 v3,.int .i64 v4,.int .i64 v5,.int .i64 v6,.int .i64 v7,.int .i64 v8,.slice vp0 vl0 vq0,.slice vp1 vl1 vq1,.slice vp2 vl2 vq2,.int .i64 (v9+1),.int .i64 v10,.bool vb] 34∧ChgL [b] w w':=by
 have HD:=hid hd;obtain ⟨vc,hvc⟩:∃ x:Bool,x=vb:=⟨_,rfl⟩
 have zz:IntKind.i64.wrap (v9+1)=v9+1:=by rw [IntKind.wrap_i64];omega
 have x12:w.cell? ⟨b,12,none⟩=some (.int .i64 v9):=hB.cell 12;have x13:w.cell? ⟨b,13,none⟩=some (.int .i64 v10):=hB.cell 13
 have x14:w.cell? ⟨b,14,none⟩=some (.bool false):=by rw [← HD.out];exact hB.cell 14
 clear hwr hd
 go_enter Tryz.func22,Tryz.ntmps22
 go_upto_region 3 with fail
 go_quiet (fail)
 go_upto_region 7 with fail
 obtain ⟨W,hW⟩:∃ x,x=w.drewN nq:=⟨_,rfl⟩;rw [← hW]
 have X1:Box W b (rwV v0 v1 v2 v3 v4 v5 v6 v7 v8 vp0 vl0 vq0 vp1 vl1 vq1 vp2 vl2 vq2 v9 v10 vb).toArray 34:=by rw [hW];exact hB
 have C1:ChgL [b] w W:=by rw [hW];exact ⟨rfl,rfl,rfl,Nat.le_refl _,fun _ _ _=>rfl⟩
 clear hW x12 x13 x14 hB;have y0:W.cell? ⟨b,12,none⟩=some (.int .i64 v9):=X1.cell 12;have yf0:W.frozen? ⟨b,12,none⟩=false:=X1.frozen 12;have X2:Box (W.setCell ⟨b,12,none⟩ (.int .i64 (v9+1))) b #[.int .i64 v0,.int .i64 v1,.int .i64 v2,.int .i64 v3,.int .i64 v4,.int .i64 v5,.int .i64 v6,.int .i64 v7,.int .i64 v8,.slice vp0 vl0 vq0,.slice vp1 vl1 vq1,.slice vp2 vl2 vq2,.int .i64 (v9+1),.int .i64 v10,.bool vb] 34:=X1.setc 12 _;have C2':ChgL [b] w (W.setCell ⟨b,12,none⟩ (.int .i64 (v9+1))):=C1.st _ 12 _ (by simp);clear X1 C1;go_wp2;go_ret;exact ⟨rfl,X2,C2'⟩
theorem zij (b:Nat) (v0 v1 v2 v3 v4 v5 v6 v7 v8 vp0 vl0 vq0 vp1 vl1 vq1 vp2 vl2 vq2 v9 v10 vb:_) (w:World) (hB:Box w b #[.int .i64 v0,.int .i64 v1,.int .i64 v2,.int .i64 v3,.int .i64 v4,.int .i64 v5,.int .i64 v6,.int .i64 v7,.int .i64 v8,.slice vp0 vl0 vq0,.slice vp1 vl1 vq1,.slice vp2 vl2 vq2,.int .i64 v9,.int .i64 v10,.bool vb] 34) (hd:vb=false) (hpw:¬ (v10≠-1∧v10≤v9)) (hwr:-9223372036854775808≤v9∧v9+1≤9223372036854775807) :
 Calls Tryz.prog 22 #[.pointer (some ⟨b,0,none⟩)] w fun e w'=>e=.returned (.bool true)∧Box w' b #[.int .i64 v0,.int .i64 v1,.int .i64 v2,.int .i64 v3,.int .i64 v4,.int .i64 v5,.int .i64 v6,.int .i64 v7,.int .i64 v8,.slice vp0 vl0 vq0,.slice vp1 vl1 vq1,.slice vp2 vl2 vq2,.int .i64 (v9+1),.int .i64 v10,.bool vb] 34∧ChgL [b] w w':=by
 by_cases hs:v10=-1
 ·exact zhX b v0 v1 v2 v3 v4 v5 v6 v7 v8 vp0 vl0 vq0 vp1 vl1 vq1 vp2 vl2 vq2 v9 v10 vb w hB hd (by simpa using hs) hwr
 ·exact zhY b v0 v1 v2 v3 v4 v5 v6 v7 v8 vp0 vl0 vq0 vp1 vl1 vq1 vp2 vl2 vq2 v9 v10 vb w hB hd (by simpa using hs) (by simp only [decide_eq_false_iff_not];exact fun h=>hpw ⟨hs,h⟩) hwr
theorem zhZ:ElInfo zac 54 94 128 [.int .i64 0,.int .i64 0,.string ByteArray.empty,.int .i64 0,.int .i64 0,.int .i64 0,.slice none 0 0,.slice none 0 0,.slice none 0 0]:=⟨by decide,rfl,Tryz.underlying54,by kernel_rfl,by decide⟩
set_option maxRecDepth 20000 in
theorem zhi:ToV zac zaX 131:=fun cs d hi w r hhi hn=>by
 obtain ⟨ao6,cap6,ao7,cap7,ao8,cap8,rfl,h6,h7,h8,k0,k1,k2,k3,k4,k5⟩:=zbi r;clear r;unfold zaX at hn;have R6:=hid h6;have R7:=hid h7;have R8:=hid h8;clear h6 h7 h8;have Q0:=hid k0;have Q1:=hid k1;have Q2:=hid k2;have Q3:=hid k3;have Q4:=hid k4;have Q5:=hid k5;clear k0 k1 k2 k3 k4 k5;have T0:=zau w (rwR d ao6 cap6 ao7 cap7 ao8 cap8).toArray #[.int .i64 0,.int .i64 0,.string ByteArray.empty,.int .i64 0,.int .i64 0,.int .i64 0,.slice none 0 0,.slice none 0 0,.slice none 0 0] 94 94
 go_enter Tryz.func131,Tryz.ntmps131
 go_wp2_with fail
 refine (zdW _ d.rows hi _ (zaj.rd_below R6.out T0.bel hhi) (Nat.le_trans hhi T0.bel.size) (by omega)).mono ?_;rintro e w1 ⟨v0,rfl,o0,b0⟩;obtain ⟨bo6,bcap6,hv⟩:=zbL o0;obtain rfl:=zaH hv;clear hv;have T0c:=T0.call b0;have z0:=T0.b2.lt;have y0:=b0.size;have c0_6:w1.cell? ⟨w.heap.size,6,none⟩=some (.slice ao6 d.rows.1 cap6):=T0c.b1.cell 6;have c0f_6:w1.frozen? ⟨w.heap.size,6,none⟩=false:=T0c.b1.frozen 6;have T1x:Two w (w1.setCell ⟨w.heap.size,6,none⟩ (.slice bo6 d.rows.1 bcap6)) (rwR d bo6 bcap6 ao7 cap7 ao8 cap8).toArray #[.int .i64 0,.int .i64 0,.string ByteArray.empty,.int .i64 0,.int .i64 0,.int .i64 0,.slice none 0 0,.slice none 0 0,.slice none 0 0] 94 94:=⟨T0c.b1.stL [.slice bo6 d.rows.1 bcap6] 6,T0c.b2.seto _ _ (by omega),T0c.bel.setCell (Nat.le_refl _) _⟩;have O6_0:=(o0.stN w.heap.size 6 [.slice bo6 d.rows.1 bcap6] (by omega))
 have e1:(w1.setCell ⟨w.heap.size,6,none⟩ (.slice bo6 d.rows.1 bcap6)).heap.size=w1.heap.size:=by simp
 clear o0 b0
 go_upto_region 2 with fail
 obtain ⟨W1,hW1⟩:∃ x,x=w1.setCell ⟨w.heap.size,6,none⟩ (.slice bo6 d.rows.1 bcap6):=⟨_,rfl⟩
 have O6:Hid (OwnT zaj W1 (w.heap.size+1+1) (w1.heap.size) d.rows [.slice bo6 d.rows.1 bcap6]):=by rw [hW1];exact OwnT.weaken O6_0 (by simp) (Nat.le_refl _)
 rw [← hW1] at T1x e1 ⊢;clear hW1 O6_0 T0c c0_6 c0f_6;have a1_7:W1.cell? ⟨w.heap.size,7,none⟩=some (.slice ao7 d.data.1 cap7):=T1x.b1.cell 7
 go_wp2_with fail
 refine (zcC _ d.data hi _ (zae.rd_below R7.out T1x.bel hhi) (Nat.le_trans hhi T1x.bel.size) (by omega)).mono ?_;rintro e w2 ⟨v1,rfl,o1,b1⟩;obtain ⟨bo7,bcap7,hv⟩:=za5 o1;obtain rfl:=zaH hv;clear hv;have T1c:=T1x.call b1;have z1:=T1x.b2.lt;have y1:=b1.size;have c1_7:w2.cell? ⟨w.heap.size,7,none⟩=some (.slice ao7 d.data.1 cap7):=T1c.b1.cell 7;have c1f_7:w2.frozen? ⟨w.heap.size,7,none⟩=false:=T1c.b1.frozen 7;have T2x:Two w (w2.setCell ⟨w.heap.size,7,none⟩ (.slice bo7 d.data.1 bcap7)) (rwR d bo6 bcap6 bo7 bcap7 ao8 cap8).toArray #[.int .i64 0,.int .i64 0,.string ByteArray.empty,.int .i64 0,.int .i64 0,.int .i64 0,.slice none 0 0,.slice none 0 0,.slice none 0 0] 94 94:=⟨T1c.b1.stL [.slice bo7 d.data.1 bcap7] 7,T1c.b2.seto _ _ (by omega),T1c.bel.setCell (Nat.le_refl _) _⟩;have O6_1:=(O6.out.call b1).stN w.heap.size 7 [.slice bo7 d.data.1 bcap7] (by omega);have O7_1:=(o1.stN w.heap.size 7 [.slice bo7 d.data.1 bcap7] (by omega))
 have e2:(w2.setCell ⟨w.heap.size,7,none⟩ (.slice bo7 d.data.1 bcap7)).heap.size=w2.heap.size:=by simp
 clear o1 b1 O6 T1x a1_7
 go_upto_region 3 with fail
 obtain ⟨W2,hW2⟩:∃ x,x=w2.setCell ⟨w.heap.size,7,none⟩ (.slice bo7 d.data.1 bcap7):=⟨_,rfl⟩
 have O6:Hid (OwnT zaj W2 (w.heap.size+1+1) (w1.heap.size) d.rows [.slice bo6 d.rows.1 bcap6]):=by rw [hW2];exact O6_1
 have O7:Hid (OwnT zae W2 (W1.heap.size) (w2.heap.size) d.data [.slice bo7 d.data.1 bcap7]):=by rw [hW2];exact O7_1
 rw [← hW2] at T2x e2 ⊢;clear hW2 O6_1 O7_1 T1c c1_7 c1f_7;have a2_8:W2.cell? ⟨w.heap.size,8,none⟩=some (.slice ao8 d.delta.1 cap8):=T2x.b1.cell 8
 go_wp2_with fail
 refine (zcC _ d.delta hi _ (zae.rd_below R8.out T2x.bel hhi) (Nat.le_trans hhi T2x.bel.size) (by omega)).mono ?_;rintro e w3 ⟨v2,rfl,o2,b2⟩;obtain ⟨bo8,bcap8,hv⟩:=za5 o2;obtain rfl:=zaH hv;clear hv;have T2c:=T2x.call b2;have z2:=T2x.b2.lt;have y2:=b2.size;have c2_8:w3.cell? ⟨w.heap.size,8,none⟩=some (.slice ao8 d.delta.1 cap8):=T2c.b1.cell 8;have c2f_8:w3.frozen? ⟨w.heap.size,8,none⟩=false:=T2c.b1.frozen 8;have T3x:Two w (w3.setCell ⟨w.heap.size,8,none⟩ (.slice bo8 d.delta.1 bcap8)) (rwR d bo6 bcap6 bo7 bcap7 bo8 bcap8).toArray #[.int .i64 0,.int .i64 0,.string ByteArray.empty,.int .i64 0,.int .i64 0,.int .i64 0,.slice none 0 0,.slice none 0 0,.slice none 0 0] 94 94:=⟨T2c.b1.stL [.slice bo8 d.delta.1 bcap8] 8,T2c.b2.seto _ _ (by omega),T2c.bel.setCell (Nat.le_refl _) _⟩;have O6_2:=(O6.out.call b2).stN w.heap.size 8 [.slice bo8 d.delta.1 bcap8] (by omega);have O7_2:=(O7.out.call b2).stN w.heap.size 8 [.slice bo8 d.delta.1 bcap8] (by omega);have O8_2:=(o2.stN w.heap.size 8 [.slice bo8 d.delta.1 bcap8] (by omega))
 have e3:(w3.setCell ⟨w.heap.size,8,none⟩ (.slice bo8 d.delta.1 bcap8)).heap.size=w3.heap.size:=by simp
 clear o2 b2 O6 O7 T2x a2_8
 go_upto_region 4 with fail
 obtain ⟨W3,hW3⟩:∃ x,x=w3.setCell ⟨w.heap.size,8,none⟩ (.slice bo8 d.delta.1 bcap8):=⟨_,rfl⟩
 have O6:Hid (OwnT zaj W3 (w.heap.size+1+1) (w1.heap.size) d.rows [.slice bo6 d.rows.1 bcap6]):=by rw [hW3];exact O6_2
 have O7:Hid (OwnT zae W3 (W1.heap.size) (w2.heap.size) d.data [.slice bo7 d.data.1 bcap7]):=by rw [hW3];exact O7_2
 have O8:Hid (OwnT zae W3 (W2.heap.size) (w3.heap.size) d.delta [.slice bo8 d.delta.1 bcap8]):=by rw [hW3];exact O8_2
 rw [← hW3] at T3x e3 ⊢;clear hW3 O6_2 O7_2 O8_2 T2c c2_8 c2f_8;have y_0:W3.cell? ⟨w.heap.size,0,none⟩=some (.int .i64 d.kind):=T3x.b1.cell 0;have y_1:W3.cell? ⟨w.heap.size,1,none⟩=some (.int .i64 d.seq):=T3x.b1.cell 1;have y_2:W3.cell? ⟨w.heap.size,2,none⟩=some (.string d.name):=T3x.b1.cell 2;have y_3:W3.cell? ⟨w.heap.size,3,none⟩=some (.int .i64 d.length):=T3x.b1.cell 3;have y_4:W3.cell? ⟨w.heap.size,4,none⟩=some (.int .i64 d.group):=T3x.b1.cell 4;have y_5:W3.cell? ⟨w.heap.size,5,none⟩=some (.int .i64 d.row):=T3x.b1.cell 5;have y_6:W3.cell? ⟨w.heap.size,6,none⟩=some (.slice bo6 d.rows.1 bcap6):=T3x.b1.cell 6;have y_7:W3.cell? ⟨w.heap.size,7,none⟩=some (.slice bo7 d.data.1 bcap7):=T3x.b1.cell 7;have y_8:W3.cell? ⟨w.heap.size,8,none⟩=some (.slice bo8 d.delta.1 bcap8):=T3x.b1.cell 8;have r_0:W3.cell? ⟨w.heap.size+1,0,none⟩=some (.int .i64 0):=T3x.b2.cell 0;have rf_0:W3.frozen? ⟨w.heap.size+1,0,none⟩=false:=T3x.b2.frozen 0;have r_1:W3.cell? ⟨w.heap.size+1,1,none⟩=some (.int .i64 0):=T3x.b2.cell 1;have rf_1:W3.frozen? ⟨w.heap.size+1,1,none⟩=false:=T3x.b2.frozen 1;have r_2:W3.cell? ⟨w.heap.size+1,2,none⟩=some (.string ByteArray.empty):=T3x.b2.cell 2;have rf_2:W3.frozen? ⟨w.heap.size+1,2,none⟩=false:=T3x.b2.frozen 2;have r_3:W3.cell? ⟨w.heap.size+1,3,none⟩=some (.int .i64 0):=T3x.b2.cell 3;have rf_3:W3.frozen? ⟨w.heap.size+1,3,none⟩=false:=T3x.b2.frozen 3;have r_4:W3.cell? ⟨w.heap.size+1,4,none⟩=some (.int .i64 0):=T3x.b2.cell 4;have rf_4:W3.frozen? ⟨w.heap.size+1,4,none⟩=false:=T3x.b2.frozen 4;have r_5:W3.cell? ⟨w.heap.size+1,5,none⟩=some (.int .i64 0):=T3x.b2.cell 5;have rf_5:W3.frozen? ⟨w.heap.size+1,5,none⟩=false:=T3x.b2.frozen 5;have r_6:W3.cell? ⟨w.heap.size+1,6,none⟩=some (.slice none 0 0):=T3x.b2.cell 6;have rf_6:W3.frozen? ⟨w.heap.size+1,6,none⟩=false:=T3x.b2.frozen 6;have r_7:W3.cell? ⟨w.heap.size+1,7,none⟩=some (.slice none 0 0):=T3x.b2.cell 7;have rf_7:W3.frozen? ⟨w.heap.size+1,7,none⟩=false:=T3x.b2.frozen 7;have r_8:W3.cell? ⟨w.heap.size+1,8,none⟩=some (.slice none 0 0):=T3x.b2.cell 8;have rf_8:W3.frozen? ⟨w.heap.size+1,8,none⟩=false:=T3x.b2.frozen 8;have HB:=hid T3x.bel;have zz:=T3x.b2.lt;clear T3x;go_wp2;refine bodyPost_ret (v:=.agg (rwR d bo6 bcap6 bo7 bcap7 bo8 bcap8).toArray) (by simp [results,Tryz.results131,go_sem,r_0,y_0,r_1,y_1,r_2,y_2,r_3,y_3,r_4,y_4,r_5,y_5,r_6,y_6,r_7,y_7,r_8,y_8]) rfl ?_;have F:OwnT zac W3 (w.heap.size+1+1) w3.heap.size d ([.int .i64 d.kind]++([.int .i64 d.seq]++([.string d.name]++([.int .i64 d.length]++([.int .i64 d.group]++([.int .i64 d.row]++([.slice bo6 d.rows.1 bcap6]++([.slice bo7 d.data.1 bcap7]++[.slice bo8 d.delta.1 bcap8])))))))):=OwnT.conv (OwnT.pre (A:=layI) (a:=d.kind) (c:=[.int .i64 d.kind]) ⟨rfl,Q0.out,rfl⟩ (OwnT.pre (A:=layI) (a:=d.seq) (c:=[.int .i64 d.seq]) ⟨rfl,Q1.out,rfl⟩ (OwnT.pre (A:=layS) (a:=d.name) (c:=[.string d.name]) ⟨rfl,Q2.out,rfl⟩ (OwnT.pre (A:=layI) (a:=d.length) (c:=[.int .i64 d.length]) ⟨rfl,Q3.out,rfl⟩ (OwnT.pre (A:=layI) (a:=d.group) (c:=[.int .i64 d.group]) ⟨rfl,Q4.out,rfl⟩ (OwnT.pre (A:=layI) (a:=d.row) (c:=[.int .i64 d.row]) ⟨rfl,Q5.out,rfl⟩ (OwnT.two O6.out (OwnT.two O7.out O8.out (by omega) (by omega) (by omega)) (by omega) (by omega) (by omega))))))))
 refine ⟨(rwR d bo6 bcap6 bo7 bcap7 bo8 bcap8),rfl,?_,?_⟩
 ·exact OwnT.finb (F.weaken (Nat.le_refl _) (by omega)) (b:=w.heap.size+1) (by omega) (by omega) 0 (rwR d bo6 bcap6 bo7 bcap7 bo8 bcap8) _ rfl
 ·exact HB.out.trans (zaG (by omega) (rwR d bo6 bcap6 bo7 bcap7 bo8 bcap8) 0)
set_option maxRecDepth 20000 in
theorem zgq:ToF (zac.slice 94) (szSl zaX) 130 131:=fun v d hi w h hhi hn=>by
 obtain ⟨n,x⟩:=d;obtain ⟨ao,cap,hv,hm,hc⟩:=h
 cases hv
 have hn1:=zbQ hn;have hn2:∀ i,i<n→zaX (x i)≤1048576:=fun i hi=>za4 hn hi
 simp only at hn1 hm hc
 clear hn
 go_enter Tryz.func130,Tryz.ntmps130
 go_wp2_with (at_make;refine zbB zac [.int .i64 0,.int .i64 0,.string ByteArray.empty,.int .i64 0,.int .i64 0,.int .i64 0,.slice none 0 0,.slice none 0 0,.slice none 0 0] _ 94 128 (zhZ).hs rfl Tryz.underlying54 (zhZ).hi x (fun _=>[]) _ rfl _ _ rfl _ _ n rfl rfl rfl rfl (by omega) (by omega) ?_;intro w1 sp1 hb1)
 go_loopw [12] (fun i wr=>∃ k:Nat,k≤n∧i=.int .i64 k∧∃ ce Ls,SlP zac 94 wr w.heap.size w.heap.size n n k x ce Ls∧Below w.heap.size w wr) (fun i _=>n-(intOf i).toNat)
 case atStart=>exact ⟨0,Nat.zero_le _,rfl,_,_,sp1,hb1⟩
 case round=>
  clear sp1 hb1;obtain ⟨k,hk,rfl,ce,Ls,sp,hb⟩:=hrel
  by_cases hlt:k<n
  ·obtain ⟨b,off,rfl,hblt,hel⟩:=hc (by omega)
   obtain ⟨ck,hrk,hcell⟩:=zar (t:=0) hel hb hhi hblt hlt;obtain ⟨ao6,cap6,ao7,cap7,ao8,cap8,rfl,-⟩:=zbi hrk;have c0:wr.cell? ⟨b,off+k*9,none⟩=some (.int .i64 (x k).kind):=hcell 0 (by decide);have c1:wr.cell? ⟨b,off+k*9+1,none⟩=some (.int .i64 (x k).seq):=hcell 1 (by decide);have c2:wr.cell? ⟨b,off+k*9+2,none⟩=some (.string (x k).name):=hcell 2 (by decide);have c3:wr.cell? ⟨b,off+k*9+3,none⟩=some (.int .i64 (x k).length):=hcell 3 (by decide);have c4:wr.cell? ⟨b,off+k*9+4,none⟩=some (.int .i64 (x k).group):=hcell 4 (by decide);have c5:wr.cell? ⟨b,off+k*9+5,none⟩=some (.int .i64 (x k).row):=hcell 5 (by decide);have c6:wr.cell? ⟨b,off+k*9+6,none⟩=some (.slice ao6 (x k).rows.1 cap6):=hcell 6 (by decide);have c7:wr.cell? ⟨b,off+k*9+7,none⟩=some (.slice ao7 (x k).data.1 cap7):=hcell 7 (by decide);have c8:wr.cell? ⟨b,off+k*9+8,none⟩=some (.slice ao8 (x k).delta.1 cap8):=hcell 8 (by decide);clear hc hel hcell
   go_wp2_with fail
   refine (zhi _ (x k) hi wr hrk (Nat.le_trans hhi hb.size) (hn2 k hlt)).mono ?_;rintro e w2 ⟨cs',rfl,o2,hb2⟩;obtain ⟨bao6,bcap6,bao7,bcap7,bao8,bcap8,rfl⟩:=zdK o2;obtain ⟨z0,s0⟩:=sp.some hb2 hlt (show 0<zac.sz by decide);have s0:w2.cell? ⟨w.heap.size,k*9,none⟩=some z0:=s0;have sf0:=(sp.below hb2).frozen (k*9);obtain ⟨z1,s1⟩:=sp.some hb2 hlt (show 1<zac.sz by decide);have s1:w2.cell? ⟨w.heap.size,k*9+1,none⟩=some z1:=s1;have sf1:=(sp.below hb2).frozen (k*9+1);obtain ⟨z2,s2⟩:=sp.some hb2 hlt (show 2<zac.sz by decide);have s2:w2.cell? ⟨w.heap.size,k*9+2,none⟩=some z2:=s2;have sf2:=(sp.below hb2).frozen (k*9+2);obtain ⟨z3,s3⟩:=sp.some hb2 hlt (show 3<zac.sz by decide);have s3:w2.cell? ⟨w.heap.size,k*9+3,none⟩=some z3:=s3;have sf3:=(sp.below hb2).frozen (k*9+3);obtain ⟨z4,s4⟩:=sp.some hb2 hlt (show 4<zac.sz by decide);have s4:w2.cell? ⟨w.heap.size,k*9+4,none⟩=some z4:=s4;have sf4:=(sp.below hb2).frozen (k*9+4);obtain ⟨z5,s5⟩:=sp.some hb2 hlt (show 5<zac.sz by decide);have s5:w2.cell? ⟨w.heap.size,k*9+5,none⟩=some z5:=s5;have sf5:=(sp.below hb2).frozen (k*9+5);obtain ⟨z6,s6⟩:=sp.some hb2 hlt (show 6<zac.sz by decide);have s6:w2.cell? ⟨w.heap.size,k*9+6,none⟩=some z6:=s6;have sf6:=(sp.below hb2).frozen (k*9+6);obtain ⟨z7,s7⟩:=sp.some hb2 hlt (show 7<zac.sz by decide);have s7:w2.cell? ⟨w.heap.size,k*9+7,none⟩=some z7:=s7;have sf7:=(sp.below hb2).frozen (k*9+7);obtain ⟨z8,s8⟩:=sp.some hb2 hlt (show 8<zac.sz by decide);have s8:w2.cell? ⟨w.heap.size,k*9+8,none⟩=some z8:=s8;have sf8:=(sp.below hb2).frozen (k*9+8);have N:=sp.next hb2 hlt o2 hb.size;have N2:Below w.heap.size w (stN w2 w.heap.size (k*zac.sz) [.int .i64 (x k).kind,.int .i64 (x k).seq,.string (x k).name,.int .i64 (x k).length,.int .i64 (x k).group,.int .i64 (x k).row,.slice bao6 (x k).rows.1 bcap6,.slice bao7 (x k).data.1 bcap7,.slice bao8 (x k).delta.1 bcap8]):=(hb.trans (hb2.mono hb.size)).trans (zaG (Nat.le_refl _) _ _);clear o2 hb2 sp hb
   go_wp2_with fail
   go_roundw
   case rel=>
    obtain ⟨ce',Ls',N⟩:=N;exact ⟨k+1,by omega,by go_num,ce',Ls',N,N2⟩
   case measure=>simp [intOf];omega
  ·obtain rfl:k=n:=by omega
   go_wp2;go_ret;exact ⟨_,rfl,sp.done (Nat.le_refl _),hb⟩
set_option maxRecDepth 20000 in
theorem zgr:ToV zah zaN 95:=fun cs d hi w r hhi hn=>by
 obtain ⟨ao1,cap1,rfl,h1⟩:=za7 r;clear r;unfold zaN at hn;have R1:=hid h1;clear h1;have T0:=zau w #[.bool d.wiped,.slice ao1 d.recs.1 cap1] #[.bool false,.slice none 0 0] 57 57
 go_enter Tryz.func95,Tryz.ntmps95
 go_wp2_with fail
 refine (zgq _ d.recs hi _ ((zac.slice 94).rd_below R1.out T0.bel hhi) (Nat.le_trans hhi T0.bel.size) (by omega)).mono ?_;rintro e w1 ⟨v0,rfl,o0,b0⟩;obtain ⟨bo1,bcap1,hv⟩:=zbr o0;obtain rfl:=zaH hv;clear hv;have T0c:=T0.call b0;have z0:=T0.b2.lt;have y0:=b0.size;have c0_1:w1.cell? ⟨w.heap.size,1,none⟩=some (.slice ao1 d.recs.1 cap1):=T0c.b1.cell 1;have c0f_1:w1.frozen? ⟨w.heap.size,1,none⟩=false:=T0c.b1.frozen 1;have T1x:Two w (w1.setCell ⟨w.heap.size,1,none⟩ (.slice bo1 d.recs.1 bcap1)) #[.bool d.wiped,.slice bo1 d.recs.1 bcap1] #[.bool false,.slice none 0 0] 57 57:=⟨T0c.b1.stL [.slice bo1 d.recs.1 bcap1] 1,T0c.b2.seto _ _ (by omega),T0c.bel.setCell (Nat.le_refl _) _⟩;have O1_0:=(o0.stN w.heap.size 1 [.slice bo1 d.recs.1 bcap1] (by omega))
 have e1:(w1.setCell ⟨w.heap.size,1,none⟩ (.slice bo1 d.recs.1 bcap1)).heap.size=w1.heap.size:=by simp
 clear o0 b0
 go_upto_region 2 with fail
 obtain ⟨W1,hW1⟩:∃ x,x=w1.setCell ⟨w.heap.size,1,none⟩ (.slice bo1 d.recs.1 bcap1):=⟨_,rfl⟩
 have O1:Hid (OwnT (zac.slice 94) W1 (w.heap.size+1+1) (w1.heap.size) d.recs [.slice bo1 d.recs.1 bcap1]):=by rw [hW1];exact OwnT.weaken O1_0 (by simp) (Nat.le_refl _)
 rw [← hW1] at T1x e1 ⊢;clear hW1 O1_0 T0c c0_1 c0f_1;have y_0:W1.cell? ⟨w.heap.size,0,none⟩=some (.bool d.wiped):=T1x.b1.cell 0;have y_1:W1.cell? ⟨w.heap.size,1,none⟩=some (.slice bo1 d.recs.1 bcap1):=T1x.b1.cell 1;have r_0:W1.cell? ⟨w.heap.size+1,0,none⟩=some (.bool false):=T1x.b2.cell 0;have rf_0:W1.frozen? ⟨w.heap.size+1,0,none⟩=false:=T1x.b2.frozen 0;have r_1:W1.cell? ⟨w.heap.size+1,1,none⟩=some (.slice none 0 0):=T1x.b2.cell 1;have rf_1:W1.frozen? ⟨w.heap.size+1,1,none⟩=false:=T1x.b2.frozen 1;have HB:=hid T1x.bel;have zz:=T1x.b2.lt;clear T1x;go_wp2;refine bodyPost_ret (v:=.agg #[.bool d.wiped,.slice bo1 d.recs.1 bcap1]) (by simp [results,Tryz.results95,go_sem,r_0,y_0,r_1,y_1]) rfl ?_;have F:OwnT zah W1 (w.heap.size+1+1) w1.heap.size d ([.bool d.wiped]++[.slice bo1 d.recs.1 bcap1]):=OwnT.conv (OwnT.pre (A:=layB) (a:=d.wiped) (c:=[.bool d.wiped]) ⟨rfl,trivial,rfl⟩ O1.out);refine ⟨[.bool d.wiped,.slice bo1 d.recs.1 bcap1],rfl,?_,?_⟩
 ·exact OwnT.finb (F.weaken (Nat.le_refl _) (by omega)) (b:=w.heap.size+1) (by omega) (by omega) 0 [.bool d.wiped,.slice bo1 d.recs.1 bcap1] _ rfl
 ·exact HB.out.trans (zaG (by omega) [.bool d.wiped,.slice bo1 d.recs.1 bcap1] 0)
set_option maxRecDepth 20000 in
theorem zfy:ToF (zah.slice 57) (szSl zaN) 94 95:=fun v d hi w h hhi hn=>by
 obtain ⟨n,x⟩:=d;obtain ⟨ao,cap,hv,hm,hc⟩:=h
 cases hv
 have hn1:=zbQ hn;have hn2:∀ i,i<n→zaN (x i)≤1048576:=fun i hi=>za4 hn hi
 simp only at hn1 hm hc
 clear hn
 go_enter Tryz.func94,Tryz.ntmps94
 go_wp2_with (at_make;refine zbB zah [.bool false,.slice none 0 0] _ 57 32 (zf5).hs rfl Tryz.underlying32 (zf5).hi x (fun _=>[]) _ rfl _ _ rfl _ _ n rfl rfl rfl rfl (by omega) (by omega) ?_;intro w1 sp1 hb1)
 go_loopw [12] (fun i wr=>∃ k:Nat,k≤n∧i=.int .i64 k∧∃ ce Ls,SlP zah 57 wr w.heap.size w.heap.size n n k x ce Ls∧Below w.heap.size w wr) (fun i _=>n-(intOf i).toNat)
 case atStart=>exact ⟨0,Nat.zero_le _,rfl,_,_,sp1,hb1⟩
 case round=>
  clear sp1 hb1;obtain ⟨k,hk,rfl,ce,Ls,sp,hb⟩:=hrel
  by_cases hlt:k<n
  ·obtain ⟨b,off,rfl,hblt,hel⟩:=hc (by omega)
   obtain ⟨ck,hrk,hcell⟩:=zar (t:=0) hel hb hhi hblt hlt;obtain ⟨ao1,cap1,rfl,-⟩:=za7 hrk;have c0:wr.cell? ⟨b,off+k*2,none⟩=some (.bool (x k).wiped):=hcell 0 (by decide);have c1:wr.cell? ⟨b,off+k*2+1,none⟩=some (.slice ao1 (x k).recs.1 cap1):=hcell 1 (by decide);clear hc hel hcell
   go_wp2_with fail
   refine (zgr _ (x k) hi wr hrk (Nat.le_trans hhi hb.size) (hn2 k hlt)).mono ?_;rintro e w2 ⟨cs',rfl,o2,hb2⟩;obtain ⟨bao1,bcap1,rfl⟩:=zef o2;obtain ⟨z0,s0⟩:=sp.some hb2 hlt (show 0<zah.sz by decide);have s0:w2.cell? ⟨w.heap.size,k*2,none⟩=some z0:=s0;have sf0:=(sp.below hb2).frozen (k*2);obtain ⟨z1,s1⟩:=sp.some hb2 hlt (show 1<zah.sz by decide);have s1:w2.cell? ⟨w.heap.size,k*2+1,none⟩=some z1:=s1;have sf1:=(sp.below hb2).frozen (k*2+1);have N:=sp.next hb2 hlt o2 hb.size;have N2:Below w.heap.size w (stN w2 w.heap.size (k*zah.sz) [.bool (x k).wiped,.slice bao1 (x k).recs.1 bcap1]):=(hb.trans (hb2.mono hb.size)).trans (zaG (Nat.le_refl _) _ _);clear o2 hb2 sp hb
   go_wp2_with fail
   go_roundw
   case rel=>
    obtain ⟨ce',Ls',N⟩:=N;exact ⟨k+1,by omega,by go_num,ce',Ls',N,N2⟩
   case measure=>simp [intOf];omega
  ·obtain rfl:k=n:=by omega
   go_wp2;go_ret;exact ⟨_,rfl,sp.done (Nat.le_refl _),hb⟩
set_option maxRecDepth 20000 in
theorem zea:ToV zag zax 50:=fun cs d hi w r hhi hn=>by
 obtain ⟨ao1,cap1,rfl,h1,k0⟩:=za6 r;clear r;unfold zax lenD at hn;have Q0:=hid k0;clear k0;have T0:=zau w #[.int .i64 d.stamp,.slice ao1 d.bytes.1 cap1] #[.int .i64 0,.slice none 0 0] 90 90;obtain ⟨W0,hW0⟩:∃ x,x=(w.alloc (.cells #[.int .i64 d.stamp,.slice ao1 d.bytes.1 cap1] 90)).alloc (.cells #[.int .i64 0,.slice none 0 0] 90):=⟨_,rfl⟩;rw [← hW0] at T0;have bA:=bAl W0 (.cells #[] 5);have TA:=T0.call bA
 have z0:W0.heap.size=w.heap.size+1+1:=by rw [hW0];simp
 obtain ⟨v',w1,hrun,o1,b1'⟩:=zcD 88 (W0.alloc (.cells #[] 5)).drew W0.heap.size (zdX W0 5) (zae.rd_below (B:=hi) (zae.rd_below h1 TA.bel hhi) ⟨rfl,rfl,rfl,Nat.le_refl _,fun _ _=>rfl⟩ (Nat.le_refl _)) (show d.bytes.1≤10000000 by omega);have b1:Below W0.heap.size (W0.alloc (.cells #[] 5)) w1:=⟨b1'.os,b1'.tape,b1'.output,b1'.size,b1'.block⟩;obtain ⟨bo,bc,hv⟩:=za5 o1;obtain rfl:=zaH hv;have T1:Two w w1 #[.int .i64 d.stamp,.slice ao1 d.bytes.1 cap1] #[.int .i64 0,.slice none 0 0] 90 90:=⟨TA.b1.below b1 (by omega),TA.b2.below b1 (by omega),TA.bel.trans (b1.mono (by omega))⟩;have x0_0:W0.cell? ⟨w.heap.size,0,none⟩=some (.int .i64 d.stamp):=T0.b1.cell 0;have x0_1:W0.cell? ⟨w.heap.size,1,none⟩=some (.slice ao1 d.bytes.1 cap1):=T0.b1.cell 1;have xa_0:(W0.alloc (.cells #[] 5)).cell? ⟨w.heap.size,0,none⟩=some (.int .i64 d.stamp):=TA.b1.cell 0;have xa_1:(W0.alloc (.cells #[] 5)).cell? ⟨w.heap.size,1,none⟩=some (.slice ao1 d.bytes.1 cap1):=TA.b1.cell 1;have x1_0:w1.cell? ⟨w.heap.size,0,none⟩=some (.int .i64 d.stamp):=T1.b1.cell 0;have x1_1:w1.cell? ⟨w.heap.size,1,none⟩=some (.slice ao1 d.bytes.1 cap1):=T1.b1.cell 1;have r1_0:w1.cell? ⟨w.heap.size+1,0,none⟩=some (.int .i64 0):=T1.b2.cell 0;have r1f_0:w1.frozen? ⟨w.heap.size+1,0,none⟩=false:=T1.b2.frozen 0;have r1_1:w1.cell? ⟨w.heap.size+1,1,none⟩=some (.slice none 0 0):=T1.b2.cell 1;have r1f_1:w1.frozen? ⟨w.heap.size+1,1,none⟩=false:=T1.b2.frozen 1;have HO:=hid o1;have HT:=hid T1;have zw:W0.heap.size≤w1.heap.size:=Nat.le_trans bA.size b1.size;clear T0 TA T1 o1 b1 b1' bA h1 hv
 go_enter Tryz.func50,Tryz.ntmps50
 go_upto_region 1 with fail
 rw [← hW0];clear hW0
 go_region_law (refine zhS rfl (.tmp 5) (.tmp 7) rfl ?_ ?_ hrun ?_;(simp [Act.eval,Act.put]);(simp [Act.eval,Act.put]))
 all_goals
  go_wp2;refine bodyPost_ret (v:=.agg #[.int .i64 d.stamp,.slice bo d.bytes.1 bc]) (by simp [results,Tryz.results50,go_sem,r1_0,r1_1]) rfl ?_;have F:OwnT zag w1 (w.heap.size+1+1) w1.heap.size d ([.int .i64 d.stamp]++[.slice bo d.bytes.1 bc]):=OwnT.conv (OwnT.pre (A:=layI) (a:=d.stamp) (c:=[.int .i64 d.stamp]) ⟨rfl,Q0.out,rfl⟩ (HO.out.weaken (by omega) (Nat.le_refl _)));refine ⟨[.int .i64 d.stamp,.slice bo d.bytes.1 bc],rfl,?_,?_⟩
  ·exact OwnT.finb F (b:=w.heap.size+1) (by omega) (by omega) 0 [.int .i64 d.stamp,.slice bo d.bytes.1 bc] _ rfl
  ·exact HT.out.bel.trans (zaG (by omega) [.int .i64 d.stamp,.slice bo d.bytes.1 bc] 0)
set_option maxRecDepth 20000 in
theorem zfz:ToV zac zaX 81:=fun cs d hi w r hhi hn=>by
 obtain ⟨ao6,cap6,ao7,cap7,ao8,cap8,rfl,h6,h7,h8,k0,k1,k2,k3,k4,k5⟩:=zbi r;clear r;unfold zaX lenD at hn;have Q0:=hid k0;have Q1:=hid k1;have Q3:=hid k3;have Q4:=hid k4;have Q5:=hid k5;have Q2:=hid k2;clear k0 k1 k2 k3 k4 k5;have T0:=zau w (rwR d ao6 cap6 ao7 cap7 ao8 cap8).toArray #[.int .i64 0,.int .i64 0,.string ⟨#[]⟩,.int .i64 0,.int .i64 0,.int .i64 0,.slice none 0 0,.slice none 0 0,.slice none 0 0] 94 94
 go_enter Tryz.func81,Tryz.ntmps81
 go_upto_region 1 with fail
 obtain ⟨W0,hW0⟩:∃ x,x=(w.alloc (.cells (rwR d ao6 cap6 ao7 cap7 ao8 cap8).toArray 94)).alloc (.cells #[.int .i64 0,.int .i64 0,.string ⟨#[]⟩,.int .i64 0,.int .i64 0,.int .i64 0,.slice none 0 0,.slice none 0 0,.slice none 0 0] 94):=⟨_,rfl⟩
 have z0:W0.heap.size=w.heap.size+1+1:=by rw [hW0];simp
 rw [← hW0] at T0 ⊢;clear hW0;have bA0:=bAl W0 (.cells #[] 2);have TA0:=T0.call bA0;obtain ⟨v',w1,hrun,o0,b0⟩:=zds 25 (W0.alloc (.cells #[] 2)) W0.heap.size (zdX W0 2) (zaj.rd_below h6 TA0.bel hhi) (show d.rows.1≤10000000 by omega);obtain ⟨bo6,bcap6,hv⟩:=zbL o0;obtain rfl:=zaH hv;clear hv;have zw0:W0.heap.size+1≤w1.heap.size:=Nat.le_trans (by simp) b0.size;have TB0:Two w w1 (rwR d ao6 cap6 ao7 cap7 ao8 cap8).toArray #[.int .i64 0,.int .i64 0,.string ⟨#[]⟩,.int .i64 0,.int .i64 0,.int .i64 0,.slice none 0 0,.slice none 0 0,.slice none 0 0] 94 94:=⟨TA0.b1.below b0 (by omega),TA0.b2.below b0 (by omega),TA0.bel.trans (b0.mono (by omega))⟩;have xa:(W0.alloc (.cells #[] 2)).cell? ⟨w.heap.size,6,none⟩=some (.slice ao6 d.rows.1 cap6):=TA0.b1.cell 6;have xb:w1.cell? ⟨w.heap.size,6,none⟩=some (.slice ao6 d.rows.1 cap6):=TB0.b1.cell 6;have xf:w1.frozen? ⟨w.heap.size,6,none⟩=false:=TB0.b1.frozen 6;have T1:Two w (w1.setCell ⟨w.heap.size,6,none⟩ (.slice bo6 d.rows.1 bcap6)) (rwR d bo6 bcap6 ao7 cap7 ao8 cap8).toArray #[.int .i64 0,.int .i64 0,.string ⟨#[]⟩,.int .i64 0,.int .i64 0,.int .i64 0,.slice none 0 0,.slice none 0 0,.slice none 0 0] 94 94:=⟨TB0.b1.stL [.slice bo6 d.rows.1 bcap6] 6,TB0.b2.seto _ _ (by omega),TB0.bel.setCell (Nat.le_refl _) _⟩;have O6x:=o0.stN w.heap.size 6 [.slice bo6 d.rows.1 bcap6] (by omega)
 have e0:(w1.setCell ⟨w.heap.size,6,none⟩ (.slice bo6 d.rows.1 bcap6)).heap.size=w1.heap.size:=by simp
 clear TA0 TB0 o0 b0 bA0 T0
 go_upto_region 2 with (at_builtin;refine zeN rfl (.tmp 3) (.tmp 5) rfl ?_ ?_ hrun ?_;(simp [Act.eval]);(simp [Act.eval]))
 obtain ⟨W1,hW1⟩:∃ x,x=w1.setCell ⟨w.heap.size,6,none⟩ (.slice bo6 d.rows.1 bcap6):=⟨_,rfl⟩
 have O6:Hid (OwnT zaj W1 W0.heap.size w1.heap.size d.rows [.slice bo6 d.rows.1 bcap6]):=by rw [hW1];exact O6x
 rw [← hW1] at T1 e0 ⊢;clear hW1 hrun xa xb xf O6x;have bA1:=bAl W1 (.cells #[] 5);have TA1:=T1.call bA1;obtain ⟨v',w2,hrun,o1,b1⟩:=zcD 88 (W1.alloc (.cells #[] 5)) W1.heap.size (zdX W1 5) (zae.rd_below h7 TA1.bel hhi) (show d.data.1≤10000000 by omega);obtain ⟨bo7,bcap7,hv⟩:=za5 o1;obtain rfl:=zaH hv;clear hv;have zw1:W1.heap.size+1≤w2.heap.size:=Nat.le_trans (by simp) b1.size;have TB1:Two w w2 (rwR d bo6 bcap6 ao7 cap7 ao8 cap8).toArray #[.int .i64 0,.int .i64 0,.string ⟨#[]⟩,.int .i64 0,.int .i64 0,.int .i64 0,.slice none 0 0,.slice none 0 0,.slice none 0 0] 94 94:=⟨TA1.b1.below b1 (by omega),TA1.b2.below b1 (by omega),TA1.bel.trans (b1.mono (by omega))⟩;have xa:(W1.alloc (.cells #[] 5)).cell? ⟨w.heap.size,7,none⟩=some (.slice ao7 d.data.1 cap7):=TA1.b1.cell 7;have xb:w2.cell? ⟨w.heap.size,7,none⟩=some (.slice ao7 d.data.1 cap7):=TB1.b1.cell 7;have xf:w2.frozen? ⟨w.heap.size,7,none⟩=false:=TB1.b1.frozen 7;have T2:Two w (w2.setCell ⟨w.heap.size,7,none⟩ (.slice bo7 d.data.1 bcap7)) (rwR d bo6 bcap6 bo7 bcap7 ao8 cap8).toArray #[.int .i64 0,.int .i64 0,.string ⟨#[]⟩,.int .i64 0,.int .i64 0,.int .i64 0,.slice none 0 0,.slice none 0 0,.slice none 0 0] 94 94:=⟨TB1.b1.stL [.slice bo7 d.data.1 bcap7] 7,TB1.b2.seto _ _ (by omega),TB1.bel.setCell (Nat.le_refl _) _⟩;have O6x:=((O6.out.call bA1).below b1 (by omega)).stN w.heap.size 7 [.slice bo7 d.data.1 bcap7] (by omega);have O7x:=o1.stN w.heap.size 7 [.slice bo7 d.data.1 bcap7] (by omega)
 have e1:(w2.setCell ⟨w.heap.size,7,none⟩ (.slice bo7 d.data.1 bcap7)).heap.size=w2.heap.size:=by simp
 clear TA1 TB1 o1 b1 bA1 T1 O6
 go_upto_region 3 with (at_builtin;refine zeN rfl (.tmp 8) (.tmp 10) rfl ?_ ?_ hrun ?_;(simp [Act.eval]);(simp [Act.eval]))
 obtain ⟨W2,hW2⟩:∃ x,x=w2.setCell ⟨w.heap.size,7,none⟩ (.slice bo7 d.data.1 bcap7):=⟨_,rfl⟩
 have O6:Hid (OwnT zaj W2 W0.heap.size w1.heap.size d.rows [.slice bo6 d.rows.1 bcap6]):=by rw [hW2];exact O6x
 have O7:Hid (OwnT zae W2 W1.heap.size w2.heap.size d.data [.slice bo7 d.data.1 bcap7]):=by rw [hW2];exact O7x
 rw [← hW2] at T2 e1 ⊢;clear hW2 hrun xa xb xf O6x O7x;have bA2:=bAl W2 (.cells #[] 5);have TA2:=T2.call bA2;obtain ⟨v',w3,hrun,o2,b2⟩:=zcD 88 (W2.alloc (.cells #[] 5)) W2.heap.size (zdX W2 5) (zae.rd_below h8 TA2.bel hhi) (show d.delta.1≤10000000 by omega);obtain ⟨bo8,bcap8,hv⟩:=za5 o2;obtain rfl:=zaH hv;clear hv;have zw2:W2.heap.size+1≤w3.heap.size:=Nat.le_trans (by simp) b2.size;have TB2:Two w w3 (rwR d bo6 bcap6 bo7 bcap7 ao8 cap8).toArray #[.int .i64 0,.int .i64 0,.string ⟨#[]⟩,.int .i64 0,.int .i64 0,.int .i64 0,.slice none 0 0,.slice none 0 0,.slice none 0 0] 94 94:=⟨TA2.b1.below b2 (by omega),TA2.b2.below b2 (by omega),TA2.bel.trans (b2.mono (by omega))⟩;have xa:(W2.alloc (.cells #[] 5)).cell? ⟨w.heap.size,8,none⟩=some (.slice ao8 d.delta.1 cap8):=TA2.b1.cell 8;have xb:w3.cell? ⟨w.heap.size,8,none⟩=some (.slice ao8 d.delta.1 cap8):=TB2.b1.cell 8;have xf:w3.frozen? ⟨w.heap.size,8,none⟩=false:=TB2.b1.frozen 8;have T3:Two w (w3.setCell ⟨w.heap.size,8,none⟩ (.slice bo8 d.delta.1 bcap8)) (rwR d bo6 bcap6 bo7 bcap7 bo8 bcap8).toArray #[.int .i64 0,.int .i64 0,.string ⟨#[]⟩,.int .i64 0,.int .i64 0,.int .i64 0,.slice none 0 0,.slice none 0 0,.slice none 0 0] 94 94:=⟨TB2.b1.stL [.slice bo8 d.delta.1 bcap8] 8,TB2.b2.seto _ _ (by omega),TB2.bel.setCell (Nat.le_refl _) _⟩;have O6x:=((O6.out.call bA2).below b2 (by omega)).stN w.heap.size 8 [.slice bo8 d.delta.1 bcap8] (by omega);have O7x:=((O7.out.call bA2).below b2 (by omega)).stN w.heap.size 8 [.slice bo8 d.delta.1 bcap8] (by omega);have O8x:=o2.stN w.heap.size 8 [.slice bo8 d.delta.1 bcap8] (by omega)
 have e2:(w3.setCell ⟨w.heap.size,8,none⟩ (.slice bo8 d.delta.1 bcap8)).heap.size=w3.heap.size:=by simp
 clear TA2 TB2 o2 b2 bA2 T2 O6 O7
 go_upto_region 4 with (at_builtin;refine zeN rfl (.tmp 13) (.tmp 15) rfl ?_ ?_ hrun ?_;(simp [Act.eval]);(simp [Act.eval]))
 obtain ⟨W3,hW3⟩:∃ x,x=w3.setCell ⟨w.heap.size,8,none⟩ (.slice bo8 d.delta.1 bcap8):=⟨_,rfl⟩
 have O6:Hid (OwnT zaj W3 W0.heap.size w1.heap.size d.rows [.slice bo6 d.rows.1 bcap6]):=by rw [hW3];exact O6x
 have O7:Hid (OwnT zae W3 W1.heap.size w2.heap.size d.data [.slice bo7 d.data.1 bcap7]):=by rw [hW3];exact O7x
 have O8:Hid (OwnT zae W3 W2.heap.size w3.heap.size d.delta [.slice bo8 d.delta.1 bcap8]):=by rw [hW3];exact O8x
 rw [← hW3] at T3 e2 ⊢;clear hW3 hrun xa xb xf O6x O7x O8x;have y_0:W3.cell? ⟨w.heap.size,0,none⟩=some (.int .i64 d.kind):=T3.b1.cell 0;have y_1:W3.cell? ⟨w.heap.size,1,none⟩=some (.int .i64 d.seq):=T3.b1.cell 1;have y_2:W3.cell? ⟨w.heap.size,2,none⟩=some (.string d.name):=T3.b1.cell 2;have y_3:W3.cell? ⟨w.heap.size,3,none⟩=some (.int .i64 d.length):=T3.b1.cell 3;have y_4:W3.cell? ⟨w.heap.size,4,none⟩=some (.int .i64 d.group):=T3.b1.cell 4;have y_5:W3.cell? ⟨w.heap.size,5,none⟩=some (.int .i64 d.row):=T3.b1.cell 5;have y_6:W3.cell? ⟨w.heap.size,6,none⟩=some (.slice bo6 d.rows.1 bcap6):=T3.b1.cell 6;have y_7:W3.cell? ⟨w.heap.size,7,none⟩=some (.slice bo7 d.data.1 bcap7):=T3.b1.cell 7;have y_8:W3.cell? ⟨w.heap.size,8,none⟩=some (.slice bo8 d.delta.1 bcap8):=T3.b1.cell 8;have r_0:W3.cell? ⟨w.heap.size+1,0,none⟩=some (.int .i64 0):=T3.b2.cell 0;have rf_0:W3.frozen? ⟨w.heap.size+1,0,none⟩=false:=T3.b2.frozen 0;have r_1:W3.cell? ⟨w.heap.size+1,1,none⟩=some (.int .i64 0):=T3.b2.cell 1;have rf_1:W3.frozen? ⟨w.heap.size+1,1,none⟩=false:=T3.b2.frozen 1;have r_2:W3.cell? ⟨w.heap.size+1,2,none⟩=some (.string ⟨#[]⟩):=T3.b2.cell 2;have rf_2:W3.frozen? ⟨w.heap.size+1,2,none⟩=false:=T3.b2.frozen 2;have r_3:W3.cell? ⟨w.heap.size+1,3,none⟩=some (.int .i64 0):=T3.b2.cell 3;have rf_3:W3.frozen? ⟨w.heap.size+1,3,none⟩=false:=T3.b2.frozen 3;have r_4:W3.cell? ⟨w.heap.size+1,4,none⟩=some (.int .i64 0):=T3.b2.cell 4;have rf_4:W3.frozen? ⟨w.heap.size+1,4,none⟩=false:=T3.b2.frozen 4;have r_5:W3.cell? ⟨w.heap.size+1,5,none⟩=some (.int .i64 0):=T3.b2.cell 5;have rf_5:W3.frozen? ⟨w.heap.size+1,5,none⟩=false:=T3.b2.frozen 5;have r_6:W3.cell? ⟨w.heap.size+1,6,none⟩=some (.slice none 0 0):=T3.b2.cell 6;have rf_6:W3.frozen? ⟨w.heap.size+1,6,none⟩=false:=T3.b2.frozen 6;have r_7:W3.cell? ⟨w.heap.size+1,7,none⟩=some (.slice none 0 0):=T3.b2.cell 7;have rf_7:W3.frozen? ⟨w.heap.size+1,7,none⟩=false:=T3.b2.frozen 7;have r_8:W3.cell? ⟨w.heap.size+1,8,none⟩=some (.slice none 0 0):=T3.b2.cell 8;have rf_8:W3.frozen? ⟨w.heap.size+1,8,none⟩=false:=T3.b2.frozen 8;have HB:=hid T3.bel;clear T3;go_wp2;refine bodyPost_ret (v:=.agg (rwR d bo6 bcap6 bo7 bcap7 bo8 bcap8).toArray) (by simp [results,Tryz.results81,go_sem,r_0,y_0,r_1,y_1,r_2,y_2,r_3,y_3,r_4,y_4,r_5,y_5,r_6,y_6,r_7,y_7,r_8,y_8]) rfl ?_;have F:OwnT zac W3 (w.heap.size+1+1) W3.heap.size d ([.int .i64 d.kind]++([.int .i64 d.seq]++([.string d.name]++([.int .i64 d.length]++([.int .i64 d.group]++([.int .i64 d.row]++([.slice bo6 d.rows.1 bcap6]++([.slice bo7 d.data.1 bcap7]++[.slice bo8 d.delta.1 bcap8])))))))):=OwnT.conv (OwnT.pre (A:=layI) (a:=d.kind) (c:=[.int .i64 d.kind]) ⟨rfl,Q0.out,rfl⟩ (OwnT.pre (A:=layI) (a:=d.seq) (c:=[.int .i64 d.seq]) ⟨rfl,Q1.out,rfl⟩ (OwnT.pre (A:=layS) (a:=d.name) (c:=[.string d.name]) ⟨rfl,Q2.out,rfl⟩ (OwnT.pre (A:=layI) (a:=d.length) (c:=[.int .i64 d.length]) ⟨rfl,Q3.out,rfl⟩ (OwnT.pre (A:=layI) (a:=d.group) (c:=[.int .i64 d.group]) ⟨rfl,Q4.out,rfl⟩ (OwnT.pre (A:=layI) (a:=d.row) (c:=[.int .i64 d.row]) ⟨rfl,Q5.out,rfl⟩ (OwnT.two (O6.out.weaken (by omega) (Nat.le_refl _)) (OwnT.two O7.out (O8.out.weaken (Nat.le_refl _) (by omega)) (by omega) (by omega) (by omega)) (by omega) (by omega) (by omega))))))))
 refine ⟨(rwR d bo6 bcap6 bo7 bcap7 bo8 bcap8),rfl,?_,?_⟩
 ·exact OwnT.finb F (b:=w.heap.size+1) (by omega) (by omega) 0 (rwR d bo6 bcap6 bo7 bcap7 bo8 bcap8) _ rfl
 ·exact HB.out.trans (zaG (by omega) (rwR d bo6 bcap6 bo7 bcap7 bo8 bcap8) 0)
set_option maxRecDepth 20000 in
theorem zeS:ToS (zac.slice 94) (szSl zaX) 51:=fun v d hi w h hhi hn=>by
 obtain ⟨n,x⟩:=d;obtain ⟨ao,cap,hv,hm,hc⟩:=h
 cases hv
 have hn1:=zbQ hn;have hn2:∀ i,i<n→zaX (x i)≤1048576:=fun i hi=>za4 hn hi
 simp only at hn1 hm hc
 have HC:=hid hc;clear hn hc
 go_enter Tryz.func51,Tryz.ntmps51
 go_wp2
 go_loopw [3,4] (fun v i wr=>∃ (k:Nat) (ao':Option Addr) (cap':Nat),k≤n∧i=.int .i64 k∧v=.slice ao' k cap'∧Gat zac 94 wr w.heap.size (.slice ao' k cap') k x∧Below w.heap.size w wr) (fun _ i _=>n-(intOf i).toNat)
 case atStart=>exact ⟨0,_,_,Nat.zero_le _,rfl,rfl,zgG _ _,(Below.refl _ _).alloc (Nat.le_refl _) _⟩
 case round=>
  obtain ⟨k,ao',cap',hk,rfl,rfl,G,hb⟩:=hrel;obtain ⟨wo,rfl⟩:∃ y,y=wr:=⟨_,rfl⟩;have HG:=hid G;have HB:=hid hb;have zo:w.heap.size≤wo.heap.size:=hb.size;clear G
  by_cases hlt:k<n
  ·obtain ⟨b,off,he,hblt,hel⟩:=HC.out (by omega)
   subst he;obtain ⟨ck,hrk,hcell⟩:=zar (t:=0) hel hb hhi hblt hlt;obtain ⟨ao6,cap6,ao7,cap7,ao8,cap8,rfl,-⟩:=zbi hrk;have c0:wo.cell? ⟨b,off+k*9,none⟩=some (.int .i64 (x k).kind):=hcell 0 (by decide);have c1:wo.cell? ⟨b,off+k*9+1,none⟩=some (.int .i64 (x k).seq):=hcell 1 (by decide);have c2:wo.cell? ⟨b,off+k*9+2,none⟩=some (.string (x k).name):=hcell 2 (by decide);have c3:wo.cell? ⟨b,off+k*9+3,none⟩=some (.int .i64 (x k).length):=hcell 3 (by decide);have c4:wo.cell? ⟨b,off+k*9+4,none⟩=some (.int .i64 (x k).group):=hcell 4 (by decide);have c5:wo.cell? ⟨b,off+k*9+5,none⟩=some (.int .i64 (x k).row):=hcell 5 (by decide);have c6:wo.cell? ⟨b,off+k*9+6,none⟩=some (.slice ao6 (x k).rows.1 cap6):=hcell 6 (by decide);have c7:wo.cell? ⟨b,off+k*9+7,none⟩=some (.slice ao7 (x k).data.1 cap7):=hcell 7 (by decide);have c8:wo.cell? ⟨b,off+k*9+8,none⟩=some (.slice ao8 (x k).delta.1 cap8):=hcell 8 (by decide);have C:=zfz _ (x k) hi wo hrk (Nat.le_trans hhi zo) (hn2 k hlt);clear hel hcell hrk hb
   go_wp2_with fail
   refine C.mono ?_;rintro e w2 ⟨cs',rfl,o2,b2⟩;obtain ⟨bo6,bc6,bo7,bc7,bo8,bc8,rfl⟩:=zdK o2;clear C c0 c1 c2 c3 c4 c5 c6 c7 c8
   go_wp2_with (at_builtin;refine zde zhZ rfl (.tmp 12) (.tmp 18) rfl (lo:=w.heap.size) (n:=k) (v:=.slice ao' k cap') (x:=x) ?_ HG.out b2 o2 ?_ w2.heap.size 1 ?_ (fun j _=>zcz w2 _ _ j) (by omega) (by omega) ?_;(simp [Act.eval]);(exact (Below.refl _ _).alloc (Nat.le_refl _) _);(simp [Act.eval]);intro v4 w4 g4 b4;obtain ⟨ao4,cap4,rfl⟩:=g4.form)
   go_roundw
   case rel=>exact ⟨k+1,ao4,cap4,by omega,by go_num,rfl,g4.congr (fun i _=>by rw [zbU]),HB.out.trans b4⟩
   case measure=>simp [intOf];omega
  ·obtain rfl:k=n:=by omega
   clear hb;go_wp2;go_ret;exact ⟨_,rfl,HG.out.own,HB.out⟩
end Go.Proofs.YtdhnekgfhpanfaaGreat
