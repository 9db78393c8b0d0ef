/- Walks: lists held against each other. -/
import Derived.Deep.MidRow
import Derived.Test.YtfhgcadinjfooaaGreatRows
import Derived.Test.YtfhgcadinjfooaaGreatZPgroupaj
set_option linter.unusedVariables false
set_option linter.unusedSimpArgs false
set_option maxHeartbeats 16000000
namespace Go.Proofs.YtfhgcadinjfooaaGreat
open Go.RowKit F256
theorem zia (v1 v2:Value) (n m:Nat) (f g:Nat→Nat) (h1 h2:Nat) (w:World) (r1:Rd w h1 v1 n f) (r2:Rd w h2 v2 m g) :
 Calls Tryz.prog 45 #[v1,v2] w (zaR (ziD n m f g) w):=by
 obtain ⟨ao,cap,rfl,hm,hc⟩:=r1;obtain ⟨ao2,cap2,rfl,hm2,hc2⟩:=r2;unfold maxLen at hm hm2
 by_cases hnm:n=m
 ·subst hnm
  go_enter Tryz.func45,Tryz.ntmps45
  go_wp2
  go_loopw [13] (fun i wr=>∃ k:Nat,k≤n∧i=.int .i64 k∧(∀ i,i<k→f i=g i)∧∃ m,wr=w.drewN m) (fun i _=>n-(intOf i).toNat)
  case atStart=>exact ⟨0,Nat.zero_le _,rfl,fun i hi=>by omega,0,rfl⟩
  case round=>
   obtain ⟨k,hk,rfl,hall,q,rfl⟩:=hrel;have HALL:=hid hall;clear hall
   by_cases hlt:k<n
   ·obtain ⟨b,off,rfl,hblt,hcell⟩:=hc (by omega)
    obtain ⟨b2,off2,rfl,hblt2,hcell2⟩:=hc2 (by omega);have hck:w.cell? ⟨b,off+k,none⟩=some (.int .u8 (f k)):=hcell k hlt;have hck2:w.cell? ⟨b2,off2+k,none⟩=some (.int .u8 (g k)):=hcell2 k hlt;obtain ⟨x,hx⟩:∃ x,x=f k:=⟨_,rfl⟩;obtain ⟨y,hy⟩:∃ y,y=g k:=⟨_,rfl⟩;have HX:=hid hx;have HY:=hid hy;rw [← hx] at hck;rw [← hy] at hck2;clear hc hc2 hcell hcell2 hx hy
    by_cases heq:x=y
    ·subst heq
     go_wp2
     go_quiet (fail)
     go_wp2
     go_roundw
     case rel=>exact ⟨k+1,by omega,by go_num,fun i hi=>by
      by_cases c:i=k
      ·rw [c,← HX.out,← HY.out]
      ·exact HALL.out i (by omega),_,rfl⟩
     case measure=>simp [intOf];omega
    ·have tn:((x:Int) != (y:Int))=true:=by simp;omega
     go_wp2
     go_quiet (fail)
     go_wp2;go_ret;exact zai rfl (fun h=>absurd (h.2 k hlt) (by rw [← HX.out,← HY.out];exact heq)) (below_drewN (below_drewN (Below.refl _ _) _) _)
   ·have hkn:k=n:=by omega
    subst hkn;go_wp2;go_ret;exact zam rfl ⟨rfl,HALL.out⟩ (below_drewN (Below.refl _ _) _)
 ·have tn:((n:Int) != (m:Int))=true:=by simp;omega
  clear hc hc2
  go_enter Tryz.func45,Tryz.ntmps45
  go_wp2;go_ret;exact zai rfl (fun h=>hnm h.1) (Below.refl _ _)
end Go.Proofs.YtfhgcadinjfooaaGreat
namespace Go.Proofs.YtfhgcadinjfooaaGreat
open Go.RowKit
theorem SL {α : Type} : (∀ (l : List α) (i : Nat) (v : α), l.toArray.setIfInBounds i v = (l.set i v).toArray) ∧ (∀ (a : α) (l : List α) (b : α), (a :: l).set 0 b = b :: l) ∧ (∀ (a : α) (l : List α) (n : Nat) (b : α), (a :: l).set (n + 1) b = a :: l.set n b) ∧ (∀ (l : List α) (i : Nat) (h : i < l.toArray.size), l.toArray[i] = l[i]'(by simpa using h)) ∧ (∀ (a : α) (l : List α) (n : Nat) (h : n + 1 < (a :: l).length), (a :: l)[n + 1] = l[n]'(by simpa using h)) ∧ ∀ (a : α) (l : List α) (h : 0 < (a :: l).length), (a :: l)[0] = a := ⟨fun _ _ _ => List.setIfInBounds_toArray .., fun _ _ _ => rfl, fun _ _ _ _ => rfl, fun _ _ _ => rfl, fun _ _ _ _ => rfl, fun _ _ _ => rfl⟩
section
variable {P:Program} {ops:Array Oper} {Q:Exit→Act→World→Prop} {md:Region.Mode} {S:World→Prop} {L:Nat}
def zaL (P:Program) (md:Region.Mode) (ops:Array Oper) (Q:Exit→Act→World→Prop) (S:World→Prop) (L:Nat):Nat→Array Bool→Act→World→Prop
 | 0,listed,a,w=>Region.ready md ops listed=[]∧Q .normal a w
 | fuel+1,listed,a,w=>
  (Region.ready md ops listed=[]→Q .normal a w)∧
  ∀ i∈Region.ready md ops listed,wpOp P ops Q i (fun a' w'=>((listed.setIfInBounds i true).getD L false=false→S w')∧zaL P md ops Q S L fuel (listed.setIfInBounds i true) a' w') a w
theorem zeH:∀ (fuel:Nat) (listed:Array Bool) (a:Act) (w:World),zaL P md ops Q S L fuel listed a w→wpAny P md ops Q fuel listed a w
 | 0,_,_,_,h=>h
 | fuel+1,_,_,_,h=>⟨h.1,fun i hi=>wpOp_mono (fun a' w' h'=>zeH fuel _ a' w' h'.2) (h.2 i hi)⟩
theorem zf2 {i:Nat} {oi:Oper} {v:Value} (hi:ops[i]?=some oi) (hsel:∀ (j:Nat) (o:Oper) cs b,ops[j]?=some o→o.op≠.select cs b)
 (hQ:∀ c a w,Q (.panic c) (a.put oi.dst v) w→Q (.panic c) a w) (hLi:L≠i) {n:Nat} (hd:depB md ops n L i=true) :
 ∀ (fuel:Nat) (listed:Array Bool) (a:Act) (w:World),zcC md ops listed→
  (∀ j oj,ops[j]?=some oj→j≠i→listed.getD j true=false→(∀ e∈oj.after,Region.binds md e=true→e.on≠i)→oi.apart ops oj=true)→
  i∈Region.ready md ops listed→YieldsIf P ops S oi v a→S w→
  zaL P md ops Q S L fuel (listed.setIfInBounds i true) (a.put oi.dst v) w→zaL P md ops Q S L (fuel+1) listed a w:=by
 intro fuel
 induction fuel with
 | zero=>
  intro listed a w _ _ hr hy hS H;refine ⟨fun h=>(by rw [h] at hr;cases hr),fun j hj=>?_⟩
  by_cases hji:j=i
  ·subst hji;exact hy.wpOp hi hS ⟨fun _=>hS,H⟩
  ·have:=ready_mono hj hji
   rw [H.1] at this
   cases this
 | succ fuel ih=>
  intro listed a w hcl hfree hr hy hS H;refine ⟨fun h=>(by rw [h] at hr;cases hr),fun j hj=>?_⟩
  by_cases hji:j=i
  ·subst hji;exact hy.wpOp hi hS ⟨fun _=>hS,H⟩
  ·have hjL:j≠L:=fun h=>by
    subst h;exact zfM hcl hLi hd (zaY (mem_ready.1 hr).1) hj
   have h1:=H.2 j (ready_mono hj hji);obtain ⟨hjun,oj,hoj,hall⟩:=mem_ready.1 hj
   have hnot:∀ e∈oj.after,Region.binds md e=true→e.on≠i:=fun e he hb heq=>by
    have h1:=hall e he hb;have h0:=zaY (mem_ready.1 hr).1;rw [heq,h0] at h1
    cases h1
   have h2:=wpOp_putIf hoj (hfree j oj hoj hji hjun hnot) (fun cs b=>hsel i oi cs b hi) (fun cs b=>hsel j oj cs b hoj) hQ hy h1
   have hfree':∀ k ok,ops[k]?=some ok→k≠i→(listed.setIfInBounds j true).getD k true=false→
    (∀ e∈ok.after,Region.binds md e=true→e.on≠i)→oi.apart ops ok=true:=fun k ok hk hki hun hno=>by
    refine hfree k ok hk hki ?_ hno
    by_cases hjk:j=k
    ·subst hjk;exact hjun
    ·rw [getD_set_ne true hjk] at hun;exact hun
   have hLn:(listed.setIfInBounds j true).getD L false=false:=by
    rw [getD_set_ne false hjL]
    cases hg:listed.getD L false with
    | false=>rfl
    | true=>have:=zdv hcl n L i hd hg;rw [zaY (mem_ready.1 hr).1] at this;cases this
   have hLn2:((listed.setIfInBounds i true).setIfInBounds j true).getD L false=false:=by
    rw [← Array.setIfInBounds_comm _ _ hji,getD_set_ne false (Ne.symm hLi)];exact hLn
   refine wpOp_mono (fun a' w' h3=>⟨fun _=>h3.2.1 hLn2,ih (listed.setIfInBounds j true) a' w' (zc0 hcl hj) hfree' (ready_mono hr (Ne.symm hji)) h3.1 (h3.2.1 hLn2) ?_⟩) h2;rw [Array.setIfInBounds_comm _ _ hji];exact h3.2.2
theorem zdH {i:Nat} {oi:Oper} {v:Value} (hi:ops[i]?=some oi) (hsel:∀ (j:Nat) (o:Oper) cs b,ops[j]?=some o→o.op≠.select cs b)
 (hQ:∀ c a w,Q (.panic c) (a.put oi.dst v) w→Q (.panic c) a w) (hLi:L≠i) :
 ∀ (fuel:Nat) (listed:Array Bool) (a:Act) (w:World),zcC md ops listed→
  (∀ j oj,ops[j]?=some oj→j≠i→listed.getD j true=false→(∀ e∈oj.after,Region.binds md e=true→e.on≠i)→oi.apart ops oj=true)→
  i∈Region.ready md ops listed→YieldsIf P ops (fun _=>True) oi v a→((listed.setIfInBounds i true).getD L false=false→S w)→
  zaL P md ops Q S L fuel (listed.setIfInBounds i true) (a.put oi.dst v) w→zaL P md ops Q S L (fuel+1) listed a w:=by
 intro fuel
 induction fuel with
 | zero=>
  intro listed a w _ _ hr hy hS H;refine ⟨fun h=>(by rw [h] at hr;cases hr),fun j hj=>?_⟩
  by_cases hji:j=i
  ·subst hji;exact hy.wpOp hi trivial ⟨hS,H⟩
  ·have:=ready_mono hj hji
   rw [H.1] at this
   cases this
 | succ fuel ih=>
  intro listed a w hcl hfree hr hy hS H;refine ⟨fun h=>(by rw [h] at hr;cases hr),fun j hj=>?_⟩
  by_cases hji:j=i
  ·subst hji;exact hy.wpOp hi trivial ⟨hS,H⟩
  ·skip
   have h1:=H.2 j (ready_mono hj hji);obtain ⟨hjun,oj,hoj,hall⟩:=mem_ready.1 hj
   have hnot:∀ e∈oj.after,Region.binds md e=true→e.on≠i:=fun e he hb heq=>by
    have h1:=hall e he hb;have h0:=zaY (mem_ready.1 hr).1;rw [heq,h0] at h1
    cases h1
   have h2:=wpOp_putIf hoj (hfree j oj hoj hji hjun hnot) (fun cs b=>hsel i oi cs b hi) (fun cs b=>hsel j oj cs b hoj) hQ hy h1
   have hfree':∀ k ok,ops[k]?=some ok→k≠i→(listed.setIfInBounds j true).getD k true=false→
    (∀ e∈ok.after,Region.binds md e=true→e.on≠i)→oi.apart ops ok=true:=fun k ok hk hki hun hno=>by
    refine hfree k ok hk hki ?_ hno
    by_cases hjk:j=k
    ·subst hjk;exact hjun
    ·rw [getD_set_ne true hjk] at hun;exact hun
   refine wpOp_mono (fun a' w' h3=>?_) h2;have hk:((listed.setIfInBounds j true).setIfInBounds i true).getD L false=false→S w':=fun hn=>h3.2.1 (by rw [Array.setIfInBounds_comm _ _ (Ne.symm hji)];exact hn);refine ⟨fun hn=>?_,ih (listed.setIfInBounds j true) a' w' (zc0 hcl hj) hfree' (ready_mono hr (Ne.symm hji)) h3.1 hk ?_⟩
   ·exact hk (by rw [getD_set_ne false (Ne.symm hLi)];exact hn)
   ·rw [Array.setIfInBounds_comm _ _ hji]
    exact h3.2.2
theorem zaa {i:Nat} {oi:Oper} {v:Value} {fuel:Nat} {listed:Array Bool} {a:Act} {w:World} (hi:ops[i]?=some oi)
 (hs:(Region.noSelect ops&&Region.free md ops listed i&&(Region.ready md ops listed).contains i&&!(L==i)&&zbl md ops listed)=true)
 (hQ:∀ c a w,Q (.panic c) (a.put oi.dst v) w→Q (.panic c) a w) (hy:YieldsIf P ops (fun _=>True) oi v a) (hS:S w)
 (h:zaL P md ops Q S L fuel (listed.setIfInBounds i true) (a.put oi.dst v) w):zaL P md ops Q S L (fuel+1) listed a w:=by
 simp only [Bool.and_eq_true,Bool.not_eq_true',beq_eq_false_iff_ne] at hs
 obtain ⟨⟨⟨⟨h1,h2⟩,h3⟩,h4⟩,h6⟩:=hs;exact zdH hi (Region.noSelect_spec h1) hQ h4 fuel listed a w (zdc h6) (Region.free_spec hi h2) (by simpa using h3) hy (fun _=>hS) h
theorem zaG {i:Nat} {oi:Oper} {v:Value} {fuel:Nat} {listed:Array Bool} {a:Act} {w:World} (hi:ops[i]?=some oi)
 (hs:(Region.noSelect ops&&Region.free md ops listed i&&(Region.ready md ops listed).contains i&&!(L==i)&&zbl md ops listed&&listed.getD L false)=true)
 (hQ:∀ c a w,Q (.panic c) (a.put oi.dst v) w→Q (.panic c) a w) (hy:YieldsIf P ops (fun _=>True) oi v a)
 (h:zaL P md ops Q S L fuel (listed.setIfInBounds i true) (a.put oi.dst v) w):zaL P md ops Q S L (fuel+1) listed a w:=by
 simp only [Bool.and_eq_true,Bool.not_eq_true',beq_eq_false_iff_ne] at hs
 obtain ⟨⟨⟨⟨⟨h1,h2⟩,h3⟩,h4⟩,h6⟩,h7⟩:=hs;exact zdH hi (Region.noSelect_spec h1) hQ h4 fuel listed a w (zdc h6) (Region.free_spec hi h2) (by simpa using h3) hy (fun hn=>by rw [getD_set_ne false (Ne.symm h4),h7] at hn;cases hn) h
theorem zar {i:Nat} {oi:Oper} {v:Value} {fuel:Nat} {listed:Array Bool} {a:Act} {w:World} (n:Nat) (hi:ops[i]?=some oi)
 (hs:(Region.noSelect ops&&Region.free md ops listed i&&(Region.ready md ops listed).contains i&&!(L==i)&&depB md ops n L i&&zbl md ops listed)=true)
 (hQ:∀ c a w,Q (.panic c) (a.put oi.dst v) w→Q (.panic c) a w) (hy:YieldsIf P ops S oi v a) (hS:S w)
 (h:zaL P md ops Q S L fuel (listed.setIfInBounds i true) (a.put oi.dst v) w):zaL P md ops Q S L (fuel+1) listed a w:=by
 simp only [Bool.and_eq_true,Bool.not_eq_true',beq_eq_false_iff_ne] at hs
 obtain ⟨⟨⟨⟨⟨h1,h2⟩,h3⟩,h4⟩,h5⟩,h6⟩:=hs;exact zf2 hi (Region.noSelect_spec h1) hQ h4 h5 fuel listed a w (zdc h6) (Region.free_spec hi h2) (by simpa using h3) hy hS h
theorem zkl (i:Nat) {oi:Oper} {v:Value} {fuel:Nat} {listed:Array Bool} {a:Act} {w:World} (hi:ops[i]?=some oi) (hy:∀ w,True→(execOp a.eval oi).run P w=.ok (.value v) w) (h:zaL P md ops Q S L fuel (listed.setIfInBounds i true) (a.put oi.dst v) w) (hs:(Region.noSelect ops && Region.free md ops listed i && (Region.ready md ops listed).contains i && !(L==i) && zbl md ops listed)=true:=by kernel_rfl) (hQ:∀ c a w,Q (.panic c) (a.put oi.dst v) w→Q (.panic c) a w:=by exact fun _ _ _ h=>h) (hw:Region.wanted oi (yielded ops a.tmps)=true:=by first | kernel_rfl | rfl) (hS:S w:=by assumption):zaL P md ops Q S L (fuel+1) listed a w:=zaa hi hs hQ (Or.inl ⟨hw,hy⟩) hS h
theorem zj0 (i:Nat) {oi:Oper} {v:Value} {fuel:Nat} {listed:Array Bool} {a:Act} {w:World} (hi:ops[i]?=some oi) (hy:∀ w,True→(execOp a.eval oi).run P w=.ok (.value v) w) (h:zaL P md ops Q S L fuel (listed.setIfInBounds i true) (a.put oi.dst v) w) (hs:(Region.noSelect ops && Region.free md ops listed i && (Region.ready md ops listed).contains i && !(L==i) && zbl md ops listed && listed.getD L false)=true:=by kernel_rfl) (hQ:∀ c a w,Q (.panic c) (a.put oi.dst v) w→Q (.panic c) a w:=by exact fun _ _ _ h=>h) (hw:Region.wanted oi (yielded ops a.tmps)=true:=by first | kernel_rfl | rfl):zaL P md ops Q S L (fuel+1) listed a w:=zaG hi hs hQ (Or.inl ⟨hw,hy⟩) h
theorem zkm (i:Nat) {oi:Oper} {v:Value} {fuel:Nat} {listed:Array Bool} {a:Act} {w:World} (hi:ops[i]?=some oi) (hy:∀ w,S w→(execOp a.eval oi).run P w=.ok (.value v) w) (h:zaL P md ops Q S L fuel (listed.setIfInBounds i true) (a.put oi.dst v) w) (hs:(Region.noSelect ops && Region.free md ops listed i && (Region.ready md ops listed).contains i && !(L==i) && depB md ops 16 L i && zbl md ops listed)=true:=by kernel_rfl) (hQ:∀ c a w,Q (.panic c) (a.put oi.dst v) w→Q (.panic c) a w:=by exact fun _ _ _ h=>h) (hw:Region.wanted oi (yielded ops a.tmps)=true:=by first | kernel_rfl | rfl) (hS:S w:=by assumption):zaL P md ops Q S L (fuel+1) listed a w:=zar 16 hi hs hQ (Or.inl ⟨hw,hy⟩) hS h
theorem zkn (i:Nat) {oi:Oper} {v:Value} {fuel:Nat} {listed:Array Bool} {a:Act} {w:World} (hi:ops[i]?=some oi) (h:zaL P md ops Q S L fuel (listed.setIfInBounds i true) (a.put oi.dst v) w) (hy:∀ w,True→(execOp a.eval oi).run P w=.ok (.value v) w:=by intro w' hSw;go_simp;try with_reducible rfl) (hs:(Region.noSelect ops && Region.free md ops listed i && (Region.ready md ops listed).contains i && !(L==i) && zbl md ops listed)=true:=by kernel_rfl) (hQ:∀ c a w,Q (.panic c) (a.put oi.dst v) w→Q (.panic c) a w:=by exact fun _ _ _ h=>h) (hw:Region.wanted oi (yielded ops a.tmps)=true:=by first | kernel_rfl | rfl) (hS:S w:=by assumption):zaL P md ops Q S L (fuel+1) listed a w:=zaa hi hs hQ (Or.inl ⟨hw,hy⟩) hS h
theorem zko (i:Nat) {oi:Oper} {v:Value} {fuel:Nat} {listed:Array Bool} {a:Act} {w:World} (hi:ops[i]?=some oi) (h:zaL P md ops Q S L fuel (listed.setIfInBounds i true) (a.put oi.dst v) w) (hy:∀ w,S w→(execOp a.eval oi).run P w=.ok (.value v) w:=by intro w' hSw;(try dsimp only at hSw);(repeat (have _q:=And.left hSw;replace hSw:=And.right hSw));go_simp;try with_reducible rfl) (hs:(Region.noSelect ops && Region.free md ops listed i && (Region.ready md ops listed).contains i && !(L==i) && depB md ops 16 L i && zbl md ops listed)=true:=by kernel_rfl) (hQ:∀ c a w,Q (.panic c) (a.put oi.dst v) w→Q (.panic c) a w:=by exact fun _ _ _ h=>h) (hw:Region.wanted oi (yielded ops a.tmps)=true:=by first | kernel_rfl | rfl) (hS:S w:=by assumption):zaL P md ops Q S L (fuel+1) listed a w:=zar 16 hi hs hQ (Or.inl ⟨hw,hy⟩) hS h
theorem zkp (i:Nat) {oi:Oper} {fuel:Nat} {listed:Array Bool} {a:Act} {w:World} (hi:ops[i]?=some oi) (h:zaL P md ops Q S L fuel (listed.setIfInBounds i true) (a.put oi.dst undef) w) (hs:(Region.noSelect ops && Region.free md ops listed i && (Region.ready md ops listed).contains i && !(L==i) && zbl md ops listed)=true:=by kernel_rfl) (hQ:∀ c a w,Q (.panic c) (a.put oi.dst undef) w→Q (.panic c) a w:=by exact fun _ _ _ h=>h) (hw:Region.wanted oi (yielded ops a.tmps)=false:=by kernel_rfl) (hS:S w:=by assumption):zaL P md ops Q S L (fuel+1) listed a w:=zaa hi hs hQ (Or.inr ⟨hw,rfl⟩) hS h
theorem zbN {i:Nat} {o:Oper} {fuel:Nat} {listed:Array Bool} {a:Act} {w:World} (ho:ops[i]?=some o) (hr:Region.ready md ops listed=[i]) (hL:(listed.setIfInBounds i true).getD L false=true)
 (h:∀ K':Act→World→Prop,Shut (∀ a w,zaL P md ops Q S L fuel (listed.setIfInBounds i true) a w→K' a w)→if Region.wanted o (yielded ops a.tmps)=true then Oper.wp P o a w K' Q else K' (a.put o.dst undef) w):zaL P md ops Q S L (fuel+1) listed a w:=by
 refine ⟨fun h0=>(by rw [hr] at h0;cases h0),fun j hj=>?_⟩;rw [hr] at hj
 obtain rfl:j=i:=by simpa using hj
 exact wpOp_step ho (fun K' hK=>h K' (fun a w hW=>hK a w ⟨fun hn=>(by rw [hL] at hn;cases hn),hW⟩))
theorem zbr {listed:Array Bool} {a:Act} {w:World} (hr:Region.ready md ops listed=[]) (h:Q .normal a w):∀ fuel,zaL P md ops Q S L fuel listed a w
 | 0=>⟨hr,h⟩
 | _+1=>⟨fun _=>h,by rw [hr];simp⟩
theorem zbs {id:Nat} {a:Act} {w:World} (L:Nat) (S:World→Prop) (hm:P.follows .mixedOrders=true) (hS:S w.drew)
 (h:S w.drew→zaL P .any ops Q S L ops.size (Array.replicate ops.size false) a w.drew):(Code.region id ops true).wp P Q a w:=
 wp_region_any hm (zeH _ _ _ _ (h hS))
end
theorem zb6 {ops:Array Oper} {o:Oper} {a:Act} {w:World} {K:Act→World→Prop} {Q:Exit→Act→World→Prop} {E:Prop}
 (hw:Region.wanted o (yielded ops a.tmps)=true) (x:Operand) (n:Nat) (caps:Array Value) (args:Array Operand) (ty:Array TypeId) (hop:o.op=Op.call { callee:=Callee.value x,args:=args,argTypes:=ty }) (hx:a.eval x=.func (.func n) #[] caps) (vals:Array Value) (hv:args.map a.eval=vals)
 {fn : Func} (hfn : Tryz.prog.funcs[n]? = some fn) (hnm : (fn.name == "runtime.NumGoroutine") = false) (hbd : fn.body.isSome = true)
 {R:Ending→World→Prop} (hc:Calls Tryz.prog n (vals++caps) w R) (hK:∀ e w',R e w'→∃ v,e=.returned v∧K (a.put o.dst v) w') :
 if Region.wanted o (yielded ops a.tmps)=true then Oper.wp Tryz.prog o a w K Q else E:=by
 have hn' : ¬ fn.name = "runtime.NumGoroutine" := by simpa using hnm
 have hb':¬ fn.body=none:=by intro h;rw [h] at hbd;cases hbd
 rw [if_pos hw];unfold Oper.wp
 simp [execOp,hop,hx,resolve,invoke,Result.andThen,Deferred.ofValue,callFunc,Oper.upon,hv,hfn,hn',hb']
 refine hc.mono fun e w' h=>?_;obtain ⟨v,rfl,hk⟩:=hK e w' h;exact hk
section
variable {P:Program} {ops:Array Oper} {Q:Exit→Act→World→Prop} {md:Region.Mode} {S:World→Prop} {L:Nat}
theorem zgZ {i:Nat} {o:Oper} {fuel:Nat} {listed:Array Bool} {a:Act} {w:World} (ho:ops[i]?=some o) (hr:Region.ready md ops listed=[i])
 (h:∀ K':Act→World→Prop,Shut (∀ a w,S w→zaL P md ops Q S L fuel (listed.setIfInBounds i true) a w→K' a w)→if Region.wanted o (yielded ops a.tmps)=true then Oper.wp P o a w K' Q else K' (a.put o.dst undef) w):zaL P md ops Q S L (fuel+1) listed a w:=by
 refine ⟨fun h0=>(by rw [hr] at h0;cases h0),fun j hj=>?_⟩;rw [hr] at hj
 obtain rfl:j=i:=by simpa using hj
 exact wpOp_step ho (fun K' hK=>h K' (fun a w hS hW=>hK a w ⟨fun _=>hS,hW⟩))
end
end Go.Proofs.YtfhgcadinjfooaaGreat
namespace Go.Proofs.YtfhgcadinjfooaaGreat
open Go.RowKit F256
theorem zeI:Tryz.prog.follows Departure.mixedOrders=true:=by kernel_rfl
theorem zjI {c:Bool} {X Y:Prop} (h:c=false) (y:Y):if c=true then X else Y:=by rw [h,if_neg (by decide)];exact y
theorem zjB {cs:List Value} (h:cs.length=15):(Tryz.prog.info? 35).map (·.size)=some cs.length:=by rw [h];kernel_rfl
theorem zfn {w w':World} {hi hj B n:Nat} {v:Value} {f:Nat→Nat} (h:Rd w hi v n f) (hb:Below B w w') (h1:hi≤B) (h2:hi≤hj):Rd w' hj v n f:=(h.below hb h1).mono h2
def fitK (d:WorldD) (G R k:Nat):Prop:=((d.groups.2 G).2 k).wiped=false→ziD (((d.groups.2 G).2 k).blocks.2 R).bytes.1 4 (((d.groups.2 G).2 k).blocks.2 R).bytes.2 (encN (d.shape 2).toNat (rowB d G R) k)
def fitP (d:WorldD) (G R:Nat):Prop:=∀ k,k<(d.groups.2 G).1→fitK d G R k
theorem zg0 {d:WorldD} (h:OkWorld d) {G R:Nat} (hG:G<d.groups.1) (hR:(R:Int)<d.shape 4):∀ k,k<(d.groups.2 G).1→R<((d.groups.2 G).2 k).blocks.1:=fun k hk=>by
 have h1:=((h.form.1.2 G hG).2 k hk).1;omega
theorem zhl (d:WorldD) (G R:Nat) (i:Nat):rowB d G R i<256:=by
 unfold rowB decN zcQ;exact zdp _ _ (zbR _ _ _ _) _ _
theorem zg1 {w:World} {hi n:Nat} {v:Value} {f:Nat→Nat} (h:Rd w hi v n f):∃ ao cap,v=.slice ao n cap:=by
 obtain ⟨ao,cap,rfl,_⟩:=h;exact ⟨ao,cap,rfl⟩
set_option maxRecDepth 20000 in
theorem zf3 (d:WorldD) (cs:List Value) (hi G R:Nat) (w:World) (h:zaf.rd w hi d cs) (hhi:hi≤w.heap.size) (hG:G<d.groups.1) (hok:OkWorld d) (hnd:¬ zcL d G) (hR:(R:Int)<d.shape 4) :
 Calls Tryz.prog 21 #[.agg cs.toArray,.int .i64 (G:Int),.int .i64 (R:Int)] w (zaR (fitP d G R) w):=by
 have hRr:=zg0 hok hG hR;have hfew:=(ziV hok hG).2;obtain ⟨D,S,hDe0,hSe0,hDS,hD1,hD3,hS2,h4⟩:=zdg hok hG;have hDe:=hid hDe0;have hSe:=hid hSe0;clear hDe0 hSe0;have kf:=zfl h hG hRr;have HRD:=hid h;have CB:=fun w' (h1:zaf.rd w' hi d cs) (h2:hi≤w'.heap.size)=>zeu d cs hi G R w' h1 h2 hG hRr hok hnd;obtain ⟨ao1,cap1,ao2,cap2,ao3,cap3,rfl,g1,g2,g3,k0,k4,k5⟩:=zaz h;obtain ⟨_,_,e1,hm1,hc1⟩:=g1
 cases e1
 obtain ⟨b1,off1,he1,hb1,hel1⟩:=hc1 (by omega);subst he1;obtain ⟨cg,hrg,hcg⟩:=hel1 G hG;obtain ⟨ao9,cap9,rfl⟩:=za0 hrg
 have c0:w.cell? ⟨b1,off1+G,none⟩=some (.slice ao9 (d.groups.2 G).1 cap9):=by
  have:=hcg 0 (by decide)
  have e:off1+(G*(zae.slice 79).sz+0)=off1+G:=by show off1+(G*1+0)=off1+G;omega
  rw [e] at this;exact this
 obtain ⟨_,_,e9,hm9,hc9⟩:=hrg
 cases e9
 have hc9':(d.groups.2 G).1≠0→∃ b off,ao9=some ⟨b,off,none⟩∧b<hi∧∀ i,i<(d.groups.2 G).1→∃ ce,zae.rd w hi ((d.groups.2 G).2 i) ce∧∀ j,j<zae.sz→w.cell? ⟨b,off+(i*zae.sz+j),none⟩=ce[j]?:=hc9;obtain ⟨nG,hnG⟩:∃ n,n=(d.groups.2 G).1:=⟨_,rfl⟩;have HNG:=hid hnG;rw [← hnG] at c0 hc9' hfew;have HC9:=hid hc9'
 have i1:(0:Int)≤(G:Int):=by omega
 have i2:(G:Int)<(d.groups.1:Int):=by omega
 clear g2 g3 k0 k4 k5 hcg hel1 hc1 hm1 hm9 hc9 hc9' hnG
 have HDS:Hid (nG=D+S):=by rw [HNG.out];exact hDS
 have T0:=zaw w #[.int .i64 (d.shape 0),.int .i64 (d.shape 1),.int .i64 (d.shape 2),.int .i64 (d.shape 3),.int .i64 (d.shape 4),.int .i64 (d.shape 5),.int .i64 (d.shape 6),.int .i64 (d.shape 7),.int .i64 (d.shape 8),.slice (some ⟨b1,off1,none⟩) d.groups.1 cap1,.slice ao2 d.on.1 cap2,.slice ao3 d.tapes.1 cap3,.int .i64 d.writes,.int .i64 d.stop,.bool d.down] 35
 go_enter Tryz.func21,Tryz.ntmps21
 go_upto_region 1 with fail
 obtain ⟨W,hW⟩:∃ x,x=w.alloc (.cells #[.int .i64 (d.shape 0),.int .i64 (d.shape 1),.int .i64 (d.shape 2),.int .i64 (d.shape 3),.int .i64 (d.shape 4),.int .i64 (d.shape 5),.int .i64 (d.shape 6),.int .i64 (d.shape 7),.int .i64 (d.shape 8),.slice (some ⟨b1,off1,none⟩) d.groups.1 cap1,.slice ao2 d.on.1 cap2,.slice ao3 d.tapes.1 cap3,.int .i64 d.writes,.int .i64 d.stop,.bool d.down] 35):=⟨_,rfl⟩;rw [← hW] at T0 ⊢;clear hW;have HT0:=hid T0;have zW:w.heap.size<W.heap.size:=T0.b1.lt;have bD:Below W.heap.size W W.drew:=⟨rfl,rfl,rfl,Nat.le_refl _,fun _ _=>rfl⟩;have CBW:=CB W.drew (zaf.rd_below (zaf.rd_below HRD.out T0.bel hhi) bD (by omega)) (by show hi≤W.heap.size;omega);obtain ⟨cw,hcw⟩:∃ c:List Value,c=[.int .i64 (d.shape 0),.int .i64 (d.shape 1),.int .i64 (d.shape 2),.int .i64 (d.shape 3),.int .i64 (d.shape 4),.int .i64 (d.shape 5),.int .i64 (d.shape 6),.int .i64 (d.shape 7),.int .i64 (d.shape 8),.slice (some ⟨b1,off1,none⟩) d.groups.1 cap1,.slice ao2 d.on.1 cap2,.slice ao3 d.tapes.1 cap3,.int .i64 d.writes,.int .i64 d.stop,.bool d.down]:=⟨_,rfl⟩
 have hcl:cw.length=15:=by rw [hcw];rfl
 have rW:W.drew.rangeAt w.heap.size 0 cw:=fun j v hv=>by
  rw [hcw] at hv;have:=(T0.b1.cell j).trans (by simpa using hv);rw [Nat.zero_add];exact this
 have x2:W.drew.cell? ⟨w.heap.size,2,none⟩=some (.int .i64 (D:Int)):=by rw [← hDe.out];exact T0.b1.cell 2
 have x3:W.drew.cell? ⟨w.heap.size,3,none⟩=some (.int .i64 (S:Int)):=by rw [← hSe.out];exact T0.b1.cell 3
 rw [← hcw] at CBW
 have CC:Calls Tryz.prog 44 (#[.agg cw.toArray,.int .i64 (G:Int),.int .i64 (R:Int)]++#[]) W.drew (fun e w'=>∃ v,e=.returned v∧Own w' W.drew.heap.size w'.heap.size v (4*(d.shape 2).toNat) (rowB d G R)∧Below W.drew.heap.size W.drew w'):=by rw [Array.append_empty];exact CBW
 clear T0 CBW CB hcw;refine zbs 10 (fun w'=>w'.rangeAt w.heap.size 0 cw∧w'.cell? ⟨w.heap.size,2,none⟩=some (.int .i64 (D:Int))∧w'.cell? ⟨w.heap.size,3,none⟩=some (.int .i64 (S:Int))) zeI ⟨rW,x2,x3⟩ (fun hHeld=>?_);refine zkn 0 rfl ?_
 try simp only [Act.put,SL]
 refine zkn 1 rfl ?_
 try simp only [Act.put,SL]
 refine zko 2 rfl ?_
 try simp only [Act.put,SL]
 refine zkn 3 rfl ?_
 try simp only [Act.put,SL]
 refine zkn 4 rfl ?_
 try simp only [Act.put,SL]
 refine zko 5 rfl ?_
 try simp only [Act.put,SL]
 refine zar (i:=6) (oi:=_) 16 rfl (by kernel_rfl) (fun _ _ _ h=>h) (yieldsIf_load_mid (by kernel_rfl) 35 (.tmp 3) rfl w.heap.size (0) (by simp [Act.eval,Act.put]) cw _ (fun w h=>h.1) Tryz.underlying35 rfl (zjB hcl)) (by assumption) ?_
 try simp only [Act.put,SL]
 refine zkn 7 rfl ?_
 try simp only [Act.put,SL]
 refine zkn 8 rfl ?_
 try simp only [Act.put,SL]
 refine zgZ (i:=9) (o:=_) rfl (by kernel_rfl) (fun KC hKC=>?_);refine zb6 (by kernel_rfl) (.func 44) 44 #[] _ _ rfl (by simp [Act.eval,Act.put]) #[.agg cw.toArray,.int .i64 (G:Int),.int .i64 (R:Int)] (by simp [Act.eval,Act.put]) Tryz.func44 (by kernel_rfl) (by kernel_rfl) CC ?_;rintro ee w2 ⟨vY,rfl,oY,b2⟩;refine ⟨_,rfl,?_⟩;have b2':Below W.heap.size W w2:=bD.trans b2;have z2:W.heap.size≤w2.heap.size:=b2'.size;refine hKC _ _ ⟨fun j v hv=>(b2.cell (p:=⟨w.heap.size,0+j,none⟩) zW).trans (rW j v hv),(b2.cell (p:=⟨w.heap.size,2,none⟩) zW).trans x2,(b2.cell (p:=⟨w.heap.size,3,none⟩) zW).trans x3⟩ ?_;clear hKC KC
 try simp only [Act.put,SL]
 have eD:Hid ((d.shape 2).toNat=D):=by show (d.shape 2).toNat=D;rw [hDe.out];rfl
 have CF0:=zf1 D S hD1 hD3 hS2 vY (rowB d G R) w2.heap.size w2 (by rw [← eD.out];exact oY.rd) (Nat.le_refl _) (zhl d G R)
 have CF:Calls Tryz.prog 43 (#[.int .i64 (D:Int),.int .i64 (S:Int),vY]++#[]) w2 (fun e w'=>∃ v',e=.returned v'∧(∃ g cap h C,FlatE w' w2.heap.size w'.heap.size v' (D+S) (encN D (rowB d G R)) g cap h C)∧Below w2.heap.size w2 w'):=by rw [Array.append_empty];exact CF0
 clear CF0 CC;refine zbN (i:=10) (o:=_) rfl (by kernel_rfl) (by kernel_rfl) (fun KC hKC=>?_);refine zb6 (by kernel_rfl) (.func 43) 43 #[] _ _ rfl (by simp [Act.eval,Act.put]) #[.int .i64 (D:Int),.int .i64 (S:Int),vY] (by simp [Act.eval,Act.put]) Tryz.func43 (by kernel_rfl) (by kernel_rfl) CF ?_;rintro ee w3 ⟨vF,rfl,⟨gF,cF,hF0,CF0,fF⟩,b3⟩;refine ⟨_,rfl,?_⟩;refine hKC _ _ ?_;clear hKC KC
 try simp only [Act.put,SL]
 refine zj0 11 (v:=?_) rfl ?_ ?_
 rotate_left
 ·intro w' hSw;go_simp;try with_reducible rfl
 try simp only [Act.put,SL]
 refine zbr (by kernel_rfl) ?_ _;have B3:=b2'.trans (b3.mono z2);have HT3:=hid (HT0.out.call B3)
 have RF:RdM w3 w3.heap.size vF nG (fun _=>4) (encN (d.shape 2).toNat (rowB d G R)):=by rw [HDS.out,eD.out];exact fF.rd
 have x9:w3.cell? ⟨w.heap.size,9,none⟩=some (.slice (some ⟨b1,off1,none⟩) d.groups.1 cap1):=HT3.out.b1.cell 9;have c0':w3.cell? ⟨b1,off1+G,none⟩=some (.slice ao9 nG cap9):=(HT3.out.bel.cell (p:=⟨b1,off1+G,none⟩) (by show b1<w.heap.size;omega)).trans c0;obtain ⟨hF,hhF⟩:∃ x,x=w3.heap.size:=⟨_,rfl⟩
 have HRF:Hid (RdM w3 hF vF nG (fun _=>4) (encN (d.shape 2).toNat (rowB d G R))):=by rw [hhF];exact RF
 have zF:hF≤w3.heap.size:=Nat.le_of_eq hhF;clear CF b3 b2 b2' fF oY B3 RF hhF hHeld rW x2 x3 HT0 bD hcl zW z2;go_wp2
 go_loopw [27] (fun i wr=>∃ k:Nat,k≤nG∧i=.int .i64 k∧(∀ j,j<k→fitK d G R j)∧One w wr #[.int .i64 (d.shape 0),.int .i64 (d.shape 1),.int .i64 (d.shape 2),.int .i64 (d.shape 3),.int .i64 (d.shape 4),.int .i64 (d.shape 5),.int .i64 (d.shape 6),.int .i64 (d.shape 7),.int .i64 (d.shape 8),.slice (some ⟨b1,off1,none⟩) d.groups.1 cap1,.slice ao2 d.on.1 cap2,.slice ao3 d.tapes.1 cap3,.int .i64 d.writes,.int .i64 d.stop,.bool d.down] 35∧RdM wr hF vF nG (fun _=>4) (encN (d.shape 2).toNat (rowB d G R))∧hF≤wr.heap.size) (fun i _=>nG-(intOf i).toNat)
 case atStart=>exact ⟨0,Nat.zero_le _,rfl,fun j hj=>by omega,HT3.out,HRF.out,zF⟩
 case round=>
  clear x9 c0' zF HRF HT3;obtain ⟨k,hk,rfl,hall,T,F,zF⟩:=hrel;obtain ⟨wx,rfl⟩:∃ y,y=wr:=⟨_,rfl⟩;have HALL:=hid hall;have HT:=hid T;have HF:=hid F;have zx:w.heap.size<wx.heap.size:=T.b1.lt;clear hall
  by_cases hlt:k<nG
  ·skip
   obtain ⟨b,off,rfl,hblt,hcell⟩:=HC9.out (by omega);obtain ⟨cd,hrd,hcd⟩:=hcell k hlt;obtain ⟨ao5,cap5,rfl,g5⟩:=zaM hrd;obtain ⟨_,_,e5,hm5,hc5⟩:=g5
   cases e5
   have hRk:R<((d.groups.2 G).2 k).blocks.1:=hRr k (by rw [← HNG.out];exact hlt);obtain ⟨b5,off5,he5,hb5,hel5⟩:=hc5 (by omega);subst he5;obtain ⟨cb,hrb,hcb⟩:=hel5 R hRk;obtain ⟨ao0,cap0,rfl,hrB,-⟩:=zaV hrb;obtain ⟨vB,eB,hrBB,-⟩:=hrB
   obtain rfl:vB=.slice ao0 (((d.groups.2 G).2 k).blocks.2 R).bytes.1 cap0:=by simpa using eB.symm
   have bw:=T.bel;have c2:wx.cell? ⟨b,off+k*2,none⟩=some (.bool ((d.groups.2 G).2 k).wiped):=(bw.cell (p:=⟨b,off+k*2,none⟩) (by show b<w.heap.size;omega)).trans (hcd 0 (by decide));have c3:wx.cell? ⟨b,off+k*2+1,none⟩=some (.slice (some ⟨b5,off5,none⟩) ((d.groups.2 G).2 k).blocks.1 cap5):=(bw.cell (p:=⟨b,off+k*2+1,none⟩) (by show b<w.heap.size;omega)).trans (hcd 1 (by decide));have c4:wx.cell? ⟨b5,off5+R*2+1,none⟩=some (.slice ao0 (((d.groups.2 G).2 k).blocks.2 R).bytes.1 cap0):=(bw.cell (p:=⟨b5,off5+R*2+1,none⟩) (by show b5<w.heap.size;omega)).trans (hcb 1 (by decide));obtain ⟨D9,hD9⟩:∃ D,D=(d.groups.2 G).2 k:=⟨_,rfl⟩;have HD9:=hid hD9;rw [← hD9] at c2 c3 c4 hrBB hRk;obtain ⟨y0,hy0⟩:∃ y,y=(D9.blocks.2 R).bytes.1:=⟨_,rfl⟩;have HY0:=hid hy0;rw [← hy0] at c4 hrBB;obtain ⟨m5,hm5e⟩:∃ m,m=D9.blocks.1:=⟨_,rfl⟩;rw [← hm5e] at c3 hRk;obtain ⟨aoF,capF,eF,evF,hmF,hcF,hrF⟩:=F;obtain ⟨fb,foff,haoF,hfb,hcFc⟩:=hcF (by omega);subst haoF;subst evF;obtain ⟨aoE,capE,eE⟩:=zg1 (hrF k hlt)
   have cF:wx.cell? ⟨fb,foff+k,none⟩=some (.slice aoE 4 capE):=by rw [← eE];exact hcFc k hlt
   have rEx:Rd wx hF (.slice aoE 4 capE) 4 (encN (d.shape 2).toNat (rowB d G R) k):=by rw [← eE];exact hrF k hlt
   have i3:(0:Int)≤(k:Int):=by omega
   have i4:(k:Int)<(nG:Int):=by omega
   have j1:(0:Int)≤(R:Int):=by omega
   have j2:(R:Int)<(m5:Int):=by omega
   have bA:=bAl wx (.cells #[.bool D9.wiped,.slice (some ⟨b5,off5,none⟩) m5 cap5] 79);have XD:=zaD wx #[.bool D9.wiped,.slice (some ⟨b5,off5,none⟩) m5 cap5] 79;clear hcell hcd hrd hm5 hc5 hel5 hrb hcb eB hD9 hy0 hm5e hmF hcF hrF hcFc eE T
   go_upto_region 5 with fail
   obtain ⟨W5,hW5⟩:∃ x,x=wx.alloc (.cells #[.bool D9.wiped,.slice (some ⟨b5,off5,none⟩) m5 cap5] 79):=⟨_,rfl⟩;rw [← hW5] at bA XD ⊢;have z5:wx.heap.size≤W5.heap.size:=bA.size;have HT5:=hid (HT.out.call bA);have HF5:=hid (HF.out.below bA zF)
   have zF5:hF≤W5.heap.size:=by omega
   have q0:W5.drew.cell? ⟨wx.heap.size,0,none⟩=some (.bool D9.wiped):=XD.cell 0;have q1:W5.drew.cell? ⟨wx.heap.size,1,none⟩=some (.slice (some ⟨b5,off5,none⟩) m5 cap5):=XD.cell 1;have q2:W5.drew.cell? ⟨b5,off5+R*2+1,none⟩=some (.slice ao0 y0 cap0):=(bA.cell (p:=⟨b5,off5+R*2+1,none⟩) (by show b5<_;omega)).trans c4;have q3:W5.drew.cell? ⟨fb,foff+k,none⟩=some (.slice aoE 4 capE):=(bA.cell (p:=⟨fb,foff+k,none⟩) (by show fb<_;omega)).trans cF;have bDD:Below wx.heap.size wx W5.drew:=bA.trans (show Below wx.heap.size W5 W5.drew from ⟨rfl,rfl,rfl,Nat.le_refl _,fun _ _=>rfl⟩);have bWD:Below w.heap.size w W5.drew:=bw.trans (bDD.mono (by omega));have r0:Rd W5.drew W5.heap.size (.slice ao0 y0 cap0) y0 (D9.blocks.2 R).bytes.2:=zfn hrBB bWD hhi (by omega);have rE:Rd W5.drew W5.heap.size (.slice aoE 4 capE) 4 (encN (d.shape 2).toNat (rowB d G R) k):=zfn rEx bDD zF (by omega);clear hW5 bDD bWD bA XD HT HF c2 c3 c4 cF rEx hrBB bw
   cases hw:D9.wiped with
   | true=>
    rw [hw] at q0;have HW:=hid hw;have bD:Below W5.heap.size W5 W5.drew:=⟨rfl,rfl,rfl,Nat.le_refl _,fun _ _=>rfl⟩;clear hw q1 q2 q3;refine zbs 14 (fun w'=>w'.cell? ⟨wx.heap.size,0,none⟩=some (.bool true)) zeI q0 (fun hHeld=>?_);refine zkn 0 rfl ?_
    try simp only [Act.put,SL]
    refine zkm 1 (v:=?_) rfl ?_ ?_
    rotate_left
    ·intro w' hSw
     try dsimp only at hSw
     have hq0:=hSw;go_simp
     try with_reducible rfl
    try simp only [Act.put,SL]
    refine zkn 2 rfl ?_
    try simp only [Act.put,SL]
    refine zkn 3 rfl ?_
    try simp only [Act.put,SL]
    refine zkp 4 rfl ?_
    try simp only [Act.put,SL]
    refine zkp 5 rfl ?_
    try simp only [Act.put,SL]
    refine zkp 6 rfl ?_
    try simp only [Act.put,SL]
    refine zkp 7 rfl ?_
    try simp only [Act.put,SL]
    refine zkp 8 rfl ?_
    try simp only [Act.put,SL]
    refine zkp 9 rfl ?_
    try simp only [Act.put,SL]
    refine zkp 10 rfl ?_
    try simp only [Act.put,SL]
    refine zkp 11 rfl ?_
    try simp only [Act.put,SL]
    refine zkp 12 rfl ?_
    try simp only [Act.put,SL]
    refine zkp 13 rfl ?_
    try simp only [Act.put,SL]
    refine zbN (i:=14) (o:=_) rfl (by kernel_rfl) (by kernel_rfl) (fun KC hKC=>?_);refine zjI (by kernel_rfl) (hKC _ _ ?_);clear hKC KC
    try simp only [Act.put,SL]
    refine zaG (i:=15) (oi:=_) (v:=undef) rfl (by kernel_rfl) (fun _ _ _ h=>h) (Or.inr ⟨by kernel_rfl,rfl⟩) ?_
    try simp only [Act.put,SL]
    refine zj0 16 (v:=?_) rfl ?_ ?_
    rotate_left
    ·intro w' hSw;go_simp;try with_reducible rfl
    try simp only [Act.put,SL]
    refine zbr (by kernel_rfl) ?_ _;obtain ⟨w7,hw7⟩:∃ x,x=W5.drew:=⟨_,rfl⟩;rw [← hw7] at bD ⊢;have b7':Below W5.heap.size W5 w7:=bD
    have HFK:Hid (fitK d G R k):=fun h=>by rw [← HD9.out,HW.out] at h;cases h
    clear bD hw7 hHeld q0;have HT7:=hid (HT5.out.call b7');have HF7:Hid (RdM w7 hF (.slice (some ⟨fb,foff,none⟩) nG capF) nG (fun _=>4) (encN (d.shape 2).toNat (rowB d G R))):=HF5.out.below b7' (by omega);have zF7:hF≤w7.heap.size:=Nat.le_trans zF5 b7'.size;clear b7';go_wp2
    go_roundw
    case rel=>exact ⟨k+1,by omega,by go_num,fun j hj=>by
     by_cases c:j=k
     ·rw [c];exact HFK.out
     ·exact HALL.out j (by omega),HT7.out,HF7.out,zF7⟩
    case measure=>simp [intOf];omega
   | false=>
    rw [hw] at q0;have HW:=hid hw;have bD:Below W5.heap.size W5 W5.drew:=⟨rfl,rfl,rfl,Nat.le_refl _,fun _ _=>rfl⟩;clear hw;have CC0:=zia (.slice ao0 y0 cap0) (.slice aoE 4 capE) y0 4 (D9.blocks.2 R).bytes.2 (encN (d.shape 2).toNat (rowB d G R) k) W5.heap.size W5.heap.size W5.drew r0 rE
    have CC:Calls Tryz.prog 45 (#[.slice ao0 y0 cap0,.slice aoE 4 capE]++#[]) W5.drew (zaR (ziD y0 4 (D9.blocks.2 R).bytes.2 (encN (d.shape 2).toNat (rowB d G R) k)) W5.drew):=by rw [Array.append_empty];exact CC0
    clear CC0 r0 rE;refine zbs 14 (fun w'=>w'.cell? ⟨wx.heap.size,0,none⟩=some (.bool false)∧w'.cell? ⟨wx.heap.size,1,none⟩=some (.slice (some ⟨b5,off5,none⟩) m5 cap5)∧w'.cell? ⟨b5,off5+R*2+1,none⟩=some (.slice ao0 y0 cap0)∧w'.cell? ⟨fb,foff+k,none⟩=some (.slice aoE 4 capE)) zeI ⟨q0,q1,q2,q3⟩ (fun hHeld=>?_);refine zkn 0 rfl ?_
    try simp only [Act.put,SL]
    refine zko 1 rfl ?_
    try simp only [Act.put,SL]
    refine zkn 2 rfl ?_
    try simp only [Act.put,SL]
    refine zkn 3 rfl ?_
    try simp only [Act.put,SL]
    refine zkn 4 rfl ?_
    try simp only [Act.put,SL]
    refine zko 5 rfl ?_
    try simp only [Act.put,SL]
    refine zkn 6 rfl ?_
    try simp only [Act.put,SL]
    refine zkn 7 rfl ?_
    try simp only [Act.put,SL]
    refine zkn 8 rfl ?_
    try simp only [Act.put,SL]
    refine zko 9 rfl ?_
    try simp only [Act.put,SL]
    refine zkn 10 rfl ?_
    try simp only [Act.put,SL]
    refine zkn 11 rfl ?_
    try simp only [Act.put,SL]
    refine zkn 12 rfl ?_
    try simp only [Act.put,SL]
    refine zko 13 rfl ?_
    try simp only [Act.put,SL]
    refine zbN (i:=14) (o:=_) rfl (by kernel_rfl) (by kernel_rfl) (fun KC hKC=>?_);refine zb6 (by kernel_rfl) (.func 45) 45 #[] _ _ rfl (by simp [Act.eval,Act.put]) #[.slice ao0 y0 cap0,.slice aoE 4 capE] (by simp [Act.eval,Act.put]) Tryz.func45 (by kernel_rfl) (by kernel_rfl) CC ?_;rintro ee w7 ⟨t,rfl,ht,b7⟩;refine ⟨_,rfl,?_⟩;refine hKC _ _ ?_;clear hKC KC
    try simp only [Act.put,SL]
    refine zj0 15 (v:=?_) rfl ?_ ?_
    rotate_left
    ·intro w' hSw;go_simp;try with_reducible rfl
    try simp only [Act.put,SL]
    refine zj0 16 (v:=?_) rfl ?_ ?_
    rotate_left
    ·intro w' hSw;go_simp;try with_reducible rfl
    try simp only [Act.put,SL]
    refine zbr (by kernel_rfl) ?_ _;have b7':Below W5.heap.size W5 w7:=bD.trans b7
    have HT:Hid (t=true↔fitK d G R k):=by
     show t=true↔fitK d G R k
     rw [ht];unfold fitK;rw [← HD9.out,← HY0.out];exact ⟨fun h _=>h,fun h=>h HW.out⟩
    clear ht b7 bD CC hHeld q0 q1 q2 q3
    cases t with
    | true=>
     have HFK:Hid (fitK d G R k):=HT.out.1 (by simp);have HT7:=hid (HT5.out.call b7');have HF7:Hid (RdM w7 hF (.slice (some ⟨fb,foff,none⟩) nG capF) nG (fun _=>4) (encN (d.shape 2).toNat (rowB d G R))):=HF5.out.below b7' (by omega);have zF7:hF≤w7.heap.size:=Nat.le_trans zF5 b7'.size;clear b7';go_wp2
     go_roundw
     case rel=>exact ⟨k+1,by omega,by go_num,fun j hj=>by
      by_cases c:j=k
      ·rw [c];exact HFK.out
      ·exact HALL.out j (by omega),HT7.out,HF7.out,zF7⟩
     case measure=>simp [intOf];omega
    | false=>
     have HFK:Hid (¬ fitK d G R k):=fun h=>absurd (HT.out.2 h) (by simp);have HT7:=hid (HT5.out.call b7');clear b7';go_wp2;go_ret;exact zai rfl (fun h=>HFK.out (h k (by rw [← HNG.out];exact hlt))) HT7.out.bel
  ·obtain rfl:k=nG:=by omega
   clear T F hlt;go_wp2;go_ret;exact zam rfl (fun j hj=>HALL.out j (by rw [HNG.out];exact hj)) HT.out.bel
def GhP (d:WorldD) (g:Int):Prop:=KnowAns d g 0∧¬ zcL d g.toNat∧∀ R:Nat,(R:Int)<d.shape 4→fitP d g.toNat R
set_option maxRecDepth 20000 in
theorem zib (d:WorldD) (g:Int) (cs:List Value) (hi:Nat) (w:World) (h:zaf.rd w hi d cs) (hhi:hi≤w.heap.size) (hsz:zbH d≤1048576) :
 Calls Tryz.prog 7 #[.agg cs.toArray,.int .i64 g] w (zaR (GhP d g) w):=by
 have h':=h;obtain ⟨ao1,cap1,ao2,cap2,ao3,cap3,rfl,g1,g2,g3,k0,k4,k5⟩:=zaz h';have HRD:=hid h;clear h h' g1 g2 g3 k0 k4 k5;have T0:=zaw w (rwW d ao1 cap1 ao2 cap2 ao3 cap3).toArray 35
 go_enter Tryz.func7,Tryz.ntmps7
 go_wp2_with (refine za5 35 (.tmp 2) rfl rfl (w.heap.size) rfl (T0.b1) Tryz.underlying35 zeC rfl ?_)
 refine (zeq d g _ hi _ (zaf.rd_below HRD.out T0.bel hhi) (Nat.le_trans hhi T0.bel.size) hsz).mono ?_;rintro e w1 ⟨x,rfl,hx,b1⟩;have HT1:=hid (T0.call b1);have HX:=hid hx;have z1:w.heap.size<w1.heap.size:=HT1.out.b1.lt;clear b1 T0 hx
 by_cases hx0:x=0
 case neg=>
  have hne:(x != 0)=true:=by simp [hx0]
  have HN:=hid hx0;clear hx0;go_wp2;go_ret;exact zai rfl (fun h=>HN.out (HX.out.one h.1)) HT1.out.bel
 subst hx0;have hK:=KnowAns.zero HX.out;have HOK:=hid (WldAns.ok hK.1);obtain ⟨G,hGe⟩:∃ G:Nat,g=(G:Int):=⟨g.toNat,by have:=hK.2.1;omega⟩;subst hGe
 have hG:G<d.groups.1:=by have h1:=hK.2.2;have h2:=HOK.out.form.1.1;omega
 have CD:=zhV d _ hi G w1 (zaf.rd_below HRD.out HT1.out.bel hhi) (by omega) hG;clear hK;have xw_0:w1.cell? ⟨w.heap.size,0,none⟩=some (.int .i64 (d.shape 0)):=HT1.out.b1.cell 0;have xw_1:w1.cell? ⟨w.heap.size,1,none⟩=some (.int .i64 (d.shape 1)):=HT1.out.b1.cell 1;have xw_2:w1.cell? ⟨w.heap.size,2,none⟩=some (.int .i64 (d.shape 2)):=HT1.out.b1.cell 2;have xw_3:w1.cell? ⟨w.heap.size,3,none⟩=some (.int .i64 (d.shape 3)):=HT1.out.b1.cell 3;have xw_4:w1.cell? ⟨w.heap.size,4,none⟩=some (.int .i64 (d.shape 4)):=HT1.out.b1.cell 4;have xw_5:w1.cell? ⟨w.heap.size,5,none⟩=some (.int .i64 (d.shape 5)):=HT1.out.b1.cell 5;have xw_6:w1.cell? ⟨w.heap.size,6,none⟩=some (.int .i64 (d.shape 6)):=HT1.out.b1.cell 6;have xw_7:w1.cell? ⟨w.heap.size,7,none⟩=some (.int .i64 (d.shape 7)):=HT1.out.b1.cell 7;have xw_8:w1.cell? ⟨w.heap.size,8,none⟩=some (.int .i64 (d.shape 8)):=HT1.out.b1.cell 8;have xw_9:w1.cell? ⟨w.heap.size,9,none⟩=some (.slice ao1 d.groups.1 cap1):=HT1.out.b1.cell 9;have xw_10:w1.cell? ⟨w.heap.size,10,none⟩=some (.slice ao2 d.on.1 cap2):=HT1.out.b1.cell 10;have xw_11:w1.cell? ⟨w.heap.size,11,none⟩=some (.slice ao3 d.tapes.1 cap3):=HT1.out.b1.cell 11;have xw_12:w1.cell? ⟨w.heap.size,12,none⟩=some (.int .i64 d.writes):=HT1.out.b1.cell 12;have xw_13:w1.cell? ⟨w.heap.size,13,none⟩=some (.int .i64 d.stop):=HT1.out.b1.cell 13;have xw_14:w1.cell? ⟨w.heap.size,14,none⟩=some (.bool d.down):=HT1.out.b1.cell 14
 go_wp2_with fail
 refine CD.mono ?_;rintro e w2 ⟨t,rfl,ht,b2⟩;have HT2:=hid (HT1.out.call b2);have HTD:=hid ht;clear ht b2 CD HT1 xw_0 xw_1 xw_2 xw_3 xw_4 xw_5 xw_6 xw_7 xw_8 xw_9 xw_10 xw_11 xw_12 xw_13 xw_14
 cases t with
 | true=>
  go_wp2;go_ret;exact zai rfl (fun h=>h.2.1 (HTD.out.1 (by simp))) HT2.out.bel
 | false=>
  have HND:Hid (¬ zcL d G):=fun h=>absurd (HTD.out.2 h) (by simp)
  obtain ⟨N,hN⟩:∃ N:Nat,d.shape 4=(N:Int):=⟨(d.shape 4).toNat,by
   obtain ⟨s1,q,s3,_⟩:=HOK.out.shape
   omega⟩
  have HNN:=hid hN
  have hN6:N≤100:=by
   obtain ⟨s1,q,s3,_⟩:=HOK.out.shape;omega
  have x4:w2.cell? ⟨w.heap.size,4,none⟩=some (.int .i64 (N:Int)):=by rw [← hN];exact HT2.out.b1.cell 4
  clear hN;go_wp2
  go_loopw [18] (fun i wr=>∃ R:Nat,R≤N∧i=.int .i64 R∧(∀ j,j<R→fitP d G j)∧One w wr (rwW d ao1 cap1 ao2 cap2 ao3 cap3).toArray 35) (fun i _=>N-(intOf i).toNat)
  case atStart=>exact ⟨0,Nat.zero_le _,rfl,fun j hj=>by omega,HT2.out⟩
  case round=>
   clear x4 HT2;obtain ⟨R,hR,rfl,hall,T⟩:=hrel;obtain ⟨wx,rfl⟩:∃ y,y=wr:=⟨_,rfl⟩;have HALL:=hid hall;have HT:=hid T;clear hall
   by_cases hlt:R<N
   ·have CS:=zf3 d _ hi G R wx (zaf.rd_below HRD.out T.bel hhi) (Nat.le_trans hhi T.bel.size) hG HOK.out HND.out (by rw [HNN.out];omega)
    have t1:(R:Int)<(N:Int):=by omega
    clear T
    go_wp2_with (refine za5 35 (.tmp 2) rfl rfl (w.heap.size) rfl (HT.out.b1) Tryz.underlying35 zeC rfl ?_)
    refine CS.mono ?_;rintro e w3 ⟨t,rfl,ht,b3⟩;have HT3:=hid (HT.out.call b3);have HF:=hid ht;clear ht b3 CS HT
    cases t with
    | true=>
     go_wp2
     go_roundw
     case rel=>exact ⟨R+1,by omega,by go_num,fun j hj=>by
      by_cases c:j=R
      ·rw [c];exact HF.out.1 (by simp)
      ·exact HALL.out j (by omega),HT3.out⟩
     case measure=>simp [intOf];omega
    | false=>
     go_wp2;go_ret;exact zai rfl (fun h=>absurd (HF.out.2 (h.2.2 R (by rw [HNN.out];omega))) (by simp)) HT3.out.bel
   ·obtain rfl:R=N:=by omega
    clear T hlt;go_wp2;go_ret;exact zam rfl ⟨HX.out,HND.out,fun j hj=>HALL.out j (by rw [HNN.out] at hj;omega)⟩ HT.out.bel
theorem zjZ {w:World} {lo hi n cap:Nat} {ao:Option Addr} {f:Nat→Nat} (h:Own w lo hi (.slice ao n cap) n f):n≤cap:=by
 rcases h.1.2 with ⟨hv,hn⟩ | ⟨g,cap',cur,he,hbg,hgg,hnc,_⟩
 ·cases hv;omega
 ·cases he;exact hnc
set_option maxRecDepth 20000 in
theorem zf4 (d:WorldD) (cs:List Value) (hi B G:Nat) (w:World) (h:zaf.rd w hi d cs) (hhi:hi≤w.heap.size) (hBX:Box w B cs.toArray 35) (hG:G<d.groups.1) (hok:OkWorld d) :
 Calls Tryz.prog 14 #[.pointer (some ⟨B,0,none⟩),.int .i64 (G:Int)] w (zaR (¬ zcL d G∧∀ R:Nat,(R:Int)<d.shape 4→fitP d G R) w):=by
 have hfew:=(ziV hok hG).2;obtain ⟨D,S,hDe0,hSe0,hDS,hD1,hD3,hS2,h4⟩:=zdg hok hG;have hDe:=hid hDe0;have hSe:=hid hSe0;clear hDe0 hSe0;have HRD:=hid h;have HBB:=hid hBX;have CL:=zhW d cs hi B G w h hhi hBX hG;have HL7:Hid (∀ (R:Nat) (w':World),(R:Int)<d.shape 4→Below w.heap.size w w'→Calls Tryz.prog 36 #[.pointer (some ⟨B,0,none⟩),.int .i64 (G:Int),.int .i64 (R:Int)] w' (zi7 d G R w')):=fun R w' hR hb=>zgY d cs hi B G R w' (zaf.rd_below h hb hhi) (Nat.le_trans hhi hb.size) (hBX.below hb hBX.lt) hG (zg0 hok hG hR) hok;obtain ⟨ao1,cap1,ao2,cap2,ao3,cap3,rfl,g1,g2,g3,k0,k4,k5⟩:=zaz h;obtain ⟨_,_,e1,hm1,hc1⟩:=g1
 cases e1
 obtain ⟨b1,off1,he1,hb1,hel1⟩:=hc1 (by omega);subst he1;obtain ⟨cg,hrg,hcg⟩:=hel1 G hG;obtain ⟨ao9,cap9,rfl⟩:=za0 hrg
 have c0:w.cell? ⟨b1,off1+G,none⟩=some (.slice ao9 (d.groups.2 G).1 cap9):=by
  have:=hcg 0 (by decide)
  have e:off1+(G*(zae.slice 79).sz+0)=off1+G:=by show off1+(G*1+0)=off1+G;omega
  rw [e] at this;exact this
 obtain ⟨_,_,e9,hm9,hc9⟩:=hrg
 cases e9
 have hc9':(d.groups.2 G).1≠0→∃ b off,ao9=some ⟨b,off,none⟩∧b<hi∧∀ i,i<(d.groups.2 G).1→∃ ce,zae.rd w hi ((d.groups.2 G).2 i) ce∧∀ j,j<zae.sz→w.cell? ⟨b,off+(i*zae.sz+j),none⟩=ce[j]?:=hc9;obtain ⟨nG,hnG⟩:∃ n,n=(d.groups.2 G).1:=⟨_,rfl⟩;have HNG:=hid hnG;rw [← hnG] at c0 hc9' hfew;have HC9:=hid hc9'
 have i1:(0:Int)≤(G:Int):=by omega
 have i2:(G:Int)<(d.groups.1:Int):=by omega
 clear g2 g3 k0 k4 k5 hcg hel1 hc1 hm1 hm9 hc9 hc9' hnG
 have HDS:Hid (nG=D+S):=by rw [HNG.out];exact hDS
 have hBlt:=HBB.out.lt;have HX9:Hid (w.cell? ⟨B,9,none⟩=some (.slice (some ⟨b1,off1,none⟩) d.groups.1 cap1)):=HBB.out.cell 9
 have HX2:Hid (w.cell? ⟨B,2,none⟩=some (.int .i64 (D:Int))):=by rw [← hDe.out];exact HBB.out.cell 2
 have HX3:Hid (w.cell? ⟨B,3,none⟩=some (.int .i64 (S:Int))):=by rw [← hSe.out];exact HBB.out.cell 3
 obtain ⟨N,hN⟩:∃ N:Nat,d.shape 4=(N:Int):=⟨(d.shape 4).toNat,by
  obtain ⟨s1,q,s3,_⟩:=hok.shape
  omega⟩
 have HNN:=hid hN
 have hN6:N≤100:=by
  obtain ⟨s1,q,s3,_⟩:=hok.shape;omega
 have HX4:Hid (w.cell? ⟨B,4,none⟩=some (.int .i64 (N:Int))):=by rw [← hN];exact HBB.out.cell 4
 have HC0:=hid c0
 have eD:Hid ((d.shape 2).toNat=D):=by show (d.shape 2).toNat=D;rw [hDe.out];rfl
 clear hN c0 hBX hDe hSe
 go_enter Tryz.func14,Tryz.ntmps14
 go_wp2_with fail
 refine CL.mono ?_;rintro e w1 ⟨t,rfl,ht,b1⟩;have HTD:=hid ht;have HB1:=hid b1;clear CL ht b1
 cases t with
 | true=>
  go_wp2;go_ret;exact zai rfl (fun h=>h.1 (HTD.out.1 (by simp))) HB1.out
 | false=>
 have HND:Hid (¬ zcL d G):=fun h=>absurd (HTD.out.2 h) (by simp);clear HTD;go_wp2
 go_loopw [5] (fun i wr=>∃ R:Nat,R≤N∧i=.int .i64 R∧(∀ j,j<R→fitP d G j)∧Below w.heap.size w wr) (fun i _=>N-(intOf i).toNat)
 case atStart=>exact ⟨0,Nat.zero_le _,rfl,fun j hj=>by omega,HB1.out⟩
 case round=>
  clear HB1;obtain ⟨R,hR,rfl,hallR,bw⟩:=hrel;obtain ⟨wi,rfl⟩:∃ y,y=wr:=⟨_,rfl⟩;have HALLR:=hid hallR;have HBW:=hid bw;have zi:w.heap.size≤wi.heap.size:=bw.size;have x4:wi.cell? ⟨B,4,none⟩=some (.int .i64 (N:Int)):=(bw.cell (p:=⟨B,4,none⟩) hBlt).trans HX4.out;clear hallR
  by_cases hltR:R<N
  case neg=>
   obtain rfl:R=N:=by omega
   clear bw hltR;go_wp2;go_ret;exact zam rfl ⟨HND.out,fun j hj=>HALLR.out j (by rw [HNN.out] at hj;omega)⟩ HBW.out
  have hRi:(R:Int)<d.shape 4:=by rw [HNN.out];omega
  have hRr:=zg0 hok hG hRi
  have t1:(R:Int)<(N:Int):=by omega
  have CB:=HL7.out R wi hRi bw;clear bw
  go_wp2_with fail
  refine CB.mono ?_;rintro e w2 ⟨vY,b0,rfl,hb0,oY,b2⟩;obtain rfl:b0=true:=hb0.2 HND.out;have HB2:=hid (HBW.out.trans (b2.mono zi));have z2:w.heap.size≤w2.heap.size:=HB2.out.size
  have oY':Own w2 wi.heap.size w2.heap.size vY (4*D) (rowB d G R):=by rw [← eD.out];simpa using oY
  have hcapY:∀ ao cap,vY=.slice ao (4*D) cap→4*D≤cap:=fun ao cap e=>zjZ (by rw [e] at oY';exact oY');have bD2:Below w2.heap.size w2 w2.drew:=⟨rfl,rfl,rfl,Nat.le_refl _,fun _ _=>rfl⟩;have CF0:=zfS D S hD1 hD3 hS2 vY (rowB d G R) w2.heap.size w2.drew (oY'.rd.below bD2 (Nat.le_refl _)) hcapY (Nat.le_refl _) (zhl d G R);obtain ⟨aY,cY,hvY⟩:=zg1 oY'.rd;subst hvY
  have CF:Calls Tryz.prog 37 (#[.int .i64 (D:Int),.int .i64 (S:Int),.slice aY (4*D) cY]++#[]) w2.drew (fun e w'=>∃ v',e=.returned v'∧OwnM w' w2.drew.heap.size w'.heap.size v' (D+S) (fun _=>4) (encN D (rowB d G R))∧Below w2.drew.heap.size w2.drew w'):=by rw [Array.append_empty];exact CF0
  have x2:w2.drew.cell? ⟨B,2,none⟩=some (.int .i64 (D:Int)):=(HB2.out.cell (p:=⟨B,2,none⟩) hBlt).trans HX2.out;have x3:w2.drew.cell? ⟨B,3,none⟩=some (.int .i64 (S:Int)):=(HB2.out.cell (p:=⟨B,3,none⟩) hBlt).trans HX3.out;clear CB hb0 oY oY' hcapY b2 CF0 HBW x4
  go_upto_region 7 with fail
  refine zbs 11 (fun w'=>w'.cell? ⟨B,2,none⟩=some (.int .i64 (D:Int))∧w'.cell? ⟨B,3,none⟩=some (.int .i64 (S:Int))) zeI ⟨x2,x3⟩ (fun hHeld=>?_);refine zkn 0 rfl ?_
  try simp only [Act.put,SL]
  refine zkn 1 rfl ?_
  try simp only [Act.put,SL]
  refine zkn 2 rfl ?_
  try simp only [Act.put,SL]
  refine zkn 3 rfl ?_
  try simp only [Act.put,SL]
  refine zko 4 rfl ?_
  try simp only [Act.put,SL]
  refine zkn 5 rfl ?_
  try simp only [Act.put,SL]
  refine zkn 6 rfl ?_
  try simp only [Act.put,SL]
  refine zkn 7 rfl ?_
  try simp only [Act.put,SL]
  refine zkn 8 rfl ?_
  try simp only [Act.put,SL]
  refine zko 9 rfl ?_
  try simp only [Act.put,SL]
  refine zkn 10 rfl ?_
  try simp only [Act.put,SL]
  refine zbN (i:=11) (o:=_) rfl (by kernel_rfl) (by kernel_rfl) (fun KC hKC=>?_);refine zb6 (by kernel_rfl) (.func 37) 37 #[] _ _ rfl (by simp [Act.eval,Act.put]) #[.int .i64 (D:Int),.int .i64 (S:Int),.slice aY (4*D) cY] (by simp [Act.eval,Act.put]) Tryz.func37 (by kernel_rfl) (by kernel_rfl) CF ?_;rintro ee w3 ⟨vF,rfl,oF,b3⟩;refine ⟨_,rfl,?_⟩;refine hKC _ _ ?_;clear hKC KC
  try simp only [Act.put,SL]
  refine zj0 12 (v:=?_) rfl ?_ ?_
  rotate_left
  ·intro w' hSw;go_simp;try with_reducible rfl
  try simp only [Act.put,SL]
  refine zbr (by kernel_rfl) ?_ _;have HB3:Hid (Below w.heap.size w w3):=HB2.out.trans ((bD2.trans b3).mono z2)
  have RF:RdM w3 w3.heap.size vF nG (fun _=>4) (encN (d.shape 2).toNat (rowB d G R)):=by rw [HDS.out,eD.out];exact oF.rd
  obtain ⟨hF,hhF⟩:∃ x,x=w3.heap.size:=⟨_,rfl⟩
  have HRF:Hid (RdM w3 hF vF nG (fun _=>4) (encN (d.shape 2).toNat (rowB d G R))):=by rw [hhF];exact RF
  have zF:hF≤w3.heap.size:=Nat.le_of_eq hhF
  obtain ⟨aoF,capF,evF⟩:∃ ao cap,vF=.slice ao nG cap:=by
   obtain ⟨aoF,capF,eF,evF,_⟩:=RF;exact ⟨aoF,capF,evF⟩
  subst evF;clear CF b3 oF RF hhF hHeld x2 x3 bD2 HB2;go_wp2
  go_loopw [9] (fun i wr=>∃ k:Nat,k≤nG∧i=.int .i64 k∧(∀ j,j<k→fitK d G R j)∧Below w.heap.size w wr∧RdM wr hF (.slice aoF nG capF) nG (fun _=>4) (encN (d.shape 2).toNat (rowB d G R))∧hF≤wr.heap.size) (fun i _=>nG-(intOf i).toNat)
  case atStart=>exact ⟨0,Nat.zero_le _,rfl,fun j hj=>by omega,HB3.out,HRF.out,zF⟩
  case round=>
   clear zF HRF HB3;obtain ⟨k,hk,rfl,hall,bw,F,zF⟩:=hrel;obtain ⟨wx,rfl⟩:∃ y,y=wr:=⟨_,rfl⟩;have HALL:=hid hall;have HBW:=hid bw;have HF:=hid F;have zx:w.heap.size≤wx.heap.size:=bw.size;have x9:wx.cell? ⟨B,9,none⟩=some (.slice (some ⟨b1,off1,none⟩) d.groups.1 cap1):=(bw.cell (p:=⟨B,9,none⟩) hBlt).trans HX9.out;have c0:wx.cell? ⟨b1,off1+G,none⟩=some (.slice ao9 nG cap9):=(bw.cell (p:=⟨b1,off1+G,none⟩) (by show b1<w.heap.size;omega)).trans HC0.out;clear hall
   by_cases hlt:k<nG
   ·skip
    obtain ⟨b,off,rfl,hblt,hcell⟩:=HC9.out (by omega);obtain ⟨cd,hrd,hcd⟩:=hcell k hlt;obtain ⟨ao5,cap5,rfl,g5⟩:=zaM hrd;obtain ⟨_,_,e5,hm5,hc5⟩:=g5
    cases e5
    have hRk:R<((d.groups.2 G).2 k).blocks.1:=hRr k (by rw [← HNG.out];exact hlt);obtain ⟨b5,off5,he5,hb5,hel5⟩:=hc5 (by omega);subst he5;obtain ⟨cb,hrb,hcb⟩:=hel5 R hRk;obtain ⟨ao0,cap0,rfl,hrB,-⟩:=zaV hrb;obtain ⟨vB,eB,hrBB,-⟩:=hrB
    obtain rfl:vB=.slice ao0 (((d.groups.2 G).2 k).blocks.2 R).bytes.1 cap0:=by simpa using eB.symm
    have c2:wx.cell? ⟨b,off+k*2,none⟩=some (.bool ((d.groups.2 G).2 k).wiped):=(bw.cell (p:=⟨b,off+k*2,none⟩) (by show b<w.heap.size;omega)).trans (hcd 0 (by decide));have c3:wx.cell? ⟨b,off+k*2+1,none⟩=some (.slice (some ⟨b5,off5,none⟩) ((d.groups.2 G).2 k).blocks.1 cap5):=(bw.cell (p:=⟨b,off+k*2+1,none⟩) (by show b<w.heap.size;omega)).trans (hcd 1 (by decide));have c4:wx.cell? ⟨b5,off5+R*2+1,none⟩=some (.slice ao0 (((d.groups.2 G).2 k).blocks.2 R).bytes.1 cap0):=(bw.cell (p:=⟨b5,off5+R*2+1,none⟩) (by show b5<w.heap.size;omega)).trans (hcb 1 (by decide));obtain ⟨D9,hD9⟩:∃ D,D=(d.groups.2 G).2 k:=⟨_,rfl⟩;have HD9:=hid hD9;rw [← hD9] at c2 c3 c4 hrBB hRk;obtain ⟨y0,hy0⟩:∃ y,y=(D9.blocks.2 R).bytes.1:=⟨_,rfl⟩;have HY0:=hid hy0;rw [← hy0] at c4 hrBB;obtain ⟨m5,hm5e⟩:∃ m,m=D9.blocks.1:=⟨_,rfl⟩;rw [← hm5e] at c3 hRk;obtain ⟨aoF',capF',eF,evF,hmF,hcF,hrF⟩:=F
    obtain ⟨rfl,rfl⟩:aoF=aoF'∧capF=capF':=by simpa using evF
    obtain ⟨fb,foff,haoF,hfb,hcFc⟩:=hcF (by omega);subst haoF;obtain ⟨aoE,capE,eE⟩:=zg1 (hrF k hlt)
    have cF:wx.cell? ⟨fb,foff+k,none⟩=some (.slice aoE 4 capE):=by rw [← eE];exact hcFc k hlt
    have rEx:Rd wx hF (.slice aoE 4 capE) 4 (encN (d.shape 2).toNat (rowB d G R) k):=by rw [← eE];exact hrF k hlt
    have i3:(0:Int)≤(k:Int):=by omega
    have i4:(k:Int)<(nG:Int):=by omega
    have j1:(0:Int)≤(R:Int):=by omega
    have j2:(R:Int)<(m5:Int):=by omega
    have bA:=bAl wx (.cells #[.bool D9.wiped,.slice (some ⟨b5,off5,none⟩) m5 cap5] 79);have XD:=zaD wx #[.bool D9.wiped,.slice (some ⟨b5,off5,none⟩) m5 cap5] 79;clear hcell hcd hrd hm5 hc5 hel5 hrb hcb eB hD9 hy0 hm5e hmF hcF hrF hcFc eE evF
    go_upto_region 12 with fail
    obtain ⟨W5,hW5⟩:∃ x,x=wx.alloc (.cells #[.bool D9.wiped,.slice (some ⟨b5,off5,none⟩) m5 cap5] 79):=⟨_,rfl⟩;rw [← hW5] at bA XD ⊢;have z5:wx.heap.size≤W5.heap.size:=bA.size;have HB5:=hid (HBW.out.trans (bA.mono zx));have HF5:=hid (HF.out.below bA zF)
    have zF5:hF≤W5.heap.size:=by omega
    have q0:W5.drew.cell? ⟨wx.heap.size,0,none⟩=some (.bool D9.wiped):=XD.cell 0;have q1:W5.drew.cell? ⟨wx.heap.size,1,none⟩=some (.slice (some ⟨b5,off5,none⟩) m5 cap5):=XD.cell 1;have q2:W5.drew.cell? ⟨b5,off5+R*2+1,none⟩=some (.slice ao0 y0 cap0):=(bA.cell (p:=⟨b5,off5+R*2+1,none⟩) (by show b5<_;omega)).trans c4;have q3:W5.drew.cell? ⟨fb,foff+k,none⟩=some (.slice aoE 4 capE):=(bA.cell (p:=⟨fb,foff+k,none⟩) (by show fb<_;omega)).trans cF;have bDD:Below wx.heap.size wx W5.drew:=bA.trans (show Below wx.heap.size W5 W5.drew from ⟨rfl,rfl,rfl,Nat.le_refl _,fun _ _=>rfl⟩);have bWD:Below w.heap.size w W5.drew:=bw.trans (bDD.mono (by omega));have r0:Rd W5.drew W5.heap.size (.slice ao0 y0 cap0) y0 (D9.blocks.2 R).bytes.2:=zfn hrBB bWD hhi (by omega);have rE:Rd W5.drew W5.heap.size (.slice aoE 4 capE) 4 (encN (d.shape 2).toNat (rowB d G R) k):=zfn rEx bDD zF (by omega);clear hW5 bDD bWD bA XD HBW HF c2 c3 c4 cF rEx hrBB bw x9 c0
    cases hw:D9.wiped with
    | true=>
     rw [hw] at q0;have HW:=hid hw;have bD:Below W5.heap.size W5 W5.drew:=⟨rfl,rfl,rfl,Nat.le_refl _,fun _ _=>rfl⟩;clear hw q1 q2 q3;refine zbs 14 (fun w'=>w'.cell? ⟨wx.heap.size,0,none⟩=some (.bool true)) zeI q0 (fun hHeld=>?_);refine zkn 0 rfl ?_
     try simp only [Act.put,SL]
     refine zkm 1 (v:=?_) rfl ?_ ?_
     rotate_left
     ·intro w' hSw
      try dsimp only at hSw
      have hq0:=hSw;go_simp
      try with_reducible rfl
     try simp only [Act.put,SL]
     refine zkn 2 rfl ?_
     try simp only [Act.put,SL]
     refine zkn 3 rfl ?_
     try simp only [Act.put,SL]
     refine zkp 4 rfl ?_
     try simp only [Act.put,SL]
     refine zkp 5 rfl ?_
     try simp only [Act.put,SL]
     refine zkp 6 rfl ?_
     try simp only [Act.put,SL]
     refine zkp 7 rfl ?_
     try simp only [Act.put,SL]
     refine zkp 8 rfl ?_
     try simp only [Act.put,SL]
     refine zkp 9 rfl ?_
     try simp only [Act.put,SL]
     refine zkp 10 rfl ?_
     try simp only [Act.put,SL]
     refine zkp 11 rfl ?_
     try simp only [Act.put,SL]
     refine zkp 12 rfl ?_
     try simp only [Act.put,SL]
     refine zkp 13 rfl ?_
     try simp only [Act.put,SL]
     refine zbN (i:=14) (o:=_) rfl (by kernel_rfl) (by kernel_rfl) (fun KC hKC=>?_);refine zjI (by kernel_rfl) (hKC _ _ ?_);clear hKC KC
     try simp only [Act.put,SL]
     refine zaG (i:=15) (oi:=_) (v:=undef) rfl (by kernel_rfl) (fun _ _ _ h=>h) (Or.inr ⟨by kernel_rfl,rfl⟩) ?_
     try simp only [Act.put,SL]
     refine zj0 16 (v:=?_) rfl ?_ ?_
     rotate_left
     ·intro w' hSw;go_simp;try with_reducible rfl
     try simp only [Act.put,SL]
     refine zbr (by kernel_rfl) ?_ _;obtain ⟨w7,hw7⟩:∃ x,x=W5.drew:=⟨_,rfl⟩;rw [← hw7] at bD ⊢;have b7':Below W5.heap.size W5 w7:=bD
     have HFK:Hid (fitK d G R k):=fun h=>by rw [← HD9.out,HW.out] at h;cases h
     clear bD hw7 hHeld q0;have HB7:Hid (Below w.heap.size w w7):=HB5.out.trans (b7'.mono (by omega));have HF7:Hid (RdM w7 hF (.slice (some ⟨fb,foff,none⟩) nG capF) nG (fun _=>4) (encN (d.shape 2).toNat (rowB d G R))):=HF5.out.below b7' (by omega);have zF7:hF≤w7.heap.size:=Nat.le_trans zF5 b7'.size;clear b7';go_wp2
     go_roundw
     case rel=>exact ⟨k+1,by omega,by go_num,fun j hj=>by
      by_cases c:j=k
      ·rw [c];exact HFK.out
      ·exact HALL.out j (by omega),HB7.out,HF7.out,zF7⟩
     case measure=>simp [intOf];omega
    | false=>
     rw [hw] at q0;have HW:=hid hw;have bD:Below W5.heap.size W5 W5.drew:=⟨rfl,rfl,rfl,Nat.le_refl _,fun _ _=>rfl⟩;clear hw;have CC0:=zhD (.slice ao0 y0 cap0) (.slice aoE 4 capE) y0 4 (D9.blocks.2 R).bytes.2 (encN (d.shape 2).toNat (rowB d G R) k) W5.heap.size W5.heap.size W5.drew r0 rE
     have CC:Calls Tryz.prog 38 (#[.slice ao0 y0 cap0,.slice aoE 4 capE]++#[]) W5.drew (zaR (ziD y0 4 (D9.blocks.2 R).bytes.2 (encN (d.shape 2).toNat (rowB d G R) k)) W5.drew):=by rw [Array.append_empty];exact CC0
     clear CC0 r0 rE;refine zbs 14 (fun w'=>w'.cell? ⟨wx.heap.size,0,none⟩=some (.bool false)∧w'.cell? ⟨wx.heap.size,1,none⟩=some (.slice (some ⟨b5,off5,none⟩) m5 cap5)∧w'.cell? ⟨b5,off5+R*2+1,none⟩=some (.slice ao0 y0 cap0)∧w'.cell? ⟨fb,foff+k,none⟩=some (.slice aoE 4 capE)) zeI ⟨q0,q1,q2,q3⟩ (fun hHeld=>?_);refine zkn 0 rfl ?_
     try simp only [Act.put,SL]
     refine zko 1 rfl ?_
     try simp only [Act.put,SL]
     refine zkn 2 rfl ?_
     try simp only [Act.put,SL]
     refine zkn 3 rfl ?_
     try simp only [Act.put,SL]
     refine zkn 4 rfl ?_
     try simp only [Act.put,SL]
     refine zko 5 rfl ?_
     try simp only [Act.put,SL]
     refine zkn 6 rfl ?_
     try simp only [Act.put,SL]
     refine zkn 7 rfl ?_
     try simp only [Act.put,SL]
     refine zkn 8 rfl ?_
     try simp only [Act.put,SL]
     refine zko 9 rfl ?_
     try simp only [Act.put,SL]
     refine zkn 10 rfl ?_
     try simp only [Act.put,SL]
     refine zkn 11 rfl ?_
     try simp only [Act.put,SL]
     refine zkn 12 rfl ?_
     try simp only [Act.put,SL]
     refine zko 13 rfl ?_
     try simp only [Act.put,SL]
     refine zbN (i:=14) (o:=_) rfl (by kernel_rfl) (by kernel_rfl) (fun KC hKC=>?_);refine zb6 (by kernel_rfl) (.func 38) 38 #[] _ _ rfl (by simp [Act.eval,Act.put]) #[.slice ao0 y0 cap0,.slice aoE 4 capE] (by simp [Act.eval,Act.put]) Tryz.func38 (by kernel_rfl) (by kernel_rfl) CC ?_;rintro ee w7 ⟨t,rfl,ht,b7⟩;refine ⟨_,rfl,?_⟩;refine hKC _ _ ?_;clear hKC KC
     try simp only [Act.put,SL]
     refine zj0 15 (v:=?_) rfl ?_ ?_
     rotate_left
     ·intro w' hSw;go_simp;try with_reducible rfl
     try simp only [Act.put,SL]
     refine zj0 16 (v:=?_) rfl ?_ ?_
     rotate_left
     ·intro w' hSw;go_simp;try with_reducible rfl
     try simp only [Act.put,SL]
     refine zbr (by kernel_rfl) ?_ _;have b7':Below W5.heap.size W5 w7:=bD.trans b7
     have HT:Hid (t=true↔fitK d G R k):=by
      show t=true↔fitK d G R k
      rw [ht];unfold fitK;rw [← HD9.out,← HY0.out];exact ⟨fun h _=>h,fun h=>h HW.out⟩
     clear ht b7 bD CC hHeld q0 q1 q2 q3
     cases t with
     | true=>
      have HFK:Hid (fitK d G R k):=HT.out.1 (by simp);have HB7:Hid (Below w.heap.size w w7):=HB5.out.trans (b7'.mono (by omega));have HF7:Hid (RdM w7 hF (.slice (some ⟨fb,foff,none⟩) nG capF) nG (fun _=>4) (encN (d.shape 2).toNat (rowB d G R))):=HF5.out.below b7' (by omega);have zF7:hF≤w7.heap.size:=Nat.le_trans zF5 b7'.size;clear b7';go_wp2
      go_roundw
      case rel=>exact ⟨k+1,by omega,by go_num,fun j hj=>by
       by_cases c:j=k
       ·rw [c];exact HFK.out
       ·exact HALL.out j (by omega),HB7.out,HF7.out,zF7⟩
      case measure=>simp [intOf];omega
     | false=>
      have HFK:Hid (¬ fitK d G R k):=fun h=>absurd (HT.out.2 h) (by simp);have HB7:Hid (Below w.heap.size w w7):=HB5.out.trans (b7'.mono (by omega));clear b7';go_wp2;go_ret;exact zai rfl (fun h=>HFK.out (h.2 R hRi k (by rw [← HNG.out];exact hlt))) HB7.out
   ·obtain rfl:k=nG:=by omega
    clear F hlt bw;have HFR:Hid (fitP d G R):=fun j hj=>HALL.out j (by rw [HNG.out];exact hj);go_wp2
    go_roundw
    case rel=>exact ⟨R+1,by omega,by go_num,fun j hj=>by
     by_cases c:j=R
     ·rw [c];exact HFR.out
     ·exact HALLR.out j (by omega),HBW.out⟩
    case measure=>simp [intOf];omega
set_option maxRecDepth 20000 in
theorem zic (d:WorldD) (g:Int) (cs:List Value) (hi:Nat) (w:World) (h:zaf.rd w hi d cs) (hhi:hi≤w.heap.size) (hsz:zbH d≤1048576) :
 Calls Tryz.prog 5 #[.agg cs.toArray,.int .i64 g] w (zaR (GhP d g) w):=by
 have h':=h;obtain ⟨ao1,cap1,ao2,cap2,ao3,cap3,rfl,g1,g2,g3,k0,k4,k5⟩:=zaz h';have HRD:=hid h;clear h h' g1 g2 g3 k0 k4 k5;have T0:=zaw w (rwW d ao1 cap1 ao2 cap2 ao3 cap3).toArray 35
 go_enter Tryz.func5,Tryz.ntmps5
 go_wp2_with (refine za5 35 (.tmp 2) rfl rfl (w.heap.size) rfl (T0.b1) Tryz.underlying35 zeC rfl ?_)
 refine (zfa d _ hi _ (zaf.rd_below HRD.out T0.bel hhi) (Nat.le_trans hhi T0.bel.size) (zdG hsz)).mono ?_;rintro e w1 ⟨x,rfl,hx,b1⟩;have HT1:=hid (T0.call b1);have HX:=hid hx;clear b1 T0 hx
 by_cases hx0:x=0
 case neg=>
  have hne:(x==0)=false:=by simpa using hx0
  have HN:=hid hx0;clear hx0;go_wp2;go_ret;exact zai rfl (fun h=>HN.out (HX.out.one (KnowAns.zero h.1).1)) HT1.out.bel
 subst hx0;have HOK:=hid (WldAns.ok HX.out);have x_0:w1.cell? ⟨w.heap.size,0,none⟩=some (.int .i64 (d.shape 0)):=HT1.out.b1.cell 0;have x_1:w1.cell? ⟨w.heap.size,1,none⟩=some (.int .i64 (d.shape 1)):=HT1.out.b1.cell 1;have x_2:w1.cell? ⟨w.heap.size,2,none⟩=some (.int .i64 (d.shape 2)):=HT1.out.b1.cell 2;have x_3:w1.cell? ⟨w.heap.size,3,none⟩=some (.int .i64 (d.shape 3)):=HT1.out.b1.cell 3;have x_4:w1.cell? ⟨w.heap.size,4,none⟩=some (.int .i64 (d.shape 4)):=HT1.out.b1.cell 4;have x_5:w1.cell? ⟨w.heap.size,5,none⟩=some (.int .i64 (d.shape 5)):=HT1.out.b1.cell 5;have x_6:w1.cell? ⟨w.heap.size,6,none⟩=some (.int .i64 (d.shape 6)):=HT1.out.b1.cell 6;have x_7:w1.cell? ⟨w.heap.size,7,none⟩=some (.int .i64 (d.shape 7)):=HT1.out.b1.cell 7;have x_8:w1.cell? ⟨w.heap.size,8,none⟩=some (.int .i64 (d.shape 8)):=HT1.out.b1.cell 8;have CB:=zgU d.shape HOK.out.shape g 0 0 w1;unfold zad at CB
 go_wp2_with fail
 refine CB.mono ?_;rintro e w2 ⟨t,rfl,hu,b2⟩;have HT2:=hid (HT1.out.call b2)
 have HIN:Hid (t=true↔InP g 0 (d.shape 0+d.shape 1-1)):=by
  show t=true↔_
  rw [hu];obtain ⟨s1,q,_⟩:=HOK.out.shape;unfold Shp3 at s1;unfold Shp at q;unfold zhf InP
  constructor
  ·exact fun h=>h.1
  ·intro h;exact ⟨h,by omega,by omega⟩
 clear CB hu b2 HT1 x_0 x_1 x_2 x_3 x_4 x_5 x_6 x_7 x_8
 cases t with
 | false=>
  go_wp2;go_ret;exact zai rfl (fun h=>absurd (HIN.out.2 (KnowAns.zero h.1).2) (by simp)) HT2.out.bel
 | true=>
  have hIn:=HIN.out.1 (by simp);obtain ⟨G,hGe⟩:∃ G:Nat,g=(G:Int):=⟨g.toNat,by have:=hIn.1;omega⟩;subst hGe
  have hG:G<d.groups.1:=by have h1:=hIn.2;have h2:=HOK.out.form.1.1;omega
  have HK:Hid (KnowAns d (G:Int) 0):=.inr ⟨HX.out,.inr ⟨hIn,rfl⟩⟩;have CG:=zf4 d (rwW d ao1 cap1 ao2 cap2 ao3 cap3) hi w.heap.size G w2 (zaf.rd_below HRD.out HT2.out.bel hhi) (Nat.le_trans hhi HT2.out.bel.size) HT2.out.b1 hG HOK.out;clear hIn HIN
  go_wp2_with fail
  refine CG.mono ?_;rintro e w3 ⟨t,rfl,ht,b3⟩;have HB3:Hid (Below w.heap.size w w3):=(HT2.out.call b3).bel
  have HG:Hid (t=true↔GhP d (G:Int)):=by
   show t=true↔GhP d (G:Int)
   rw [ht];exact ⟨fun h=>⟨HK.out,h.1,h.2⟩,fun h=>⟨h.2.1,h.2.2⟩⟩
  clear CG ht b3;go_wp2;go_ret;exact ⟨t,by simp,HG.out,HB3.out⟩
end Go.Proofs.YtfhgcadinjfooaaGreat
namespace Go.Proofs.YtfhgcadinjfooaaGreat
open Go.ChangeShapes Go.WideShapes Go.ChangeAt Go.RowKit F256
theorem zhm {P:Prop} {b:Bool} {w:World} {f:Nat} {args:Array Value} (hb:b=true↔P) (h:Calls Tryz.prog f args w (zaR P w)):Calls Tryz.prog f args w fun e w'=>e=.returned (.bool b)∧Below w.heap.size w w':=
 h.mono fun e w' ⟨t,h1,h2,h3⟩=>⟨by
  have:t=b:=by
   cases t<;>cases b<;>first | rfl | (exfalso;simp only [Bool.false_eq_true,false_iff,true_iff] at hb h2;first | exact hb h2 | exact h2 hb)
  rw [h1,this],h3⟩
set_option maxRecDepth 20000 in
theorem zcm (d:WorldD) (cs:List Value) (i0:Int) (w:World) (rd0:zaf.rd w w.heap.size d cs) (hi0:-9223372036854775808≤i0∧i0≤9223372036854775807) :
 Calls Tryz.prog 3 #[.agg cs.toArray,.int .i64 i0] w fun e w'=>e=.returned (.bool true)∧Below w.heap.size w w':=by
 obtain ⟨v0,v1,v2,v3,v4,v5,v6,v7,v8,vp0,vl0,vq0,vp1,vl1,vq1,vp2,vl2,vq2,v9,v10,vb,rfl⟩:=ziU rd0;have HR:=hid rd0;clear rd0 hi0;have T0:=zaw w (rwV v0 v1 v2 v3 v4 v5 v6 v7 v8 vp0 vl0 vq0 vp1 vl1 vq1 vp2 vl2 vq2 v9 v10 vb).toArray 28
 go_enter Tryz.func3,Tryz.ntmps3
 go_wp2_with (refine za5 28 (.tmp 2) rfl rfl (w.heap.size) rfl T0.b1 Tryz.underlying28 ze1 rfl ?_)
 refine (zhR _ d w.heap.size 1048576 _ (zaf.rd_below HR.out T0.bel (Nat.le_refl _)) T0.bel.size (by omega)).mono ?_;rintro e w1 ⟨x,rfl,hx,b1⟩;have T1:=T0.call b1;have HT1:=hid T1;clear b1 T0
 rcases hx with rfl | ⟨hsz,hx⟩
 ·clear T1
  go_wp2;go_ret;exact ⟨rfl,HT1.out.bel⟩
 have hx0:¬ x<0:=by omega
 clear hx;obtain ⟨bb,hq⟩:∃ b:Bool,(b=true↔GhP d i0):=⟨@decide _ (Classical.propDecidable _),@decide_eq_true_iff _ (Classical.propDecidable _)⟩
 have CT:∀ w',Below w1.heap.size w1 w'→Calls Tryz.prog 6 #[.agg (rwV v0 v1 v2 v3 v4 v5 v6 v7 v8 vp0 vl0 vq0 vp1 vl1 vq1 vp2 vl2 vq2 v9 v10 vb).toArray] w' fun e w''=>∃ cs',e=.returned (.agg cs'.toArray)∧OwnT zaf w'' w'.heap.size w''.heap.size d cs'∧Below w'.heap.size w' w'':=fun w' hb=>
  zhJ _ d w.heap.size w' (zaf.rd_below (zaf.rd_below HR.out HT1.out.bel (Nat.le_refl _)) hb HT1.out.bel.size) (Nat.le_trans HT1.out.bel.size hb.size) hsz
 have CS:=fun (cs':List Value) (hi:Nat) (w':World) (h1:zaf.rd w' hi d cs') (h2:hi≤w'.heap.size)=>zhm hq (zic d i0 cs' hi w' h1 h2 hsz);have CI:=fun (cs':List Value) (hi:Nat) (w':World) (h1:zaf.rd w' hi d cs') (h2:hi≤w'.heap.size)=>zhm hq (zib d i0 cs' hi w' h1 h2 hsz);have CW:=fun c1 c2 h1 h2 w'=>zhN c1 c2 d h1 h2 w';clear hq hsz
 go_wp2_with (refine za5 28 (.tmp 2) rfl rfl (w.heap.size) rfl T1.b1 Tryz.underlying28 ze1 rfl ?_)
 refine (CT _ (Below.refl _ _)).mono ?_;rintro e w2 ⟨c2,rfl,o2,b2⟩;have z1:w.heap.size<w1.heap.size:=T1.b1.lt;clear T1
 go_wp2_with fail
 refine (CS _ _ _ o2.rd (Nat.le_refl _)).mono ?_;rintro e w3 ⟨rfl,b3⟩;have z2:w1.heap.size≤w2.heap.size:=b2.size;have z3:w2.heap.size≤w3.heap.size:=b3.size;have B4:Below w1.heap.size w1 w3:=b2.trans (b3.mono b2.size);have P4:=HT1.out.call B4;clear o2 b2 b3
 go_wp2_with (refine za5 28 (.tmp 2) rfl rfl (w.heap.size) rfl P4.b1 Tryz.underlying28 ze1 rfl ?_)
 refine (CT _ B4).mono ?_;rintro e w5 ⟨cX,rfl,oX,b5⟩;obtain ⟨x0,x1,x2,x3,x4,x5,x6,x7,x8,xp0,xl0,xq0,xp1,xl1,xq1,xp2,xl2,xq2,x9,x10,xb,rfl⟩:=zjv oX;have z5:w3.heap.size≤w5.heap.size:=b5.size;have B5:=B4.trans (b5.mono (by omega));clear P4 b5 B4
 go_upto_region 7 with (refine ze0 35 7 (.tmp 19) _ _ 15 rfl rfl rfl rfl rfl rfl rfl rfl zkc rfl rfl oX.one ?_)
 have bA:=bAl w5 (.cells (rwV x0 x1 x2 x3 x4 x5 x6 x7 x8 xp0 xl0 xq0 xp1 xl1 xq1 xp2 xl2 xq2 x9 x10 xb).toArray 35);have X6:=zaD w5 (rwV x0 x1 x2 x3 x4 x5 x6 x7 x8 xp0 xl0 xq0 xp1 xl1 xq1 xp2 xl2 xq2 x9 x10 xb).toArray 35;obtain ⟨W6,hW6⟩:∃ x,x=w5.alloc (.cells (rwV x0 x1 x2 x3 x4 x5 x6 x7 x8 xp0 xl0 xq0 xp1 xl1 xq1 xp2 xl2 xq2 x9 x10 xb).toArray 35):=⟨_,rfl⟩;rw [← hW6] at bA X6 ⊢;have B6:=B5.trans (bA.mono (by omega));have OX6:=oX.call bA;have z6:w5.heap.size<W6.heap.size:=X6.lt;clear bA hW6 oX B5
 go_wp2_with (refine za5 35 (.tmp 7) rfl rfl (w5.heap.size) rfl X6 Tryz.underlying35 zeC rfl ?_)
 refine (CI _ _ _ OX6.rd (by omega)).mono ?_;rintro e w9 ⟨rfl,b7⟩;have z7:W6.heap.size≤w9.heap.size:=b7.size;have B9:=B6.trans (b7.mono (by omega));have X9:=hid (X6.call b7);have OX9:=hid (OX6.call b7);have HB9:=hid B9;have P9:=hid (HT1.out.call B9);have CTc:=fun w' (hb:Below w9.heap.size w9 w')=>CT w' (HB9.out.trans (hb.mono (by omega)))
 have eqb:(bb != bb)=false:=by simp
 clear b7 B6 X6 OX6 B9
 go_upto_region 10 with fail
 go_cut [30] (fun v wx=>v=.bool false∧Below w9.heap.size w9 wx)
 case first=>
  have KS:∀ w',Below w9.heap.size w9 w'→(Box w' (w5.heap.size) (rwV x0 x1 x2 x3 x4 x5 x6 x7 x8 xp0 xl0 xq0 xp1 xl1 xq1 xp2 xl2 xq2 x9 x10 xb).toArray 35∧Box w' (w.heap.size) (rwV v0 v1 v2 v3 v4 v5 v6 v7 v8 vp0 vl0 vq0 vp1 vl1 vq1 vp2 vl2 vq2 v9 v10 vb).toArray 28):=fun w' hb=>⟨(X9.out).call hb,(P9.out.b1).call hb⟩;have B0:Below w9.heap.size w9 w9.drew:=zhU _;refine zgJ 4 (fun w'=>Box w' (w5.heap.size) (rwV x0 x1 x2 x3 x4 x5 x6 x7 x8 xp0 xl0 xq0 xp1 xl1 xq1 xp2 xl2 xq2 x9 x10 xb).toArray 35∧Box w' (w.heap.size) (rwV v0 v1 v2 v3 v4 v5 v6 v7 v8 vp0 vl0 vq0 vp1 vl1 vq1 vp2 vl2 vq2 v9 v10 vb).toArray 28) (by kernel_rfl) (KS _ B0) (fun hHeld=>?_);refine zcd (i:=0) (oi:=_) 16 rfl (by kernel_rfl) (fun _ _ _ h=>h) (zeF 35 (.tmp 7) rfl rfl (w5.heap.size) rfl (cs:=(rwV x0 x1 x2 x3 x4 x5 x6 x7 x8 xp0 xl0 xq0 xp1 xl1 xq1 xp2 xl2 xq2 x9 x10 xb)) (fun w' h=>h.1) Tryz.underlying35 zeC rfl) (by assumption) ?_
  try simp only [Act.put,SL]
  refine zcd (i:=1) (oi:=_) 16 rfl (by kernel_rfl) (fun _ _ _ h=>h) (zeF 28 (.tmp 2) rfl rfl (w.heap.size) rfl (cs:=(rwV v0 v1 v2 v3 v4 v5 v6 v7 v8 vp0 vl0 vq0 vp1 vl1 vq1 vp2 vl2 vq2 v9 v10 vb)) (fun w' h=>h.2) Tryz.underlying28 ze1 rfl) (by assumption) ?_
  try simp only [Act.put,SL]
  refine zeE (i:=2) (o:=_) rfl (by kernel_rfl) (fun KC hKC=>?_);refine zfp rfl 6 _ _ rfl #[.agg (rwV v0 v1 v2 v3 v4 v5 v6 v7 v8 vp0 vl0 vq0 vp1 vl1 vq1 vp2 vl2 vq2 v9 v10 vb).toArray] ?_ Tryz.func6 (by kernel_rfl) (by kernel_rfl) (CTc _ B0) ?_
  ·simp [Act.eval,Act.put]
  rintro ee wb ⟨cs',rfl,oR,bb⟩;have bR:Below w9.heap.size w9 wb:=B0.trans (bb.mono B0.size);refine ⟨_,rfl,?_⟩;refine hKC.out _ _ (KS _ bR) (fun hHeld=>?_);clear hKC KC
  try simp only [Act.put,SL]
  refine zeE (i:=3) (o:=_) rfl (by kernel_rfl) (fun KC hKC=>?_);refine zfp rfl 8 _ _ rfl #[.agg (rwV x0 x1 x2 x3 x4 x5 x6 x7 x8 xp0 xl0 xq0 xp1 xl1 xq1 xp2 xl2 xq2 x9 x10 xb).toArray,.agg cs'.toArray] ?_ Tryz.func8 (by kernel_rfl) (by kernel_rfl) (CW _ _ _ _ _ ((OX9.out).call bR).rd oR.rd (Nat.le_trans (by omega) bR.size) (Nat.le_refl _)) ?_
  ·simp [Act.eval,Act.put]
  rintro ee wc' ⟨rfl,bc⟩;have bC:Below w9.heap.size w9 wc':=bR.trans (bc.mono bR.size);refine ⟨_,rfl,?_⟩;refine hKC.out _ _ (KS _ bC) (fun hHeld=>?_);clear hKC KC
  try simp only [Act.put,SL]
  refine zgH (o:=_) rfl (by kernel_rfl) (fun KC hKC=>?_);go_simp;refine hKC.out _ _ ?_;clear hKC KC
  try simp only [Act.put,SL]
  refine zgI (by kernel_rfl) ?_ _;go_wp2
  go_meet
  exact ⟨rfl,bC⟩
 case rest=>
 obtain ⟨rfl,b10⟩:=hcut;have HB:Hid (Below w.heap.size w wc):=(P9.out.call b10).bel;clear b10 CTc;go_wp2;go_ret;exact ⟨rfl,HB.out⟩
set_option maxRecDepth 100000 in
theorem zb7 (os:Os) (started:os.Started) (H:Type) (enc:TypeId×Value→H) :
 ReturnsInHanded {} Tryz.checked os 3 .any (Rows.fnExactGroupHoldsSpec.pre6 enc Tryz.prog Tryz.f3 Rows.fnExactGroupHoldsRow.domain false) (Rows.fnExactGroupHoldsSpec.post enc Tryz.prog Tryz.f3 false true false false):=by
 refine returnsInHanded_of_change (C:=Tryz.checked) zid started (by kernel_rfl) Tryz.func3
  (ChangeSpec.witness6 (enc:=enc) (C:=Tryz.checked) false ⟨#[],#[.agg (rwV 0 0 0 0 0 0 0 0 0 none 0 0 none 0 0 none 0 0 0 0 false).toArray,.int .i64 0],[]⟩ 8 (by kernel_rfl) (by kernel_rfl) (by kernel_rfl) (by kernel_rfl)) ?_
 intro W base args ds gs before hval0 hW hcnd _;have hval:∀ (j:Nat) t v,Tryz.f3.params[j]?=some t→args[j]?=some v→Value.okWide Tryz.prog W .any base t v:=hval0;have hW':=hW;obtain ⟨p,q,hA0,hV,rfl,hfz,hnd⟩:=hW;have hA:DataW.TrodAll enc Tryz.prog W 0 (fun _=>true) true Tryz.f3.params.toList args.toList ds p:=hA0;rw [Tryz.params3] at hA hval;obtain ⟨v0,vs0,d0,ds0,p0,q0,hargs,rfl,rfl,h0,r0⟩:=trodAll_cons hA;obtain ⟨v1,vs1,d1,ds1,p1,q1,rfl,rfl,rfl,h1,r1⟩:=trodAll_cons r0;obtain ⟨rfl,rfl,rfl⟩:=trodAll_nil r1
 obtain rfl:args=#[v0,v1]:=by cases args;simp_all
 obtain ⟨rfl,rfl⟩:=trodVars_none hV;have k0:=h0
 have lt0:∀ x∈p0,x.block<W.heap.size:=by obtain ⟨m,hm⟩:=k0;exact DataW.trod_lt m _ _ _ hm
 obtain ⟨cs0,a0,rfl,rd0⟩:=zeo zhs Tryz.underlying28 (hval 0 28 v0 rfl rfl) h0;obtain ⟨n1,rfl,rfl,rfl,hn1⟩:=open_int Tryz.underlying2 (hval 1 2 v1 rfl rfl) h1;clear hA0 hval0;refine (zcm a0 cs0 n1 W rd0 (bounds_i64 hn1)).mono fun e W' ⟨he,bel⟩=>?_;subst he;exact ⟨_,rfl,_,_,_,[],_,[],hW',trodAll_mk1 (shut_bool Tryz.underlying4 _),(trodAll_cons_mk (Below.trod zhn (by kernel_rfl) (of_decide_eq_true (by kernel_rfl)) k0 bel lt0) (trodAll_cons_mk (shut_int Tryz.underlying2 hn1) trodAll_mk0)),rfl,bel.frame _,fun h=>by cases h⟩
end Go.Proofs.YtfhgcadinjfooaaGreat
