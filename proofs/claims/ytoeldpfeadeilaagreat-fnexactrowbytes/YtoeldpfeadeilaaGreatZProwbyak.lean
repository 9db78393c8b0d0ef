/- RowBytes of both sides. -/
import Derived.OrdersHeld
import Derived.Deep.RegionHeld
import Derived.Test.YtoeldpfeadeilaaGreatRows
import Derived.Test.YtoeldpfeadeilaaGreatZProwbyaj
set_option linter.unusedVariables false
set_option linter.unusedSimpArgs false
set_option maxHeartbeats 16000000
namespace Go.Proofs.YtoeldpfeadeilaaGreat
open Go.RowKit F256
theorem zj2 (d:WorldD) (G R:Nat) (i:Nat):rowB d G R i<256:=by
 unfold rowB decN zde;exact zfs _ _ (zcb _ _ _ _) _ _
def RbAns (d:WorldD) (g r:Int) (q:BytesResultD):Prop:=
 (∃ x,x≠0∧WhereAns d g r x∧q=⟨x,(0,fun _=>0)⟩)∨(WhereAns d g r 0∧zdp d g.toNat∧q=⟨10,(0,fun _=>0)⟩)∨(WhereAns d g r 0∧¬ zdp d g.toNat∧q=⟨0,(4*(d.shape 2).toNat,rowB d g.toNat r.toNat)⟩)
theorem RbAns.one {d:WorldD} {g r:Int} {p q:BytesResultD} (h:RbAns d g r p) (k:RbAns d g r q):p=q:=by
 rcases h with ⟨x,h1,h2,rfl⟩ | ⟨h1,h2,rfl⟩ | ⟨h1,h2,rfl⟩<;>rcases k with ⟨y,k1,k2,rfl⟩ | ⟨k1,k2,rfl⟩ | ⟨k1,k2,rfl⟩
 ·rw [h2.one k2]
 ·exact absurd (h2.one k1) h1
 ·exact absurd (h2.one k1) h1
 ·exact absurd (k2.one h1) k1
 ·rfl
 ·exact absurd h2 k2
 ·exact absurd (k2.one h1) k1
 ·exact absurd k2 h2
 ·rfl
set_option maxRecDepth 20000 in
theorem zgN (d:WorldD) (g r:Int) (cs:List Value) (hi:Nat) (w:World) (h:zae.rd w hi d cs) (hhi:hi≤w.heap.size) (hsz:zaU d≤1048576) :
 Calls Tryz.prog 7 #[.agg cs.toArray,.int .i64 g,.int .i64 r] w (zkU (RbAns d g r) w):=by
 have h':=h;obtain ⟨ao1,cap1,ao2,cap2,ao3,cap3,rfl,g1,g2,g3,k0,k4,k5⟩:=zay h';have HRD:=hid h;clear h h' g1 g2 g3 k0 k4 k5;have T0:=zaI w (rwW d ao1 cap1 ao2 cap2 ao3 cap3).toArray #[.int .i64 0,.slice none 0 0] 38 32
 go_enter Tryz.func7,Tryz.ntmps7
 go_wp2_with (refine zaq 38 (.tmp 3) rfl rfl (w.heap.size) rfl (T0.b1) Tryz.underlying38 zco rfl ?_)
 refine (zgM d g r _ hi _ (zae.rd_below HRD.out T0.bel hhi) (Nat.le_trans hhi T0.bel.size) hsz).mono ?_;rintro e w1 ⟨x,rfl,hx,b1⟩;have HT1:=hid (T0.call b1);have HX:=hid hx;have z1:w.heap.size+1<w1.heap.size:=HT1.out.b2.lt;clear b1 T0 hx
 by_cases hx0:x=0
 case neg=>
  have hne:(x != 0)=true:=by simp [hx0]
  go_wp2_with (refine zbC 32 _ _ rfl rfl (w.heap.size+1) rfl (cs:=[.int .i64 x,.slice none 0 0]) rfl (HT1.out.b2) zbQ rfl rfl ((zbO w1 x (zcz HX.out) 0 0 (Nat.zero_le _)).one) ?_;intro w9 X9 C9 z9)
  refine zd0 Tryz.results7 rfl X9 Tryz.underlying32 zbQ rfl rfl ?_;have zz:=C9.size;exact ⟨_,_,rfl,.inl ⟨x,hx0,HX.out,rfl⟩,zbO w9 x (zcz HX.out) _ _ (Nat.le_refl _),HT1.out.bel.trans (C9.bel (fun b hb=>by simp at hb;omega) HT1.out.bel.size)⟩
 subst hx0;obtain ⟨ha,hw⟩:=zdZ HX.out;have HOK:=hid (zeU ha);obtain ⟨G,R,rfl,rfl,hG,hR⟩:=zlf (zeU ha) hw;have HR:=hid hR;clear ha hw hR;have CD:=ziS d (rwW d ao1 cap1 ao2 cap2 ao3 cap3) hi G w1 (zae.rd_below HRD.out HT1.out.bel hhi) (Nat.le_trans hhi HT1.out.bel.size) hG
 go_wp2_with (refine zaq 38 (.tmp 3) rfl rfl (w.heap.size) rfl (HT1.out.b1) Tryz.underlying38 zco rfl ?_)
 refine CD.mono ?_;rintro e w2 ⟨t,rfl,ht,b2⟩;have HT2:=hid (HT1.out.call b2);have HD:=hid ht;have z2:w1.heap.size≤w2.heap.size:=b2.size;clear CD ht b2 HT1
 cases t with
 | true=>
  have hd:zdp d G:=HD.out.1 rfl;have HDD:=hid hd;clear hd HD
  go_wp2_with (refine zbC 32 _ _ rfl rfl (w.heap.size+1) rfl (cs:=[.int .i64 10,.slice none 0 0]) rfl (HT2.out.b2) zbQ rfl rfl ((zbO w2 10 (by decide) 0 0 (Nat.zero_le _)).one) ?_;intro w9 X9 C9 z9)
  refine zd0 Tryz.results7 rfl X9 Tryz.underlying32 zbQ rfl rfl ?_;have zz:=C9.size;exact ⟨_,_,rfl,.inr (.inl ⟨HX.out,HDD.out,rfl⟩),zbO w9 10 (by decide) _ _ (Nat.le_refl _),HT2.out.bel.trans (C9.bel (fun b hb=>by simp at hb;omega) HT2.out.bel.size)⟩
 | false=>
  have hd:¬ zdp d G:=fun hh=>by have:=HD.out.2 hh;cases this
  have HDD:=hid hd;have CB:=ze4 d (rwW d ao1 cap1 ao2 cap2 ao3 cap3) hi G R w2 (zae.rd_below HRD.out HT2.out.bel hhi) (Nat.le_trans hhi HT2.out.bel.size) hG HR.out HOK.out hd;clear hd HD
  go_wp2_with (refine zaq 38 (.tmp 3) rfl rfl (w.heap.size) rfl (HT2.out.b1) Tryz.underlying38 zco rfl ?_)
  refine CB.mono ?_;rintro e w3 ⟨v3,rfl,o3,b3⟩;have HT3:=hid (HT2.out.call b3);have z3:w2.heap.size≤w3.heap.size:=b3.size;clear CB b3 HT2;obtain ⟨ao9,cap9,rfl⟩:=o3.slice;have OO:=zfW o3 (Nat.le_refl _) (zj2 d G R) 0 (by decide);clear o3
  go_wp2_with (refine zbC 32 _ _ rfl rfl (w.heap.size+1) rfl (cs:=[.int .i64 0,.slice ao9 (4*(d.shape 2).toNat) cap9]) rfl (HT3.out.b2) zbQ rfl rfl (OO.one) ?_;intro w9 X9 C9 z9)
  refine zd0 Tryz.results7 rfl X9 Tryz.underlying32 zbQ rfl rfl ?_;have zz:=C9.size;exact ⟨_,_,rfl,.inr (.inr ⟨HX.out,HDD.out,rfl⟩),(OO.chgk C9 (fun b hb=>by simp at hb;omega)).weaken (by omega) zz,HT3.out.bel.trans (C9.bel (fun b hb=>by simp at hb;omega) HT3.out.bel.size)⟩
set_option maxRecDepth 20000 in
theorem zgO (d:WorldD) (g r:Int) (cs:List Value) (hi:Nat) (w:World) (h:zae.rd w hi d cs) (hhi:hi≤w.heap.size) (hsz:zaU d≤1048576) :
 Calls Tryz.prog 5 #[.agg cs.toArray,.int .i64 g,.int .i64 r] w (zkU (RbAns d g r) w):=by
 have h':=h;obtain ⟨ao1,cap1,ao2,cap2,ao3,cap3,rfl,g1,g2,g3,k0,k4,k5⟩:=zay h';have HRD:=hid h;clear h h' g1 g2 g3 k0 k4 k5;have T0:=zaI w (rwW d ao1 cap1 ao2 cap2 ao3 cap3).toArray #[.int .i64 0,.slice none 0 0] 38 32
 go_enter Tryz.func5,Tryz.ntmps5
 go_wp2_with (refine zaq 38 (.tmp 3) rfl rfl (w.heap.size) rfl (T0.b1) Tryz.underlying38 zco rfl ?_)
 refine (zhP d g r _ hi _ (zae.rd_below HRD.out T0.bel hhi) (Nat.le_trans hhi T0.bel.size) hsz).mono ?_;rintro e w1 ⟨x,rfl,hx,b1⟩;have HT1:=hid (T0.call b1);have HX:=hid hx;have z1:w.heap.size+1<w1.heap.size:=HT1.out.b2.lt;clear b1 T0 hx
 by_cases hx0:x=0
 case neg=>
  have hne:(x != 0)=true:=by simp [hx0]
  go_wp2_with (refine zbC 32 _ _ rfl rfl (w.heap.size+1) rfl (cs:=[.int .i64 x,.slice none 0 0]) rfl (HT1.out.b2) zbQ rfl rfl ((zbO w1 x (zcz HX.out) 0 0 (Nat.zero_le _)).one) ?_;intro w9 X9 C9 z9)
  refine zd0 Tryz.results5 rfl X9 Tryz.underlying32 zbQ rfl rfl ?_;have zz:=C9.size;exact ⟨_,_,rfl,.inl ⟨x,hx0,HX.out,rfl⟩,zbO w9 x (zcz HX.out) _ _ (Nat.le_refl _),HT1.out.bel.trans (C9.bel (fun b hb=>by simp at hb;omega) HT1.out.bel.size)⟩
 subst hx0;obtain ⟨ha,hw⟩:=zdZ HX.out;have HOK:=hid (zeU ha);obtain ⟨G,R,rfl,rfl,hG,hR⟩:=zlf (zeU ha) hw;have HR:=hid hR;clear ha hw hR;have CB:=zhC d (rwW d ao1 cap1 ao2 cap2 ao3 cap3) hi w.heap.size G R w1 (zae.rd_below HRD.out HT1.out.bel hhi) (Nat.le_trans hhi HT1.out.bel.size) HT1.out.b1 hG HR.out HOK.out
 go_wp2_with fail
 refine CB.mono ?_;rintro e w3 ⟨v3,t,rfl,ht,o3,b3⟩;have HT3:=hid (HT1.out.call b3);have HD:=hid ht;have z3:w1.heap.size≤w3.heap.size:=b3.size;clear CB ht b3 HT1
 cases t with
 | false=>
  have hd:zdp d G:=Classical.byContradiction fun hh=>by have:=HD.out.2 hh;cases this
  have HDD:=hid hd
  simp only [Bool.false_eq_true,if_false] at o3
  obtain ⟨ao9,cap9,rfl⟩:=o3.slice;clear hd HD o3
  go_wp2_with (refine zbC 32 _ _ rfl rfl (w.heap.size+1) rfl (cs:=[.int .i64 10,.slice none 0 0]) rfl (HT3.out.b2) zbQ rfl rfl ((zbO w3 10 (by decide) 0 0 (Nat.zero_le _)).one) ?_;intro w9 X9 C9 z9)
  refine zd0 Tryz.results5 rfl X9 Tryz.underlying32 zbQ rfl rfl ?_;have zz:=C9.size;exact ⟨_,_,rfl,.inr (.inl ⟨HX.out,HDD.out,rfl⟩),zbO w9 10 (by decide) _ _ (Nat.le_refl _),HT3.out.bel.trans (C9.bel (fun b hb=>by simp at hb;omega) HT3.out.bel.size)⟩
 | true=>
  have hd:¬ zdp d G:=HD.out.1 rfl;have HDD:=hid hd
  simp only [if_pos] at o3
  clear hd HD;obtain ⟨ao9,cap9,rfl⟩:=o3.slice;have OO:=zfW o3 (Nat.le_refl _) (zj2 d G R) 0 (by decide);clear o3
  go_wp2_with (refine zbC 32 _ _ rfl rfl (w.heap.size+1) rfl (cs:=[.int .i64 0,.slice ao9 (4*(d.shape 2).toNat) cap9]) rfl (HT3.out.b2) zbQ rfl rfl (OO.one) ?_;intro w9 X9 C9 z9)
  refine zd0 Tryz.results5 rfl X9 Tryz.underlying32 zbQ rfl rfl ?_;have zz:=C9.size;exact ⟨_,_,rfl,.inr (.inr ⟨HX.out,HDD.out,rfl⟩),(OO.chgk C9 (fun b hb=>by simp at hb;omega)).weaken (by omega) zz,HT3.out.bel.trans (C9.bel (fun b hb=>by simp at hb;omega) HT3.out.bel.size)⟩
theorem zlg (d:WorldD):∃ x,AskAns d x:=by
 obtain ⟨x,hx⟩:=zkh d
 by_cases h:x=0
 ·subst h
  cases hd:d.down with
  | true=>exact ⟨9,.inr ⟨hx,.inl ⟨hd,rfl⟩⟩⟩
  | false=>exact ⟨0,.inr ⟨hx,.inr ⟨hd,rfl⟩⟩⟩
 ·exact ⟨x,.inl ⟨h,hx⟩⟩
theorem zkt (d:WorldD) (g r:Int):∃ z,WhereAns d g r z:=by
 obtain ⟨y,hy⟩:=zlg d
 by_cases h:y=0
 ·subst h
  by_cases h1:WhP d.shape g r
  ·by_cases h2:HasP d.on.1 d.on.2 g
   ·exact ⟨0,.inr ⟨hy,.inr ⟨h1,.inr ⟨h2,rfl⟩⟩⟩⟩
   ·exact ⟨8,.inr ⟨hy,.inr ⟨h1,.inl ⟨h2,rfl⟩⟩⟩⟩
  ·exact ⟨3,.inr ⟨hy,.inl ⟨h1,rfl⟩⟩⟩
 ·exact ⟨y,.inl ⟨h,hy⟩⟩
end Go.Proofs.YtoeldpfeadeilaaGreat
namespace Go.Proofs.YtoeldpfeadeilaaGreat
open Go.RowKit
section
variable {P:Program} {ops:Array Oper} {Q:Exit→Act→World→Prop} {md:Region.Mode} {S:World→Prop} {L:Nat}
def zbX (P:Program) (md:Region.Mode) (ops:Array Oper) (Q:Exit→Act→World→Prop) (S:World→Prop) (L:Nat):Nat→Array Bool→Act→World→Prop
 | 0,listed,a,w=>Region.ready md ops listed=[]∧Q .normal a w
 | fuel+1,listed,a,w=>
  (Region.ready md ops listed=[]→Q .normal a w)∧
  ∀ i∈Region.ready md ops listed,wpOp P ops Q i (fun a' w'=>(i≠L→S w')∧zbX P md ops Q S L fuel (listed.setIfInBounds i true) a' w') a w
theorem zff:∀ (fuel:Nat) (listed:Array Bool) (a:Act) (w:World),zbX P md ops Q S L fuel listed a w→wpAny P md ops Q fuel listed a w
 | 0,_,_,_,h=>h
 | fuel+1,_,_,_,h=>⟨h.1,fun i hi=>wpOp_mono (fun a' w' h'=>zff fuel _ a' w' h'.2) (h.2 i hi)⟩
def zd1 (md:Region.Mode) (ops:Array Oper) (listed:Array Bool):Prop:=
 ∀ j oj,ops[j]?=some oj→listed.getD j false=true→∀ e∈oj.after,Region.binds md e=true→listed.getD e.on false=true
def zeW (md:Region.Mode) (ops:Array Oper) (listed:Array Bool):Bool:=
 (List.range ops.size).all fun j=>!listed.getD j false||((ops[j]?).map (·.after.all fun e=>!Region.binds md e||listed.getD e.on false)).getD false
theorem zj3 {listed:Array Bool} (h:zeW md ops listed=true):zd1 md ops listed:=fun j oj hj hl e he hb=>by
 unfold zeW at h;have hlt:j<ops.size:=(Array.getElem?_eq_some_iff.1 hj).1;have h1:=List.all_eq_true.1 h j (List.mem_range.2 hlt);rw [hl,hj] at h1
 simp only [Bool.not_true,Bool.false_or,Option.map_some,Option.getD_some,Array.all_eq_true_iff_forall_mem] at h1
 have h2:=h1 e he;rw [hb] at h2
 simpa using h2
theorem zhR {listed:Array Bool} {j:Nat} (h:zd1 md ops listed) (hj:j∈Region.ready md ops listed):zd1 md ops (listed.setIfInBounds j true):=fun k ok hk hl e he hb=>by
 obtain ⟨_,o,ho,hall⟩:=mem_ready.1 hj
 by_cases c:j=k
 ·subst c
  rw [hk] at ho
  cases ho
  exact getD_set_true (hall e he hb)
 ·rw [getD_set_ne false c] at hl
  exact getD_set_true (h k ok hk hl e he hb)
def depB (md:Region.Mode) (ops:Array Oper):Nat→Nat→Nat→Bool
 | 0,l,i=>l==i
 | n+1,l,i=>l==i||((ops[l]?).map (·.after.any fun e=>Region.binds md e&&depB md ops n e.on i)).getD false
theorem zfg {listed:Array Bool} (hc:zd1 md ops listed):∀ (n l i:Nat),depB md ops n l i=true→listed.getD l false=true→listed.getD i false=true
 | 0,l,i,h,hl=>by
  unfold depB at h
  have:l=i:=by simpa using h
  rw [← this];exact hl
 | n+1,l,i,h,hl=>by
  unfold depB at h
  rcases Bool.or_eq_true _ _ ▸ h with h1 | h1
  ·have:l=i:=by simpa using h1
   rw [← this];exact hl
  ·cases ho:ops[l]? with
   | none=>rw [ho] at h1;simp at h1
   | some o=>
    rw [ho] at h1
    simp only [Option.map_some,Option.getD_some] at h1
    obtain ⟨k,hk,hbk⟩:=Array.any_eq_true.1 h1;obtain ⟨hb,hd⟩:=Bool.and_eq_true _ _ ▸ hbk;exact zfg hc n _ i hd (hc l o ho hl _ (Array.getElem_mem hk) hb)
theorem zj4 {listed:Array Bool} (hc:zd1 md ops listed) {n i:Nat} (hne:L≠i) (hd:depB md ops n L i=true) (hi:listed.getD i false=false):L∉Region.ready md ops listed:=fun hL=>by
 obtain ⟨_,o,ho,hall⟩:=mem_ready.1 hL
 cases n with
 | zero=>unfold depB at hd;exact hne (by simpa using hd)
 | succ n=>
  unfold depB at hd
  rcases Bool.or_eq_true _ _ ▸ hd with h1 | h1
  ·exact hne (by simpa using h1)
  ·rw [ho] at h1
   simp only [Option.map_some,Option.getD_some] at h1
   obtain ⟨k,hk,hbk⟩:=Array.any_eq_true.1 h1;obtain ⟨hb,hd'⟩:=Bool.and_eq_true _ _ ▸ hbk;have:=zfg hc n _ i hd' (hall _ (Array.getElem_mem hk) hb);rw [hi] at this
   cases this
theorem zdg {listed:Array Bool} {i:Nat} (h:listed.getD i true=false):listed.getD i false=false:=by
 rcases Nat.lt_or_ge i listed.size with h' | h'
 ·simpa [h'] using h
 ·simp [Array.getElem?_eq_none h'] at h
theorem zgP {i:Nat} {oi:Oper} {v:Value} (hi:ops[i]?=some oi) (hsel:∀ (j:Nat) (o:Oper) cs b,ops[j]?=some o→o.op≠.select cs b)
 (hQ:∀ c a w,Q (.panic c) (a.put oi.dst v) w→Q (.panic c) a w) (hLi:L≠i) {n:Nat} (hd:depB md ops n L i=true) :
 ∀ (fuel:Nat) (listed:Array Bool) (a:Act) (w:World),zd1 md ops listed→
  (∀ j oj,ops[j]?=some oj→j≠i→listed.getD j true=false→(∀ e∈oj.after,Region.binds md e=true→e.on≠i)→oi.apart ops oj=true)→
  i∈Region.ready md ops listed→YieldsIf P ops S oi v a→S w→
  zbX P md ops Q S L fuel (listed.setIfInBounds i true) (a.put oi.dst v) w→zbX P md ops Q S L (fuel+1) listed a w:=by
 intro fuel
 induction fuel with
 | zero=>
  intro listed a w _ _ hr hy hS H;refine ⟨fun h=>(by rw [h] at hr;cases hr),fun j hj=>?_⟩
  by_cases hji:j=i
  ·subst hji;exact hy.wpOp hi hS ⟨fun _=>hS,H⟩
  ·have:=ready_mono hj hji
   rw [H.1] at this
   cases this
 | succ fuel ih=>
  intro listed a w hcl hfree hr hy hS H;refine ⟨fun h=>(by rw [h] at hr;cases hr),fun j hj=>?_⟩
  by_cases hji:j=i
  ·subst hji;exact hy.wpOp hi hS ⟨fun _=>hS,H⟩
  ·have hjL:j≠L:=fun h=>by
    subst h;exact zj4 hcl hLi hd (zdg (mem_ready.1 hr).1) hj
   have h1:=H.2 j (ready_mono hj hji);obtain ⟨hjun,oj,hoj,hall⟩:=mem_ready.1 hj
   have hnot:∀ e∈oj.after,Region.binds md e=true→e.on≠i:=fun e he hb heq=>by
    have h1:=hall e he hb;have h0:=zdg (mem_ready.1 hr).1;rw [heq,h0] at h1
    cases h1
   have h2:=wpOp_putIf hoj (hfree j oj hoj hji hjun hnot) (fun cs b=>hsel i oi cs b hi) (fun cs b=>hsel j oj cs b hoj) hQ hy h1
   have hfree':∀ k ok,ops[k]?=some ok→k≠i→(listed.setIfInBounds j true).getD k true=false→
    (∀ e∈ok.after,Region.binds md e=true→e.on≠i)→oi.apart ops ok=true:=fun k ok hk hki hun hno=>by
    refine hfree k ok hk hki ?_ hno
    by_cases hjk:j=k
    ·subst hjk;exact hjun
    ·rw [getD_set_ne true hjk] at hun;exact hun
   refine wpOp_mono (fun a' w' h3=>⟨h3.2.1,ih (listed.setIfInBounds j true) a' w' (zhR hcl hj) hfree' (ready_mono hr (Ne.symm hji)) h3.1 (h3.2.1 hjL) ?_⟩) h2;rw [Array.setIfInBounds_comm _ _ hji];exact h3.2.2
theorem zcA {i:Nat} {oi:Oper} {v:Value} {fuel:Nat} {listed:Array Bool} {a:Act} {w:World} (n:Nat) (hi:ops[i]?=some oi)
 (hs:(Region.noSelect ops&&Region.free md ops listed i&&(Region.ready md ops listed).contains i&&!(L==i)&&depB md ops n L i&&zeW md ops listed)=true)
 (hQ:∀ c a w,Q (.panic c) (a.put oi.dst v) w→Q (.panic c) a w) (hy:YieldsIf P ops S oi v a) (hS:S w)
 (h:zbX P md ops Q S L fuel (listed.setIfInBounds i true) (a.put oi.dst v) w):zbX P md ops Q S L (fuel+1) listed a w:=by
 simp only [Bool.and_eq_true,Bool.not_eq_true',beq_eq_false_iff_ne] at hs
 obtain ⟨⟨⟨⟨⟨h1,h2⟩,h3⟩,h4⟩,h5⟩,h6⟩:=hs;exact zgP hi (Region.noSelect_spec h1) hQ h4 h5 fuel listed a w (zj3 h6) (Region.free_spec hi h2) (by simpa using h3) hy hS h
theorem zlh (i:Nat) {oi:Oper} {v:Value} {fuel:Nat} {listed:Array Bool} {a:Act} {w:World} (hi:ops[i]?=some oi) (hy:∀ w,S w→(execOp a.eval oi).run P w=.ok (.value v) w) (h:zbX P md ops Q S L fuel (listed.setIfInBounds i true) (a.put oi.dst v) w) (hs:(Region.noSelect ops && Region.free md ops listed i && (Region.ready md ops listed).contains i && !(L==i) && depB md ops 16 L i && zeW md ops listed)=true:=by kernel_rfl) (hQ:∀ c a w,Q (.panic c) (a.put oi.dst v) w→Q (.panic c) a w:=by exact fun _ _ _ h=>h) (hw:Region.wanted oi (yielded ops a.tmps)=true:=by first | rfl | kernel_rfl) (hS:S w:=by assumption):zbX P md ops Q S L (fuel+1) listed a w:=zcA 16 hi hs hQ (Or.inl ⟨hw,hy⟩) hS h
theorem zli (i:Nat) {oi:Oper} {v:Value} {fuel:Nat} {listed:Array Bool} {a:Act} {w:World} (hi:ops[i]?=some oi) (h:zbX P md ops Q S L fuel (listed.setIfInBounds i true) (a.put oi.dst v) w) (hy:∀ w,S w→(execOp a.eval oi).run P w=.ok (.value v) w:=by intro w' hSw;(try dsimp only at hSw);(repeat (have _q:=And.left hSw;replace hSw:=And.right hSw));go_simp;try with_reducible rfl) (hs:(Region.noSelect ops && Region.free md ops listed i && (Region.ready md ops listed).contains i && !(L==i) && depB md ops 16 L i && zeW md ops listed)=true:=by kernel_rfl) (hQ:∀ c a w,Q (.panic c) (a.put oi.dst v) w→Q (.panic c) a w:=by exact fun _ _ _ h=>h) (hw:Region.wanted oi (yielded ops a.tmps)=true:=by first | kernel_rfl | rfl) (hS:S w:=by assumption):zbX P md ops Q S L (fuel+1) listed a w:=zcA 16 hi hs hQ (Or.inl ⟨hw,hy⟩) hS h
theorem zfh {i:Nat} {o:Oper} {fuel:Nat} {listed:Array Bool} {a:Act} {w:World} (ho:ops[i]?=some o) (hr:Region.ready md ops listed=[i])
 (h:∀ K':Act→World→Prop,Shut (∀ a w,S w→(S w→zbX P md ops Q S L fuel (listed.setIfInBounds i true) a w)→K' a w)→if Region.wanted o (yielded ops a.tmps)=true then Oper.wp P o a w K' Q else K' (a.put o.dst undef) w):zbX P md ops Q S L (fuel+1) listed a w:=by
 refine ⟨fun h0=>(by rw [hr] at h0;cases h0),fun j hj=>?_⟩;rw [hr] at hj
 obtain rfl:j=i:=by simpa using hj
 exact wpOp_step ho (fun K' hK=>h K' (fun a w hS hW=>hK a w ⟨fun _=>hS,hW hS⟩))
theorem zhS {o:Oper} {fuel:Nat} {listed:Array Bool} {a:Act} {w:World} (ho:ops[L]?=some o) (hr:Region.ready md ops listed=[L])
 (h:∀ K':Act→World→Prop,Shut (∀ a w,zbX P md ops Q S L fuel (listed.setIfInBounds L true) a w→K' a w)→if Region.wanted o (yielded ops a.tmps)=true then Oper.wp P o a w K' Q else K' (a.put o.dst undef) w):zbX P md ops Q S L (fuel+1) listed a w:=by
 refine ⟨fun h0=>(by rw [hr] at h0;cases h0),fun j hj=>?_⟩;rw [hr] at hj
 obtain rfl:j=L:=by simpa using hj
 exact wpOp_step ho (fun K' hK=>h K' (fun a w hW=>hK a w ⟨fun hn=>absurd rfl hn,hW⟩))
theorem zhT {listed:Array Bool} {a:Act} {w:World} (hr:Region.ready md ops listed=[]) (h:Q .normal a w):∀ fuel,zbX P md ops Q S L fuel listed a w
 | 0=>⟨hr,h⟩
 | _+1=>⟨fun _=>h,by rw [hr];simp⟩
theorem zhU {id:Nat} {a:Act} {w:World} (L:Nat) (S:World→Prop) (hm:P.follows .mixedOrders=true) (hS:S w.drew)
 (h:S w.drew→zbX P .any ops Q S L ops.size (Array.replicate ops.size false) a w.drew):(Code.region id ops true).wp P Q a w:=
 wp_region_any hm (zff _ _ _ _ (h hS))
end
section
variable {ops:Array Oper} {Q:Exit→Act→World→Prop} {md:Region.Mode} {S:World→Prop} {L:Nat}
theorem zfi {o:Oper} {a:Act} (T:TypeId) (x:Operand) (ho:o.op=.load T x) (hg:o.guard=none) (b:Nat) (hx:a.eval x=.pointer (some ⟨b,0,none⟩)) {cs:List Value} (hB:∀ w,S w→Box w b cs.toArray T) {fs:Array Field} (hu:Tryz.prog.underlying T=some (.struct fs)) {n:Nat} (hi:(Tryz.prog.info? T).map (·.size)=some n) (hl:cs.length=n):YieldsIf Tryz.prog ops S o (.agg cs.toArray) a:=by
 refine .inl ⟨by simp [Region.wanted,hg],fun w hS=>?_⟩;unfold execOp
 simp only [ho,hx,Instr.loadAt,Instr.sureAddr,Sem.run_bind,Sem.run_pure,Result.andThen_ok,run_loadVar_row w b T T cs.toArray (0,0) (.struct fs) (hB w hS) hu rfl (by rw [hi];simp [hl])]
end
theorem zi2 (w:World):Below w.heap.size w w.drew:=⟨rfl,rfl,rfl,Nat.le_refl _,fun _ _=>rfl⟩
end Go.Proofs.YtoeldpfeadeilaaGreat
namespace Go.Proofs.YtoeldpfeadeilaaGreat
open Go.RowKit F256
set_option maxRecDepth 20000 in
theorem zef:EqV zas 8:=fun c1 c2 d h1 h2 w r1 r2 u1 u2=>by
 obtain ⟨ao1,cap1,rfl,g1,-⟩:=zbG r1;obtain ⟨bao1,bcap1,rfl,q1,-⟩:=zbG r2;clear r1 r2;have G1:=hid g1;have E1:=hid q1;clear g1 q1
 go_enter Tryz.func8,Tryz.ntmps8
 go_wp2_with fail
 have T0:=zaI w #[.int .i64 d.code,.slice ao1 d.bytes.1 cap1] #[.int .i64 d.code,.slice bao1 d.bytes.1 bcap1] 32 32;refine (zc3 _ _ d.bytes h1 h2 _ (zaa.rd_below G1.out T0.bel u1) (zaa.rd_below E1.out T0.bel u2) (Nat.le_trans u1 T0.bel.size) (Nat.le_trans u2 T0.bel.size)).mono ?_;rintro e w1 ⟨rfl,b1⟩;have T1:Two w w1 #[.int .i64 d.code,.slice ao1 d.bytes.1 cap1] #[.int .i64 d.code,.slice bao1 d.bytes.1 bcap1] 32 32:=T0.call b1;clear T0 b1;have B:=hid T1.bel;clear T1;go_wp2;go_ret;exact ⟨rfl,B.out⟩
theorem zdK:MkV zas zaQ zbw 11:=fun cs d L j w h nd hj=>by
 obtain ⟨ao1,cap1,K1,rfl,hLL,o1,k0⟩:=zeV h;clear h;have hLM:=hLL.symm;subst hLM;unfold zaQ at hj ⊢;have Z1:=zaa.own_lt o1;have bz:=bAl w (.cells #[.int .i64 d.code,.slice ao1 d.bytes.1 cap1] 32);have B0:Hid (Box (w.alloc (.cells #[.int .i64 d.code,.slice ao1 d.bytes.1 cap1] 32)) w.heap.size #[.int .i64 d.code,.slice ao1 d.bytes.1 cap1] 32):=zaC _ _ _;have CH0:Hid (ChgL (K1) w (w.alloc (.cells #[.int .i64 d.code,.slice ao1 d.bytes.1 cap1] 32))):=ChgL.of_below bz;have O0_1:Hid (zaa.own (w.alloc (.cells #[.int .i64 d.code,.slice ao1 d.bytes.1 cap1] 32)) d.bytes [.slice ao1 d.bytes.1 cap1] K1):=zaa.own_kept o1 (fun b hb=>bz.block b (Z1 b hb));clear bz o1
 go_enter Tryz.func11,Tryz.ntmps11
 go_wp2_with fail
 refine (zcg _ d.bytes K1 (j) _ O0_1.out nd (by omega)).mono ?_;rintro e w1 ⟨rfl,p1,q1⟩;have O1_1:=hid p1;have B1:Hid (Box w1 w.heap.size #[.int .i64 d.code,.slice ao1 d.bytes.1 cap1] 32):=(q1.block w.heap.size B0.out.lt (fun hb=>by have:=Z1 _ hb;omega)).trans B0.out;have CH1:Hid (ChgL (K1) w w1):=CH0.out.sub q1 (fun b hb=>hb);clear p1 q1;go_wp2;go_ret;exact ⟨zbT (by omega),zdf (zbw j d) O1_1.out k0,CH1.out⟩
theorem zdL:HdV zas zaQ zbw 12:=fun cs d hi j w h hhi hj=>by
 obtain ⟨ao1,cap1,rfl,r1,-⟩:=zbG h;clear h;unfold zaQ at hj ⊢;have R1:=hid r1;clear r1
 change Calls Tryz.prog 12 #[.agg #[.int .i64 d.code,.slice ao1 d.bytes.1 cap1],.int .i64 j] w _
 go_enter Tryz.func12,Tryz.ntmps12
 go_wp2_with fail
 have T0:=zav w #[.int .i64 d.code,.slice ao1 d.bytes.1 cap1] 32;refine (zf7 _ d.bytes hi (j) _ (zaa.rd_below R1.out T0.bel hhi) (Nat.le_trans hhi T0.bel.size) (by omega)).mono ?_;rintro e w1 ⟨rfl,b1⟩;have T1:One w w1 #[.int .i64 d.code,.slice ao1 d.bytes.1 cap1] 32:=T0.call b1
 have hz1:¬ (((j+lenD d.bytes:Nat):Int)<0):=by omega
 have HB:=hid T1.bel;clear b1 T1;go_wp2;go_ret;exact ⟨zbT (by omega),HB.out⟩
end Go.Proofs.YtoeldpfeadeilaaGreat
namespace Go.Proofs.YtoeldpfeadeilaaGreat
open Go.ChangeShapes Go.WideShapes Go.ChangeAt Go.RowKit F256
theorem zbR {w:World} {hi:Nat} {d:BytesResultD} {cs:List Value} (h:zas.rd w hi d cs):∃ v0 vp vl vq,cs=[.int .i64 v0,.slice vp vl vq]:=by
 obtain ⟨p1,pc1,rfl,-⟩:=zbG h;exact ⟨_,_,_,_,rfl⟩
theorem zbS:(Tryz.prog.info? 32).map (fun i=>(i.zero.map (·.cells),i.size))=some (some #[.int .i64 0,.slice none 0 0],2):=by kernel_rfl
theorem rb_ex (d:WorldD) (g r:Int):∃ q,RbAns d g r q:=by
 obtain ⟨x,hx⟩:=zkt d g r
 by_cases h:x=0
 ·subst h
  by_cases hd:zdp d g.toNat
  ·exact ⟨_,.inr (.inl ⟨hx,hd,rfl⟩)⟩
  ·exact ⟨_,.inr (.inr ⟨hx,hd,rfl⟩)⟩
 ·exact ⟨_,.inl ⟨x,h,hx,rfl⟩⟩
theorem rb_cv {d:WorldD} {g r:Int} {q:BytesResultD} (hq:RbAns d g r q) (hsz:zaU d≤1048576):zaQ q≤90000000:=by
 rcases hq with ⟨x,_,_,rfl⟩ | ⟨_,_,rfl⟩ | ⟨h0,_,rfl⟩
 ·exact Nat.zero_le _
 ·exact Nat.zero_le _
 ·obtain ⟨s1,s2,_⟩:=(zeU (zdZ h0).1).shape
  unfold Shp at s2
  show 4*(d.shape 2).toNat≤_
  omega
theorem zkA {d:WorldD} {g r:Int} {q:BytesResultD} {w:World} {f:Nat} {args:Array Value} (hq:RbAns d g r q) (h:Calls Tryz.prog f args w (zkU (RbAns d g r) w)):Calls Tryz.prog f args w fun e w'=>∃ cs,e=.returned (.agg cs.toArray)∧OwnT zas w' w.heap.size w'.heap.size q cs∧Below w.heap.size w w':=
 h.mono fun e w' ⟨d',cs,h1,h2,h3,h4⟩=>⟨cs,h1,by rw [hq.one h2];exact h3,h4⟩
theorem zdr:(Tryz.prog.info? 32).map (·.size)=some 2:=by kernel_rfl
set_option maxRecDepth 20000 in
theorem zc9 (d:WorldD) (cs:List Value) (i0:Int) (i1:Int) (w:World) (rd0:zae.rd w w.heap.size d cs) (hi0:-9223372036854775808≤i0∧i0≤9223372036854775807) (hi1:-9223372036854775808≤i1∧i1≤9223372036854775807) :
 Calls Tryz.prog 3 #[.agg cs.toArray,.int .i64 i0,.int .i64 i1] w fun e w'=>e=.returned (.bool true)∧Below w.heap.size w w':=by
 obtain ⟨v0,v1,v2,v3,v4,v5,v6,v7,v8,vp0,vl0,vq0,vp1,vl1,vq1,vp2,vl2,vq2,v9,v10,vb,rfl⟩:=zjX rd0;have HR:=hid rd0
 skip
 clear rd0 hi0 hi1;have T0:=zav w (rwV v0 v1 v2 v3 v4 v5 v6 v7 v8 vp0 vl0 vq0 vp1 vl1 vq1 vp2 vl2 vq2 v9 v10 vb).toArray 28
 go_enter Tryz.func3,Tryz.ntmps3
 go_wp2_with (refine zaq 28 (.tmp 3) rfl rfl (w.heap.size) rfl T0.b1 Tryz.underlying28 zeI rfl ?_)
 refine (ziN _ d w.heap.size 1048576 _ (zae.rd_below HR.out T0.bel (Nat.le_refl _)) T0.bel.size (by omega)).mono ?_;rintro e w1 ⟨x,rfl,hx,b1⟩;have T1:=T0.call b1;have HT1:=hid T1;clear b1 T0
 rcases hx with rfl | ⟨hsz,hx⟩
 ·clear T1
  go_wp2;go_ret;exact ⟨rfl,HT1.out.bel⟩
 have hx0:¬ x<0:=by omega
 clear hx;obtain ⟨q,hq⟩:=rb_ex d i0 i1;obtain ⟨N,hN⟩:∃ N,N=1+zaQ q:=⟨_,rfl⟩
 have hj:1+zaQ q≤100000000:=by have:=rb_cv hq hsz;omega
 obtain ⟨M,hM⟩:∃ M,M=1+zc4 d:=⟨_,rfl⟩
 have hk:1+zc4 d≤100000000:=by have:=ziR d;omega
 have CT:∀ w',Below w1.heap.size w1 w'→Calls Tryz.prog 6 #[.agg (rwV v0 v1 v2 v3 v4 v5 v6 v7 v8 vp0 vl0 vq0 vp1 vl1 vq1 vp2 vl2 vq2 v9 v10 vb).toArray] w' fun e w''=>∃ cs',e=.returned (.agg cs'.toArray)∧OwnT zae w'' w'.heap.size w''.heap.size d cs'∧Below w'.heap.size w' w'':=fun w' hb=>
  ziF _ d w.heap.size w' (zae.rd_below (zae.rd_below HR.out HT1.out.bel (Nat.le_refl _)) hb HT1.out.bel.size) (Nat.le_trans HT1.out.bel.size hb.size) hsz
 have CS:=fun (cs':List Value) (hi:Nat) (w':World) (h1:zae.rd w' hi d cs') (h2:hi≤w'.heap.size)=>zkA hq (zgO d i0 i1 cs' hi w' h1 h2 hsz);have CI:=fun (cs':List Value) (hi:Nat) (w':World) (h1:zae.rd w' hi d cs') (h2:hi≤w'.heap.size)=>zkA hq (zgN d i0 i1 cs' hi w' h1 h2 hsz);have CE:=fun c1 c2 h1 h2 w'=>zef c1 c2 q h1 h2 w';have CW:=fun c1 c2 h1 h2 w'=>ziJ c1 c2 d h1 h2 w';have CM:=fun {w':World} {lo hi:Nat} {cs:List Value} (h:OwnT zas w' lo hi q cs)=>zky zdK h 1 hj;have CK:=fun {w':World} {lo hi:Nat} {cs:List Value} (h:OwnT zae w' lo hi d cs)=>zky zgs h 1 hk;have CH:=fun (cs:List Value) (hi:Nat) (w':World) (h:zas.rd w' hi (zbw 1 q) cs) (hh:hi≤w'.heap.size)=>zdL cs q hi 1 w' h hh hj;rw [← hN] at CM CH;rw [← hM] at CK;clear hN hM hj hk hq hsz
 go_wp2_with (refine zaq 28 (.tmp 3) rfl rfl (w.heap.size) rfl T1.b1 Tryz.underlying28 zeI rfl ?_)
 refine (CT _ (Below.refl _ _)).mono ?_;rintro e w2 ⟨c2,rfl,o2,b2⟩;have z1:w.heap.size<w1.heap.size:=T1.b1.lt;clear T1
 go_wp2_with fail
 refine (CS _ _ _ o2.rd (Nat.le_refl _)).mono ?_;rintro e w3 ⟨cS,rfl,oS,b3⟩;obtain ⟨s0,sp,sl,sq,rfl⟩:=zbR oS.rd;have z2:w1.heap.size≤w2.heap.size:=b2.size;have z3:w2.heap.size≤w3.heap.size:=b3.size;have B3:Below w1.heap.size w1 w3:=b2.trans (b3.mono b2.size);clear o2 b2 b3
 go_upto_region 6 with (refine zbZ 32 8 (.tmp 24) _ _ 2 rfl rfl rfl rfl rfl rfl rfl rfl zbS rfl rfl oS.one ?_)
 have bA:=bAl w3 (.cells #[.int .i64 s0,.slice sp sl sq] 32);have S4:=zaC w3 #[.int .i64 s0,.slice sp sl sq] 32;obtain ⟨W4,hW4⟩:∃ x,x=w3.alloc (.cells #[.int .i64 s0,.slice sp sl sq] 32):=⟨_,rfl⟩;rw [← hW4] at bA S4 ⊢;have B4:=B3.trans (bA.mono (by omega));have P4:=HT1.out.call B4;have OS4:=oS.call bA;have z4:w3.heap.size<W4.heap.size:=S4.lt;clear bA hW4 oS B3
 go_wp2_with (refine zaq 28 (.tmp 3) rfl rfl (w.heap.size) rfl P4.b1 Tryz.underlying28 zeI rfl ?_)
 refine (CT _ B4).mono ?_;rintro e w5 ⟨cX,rfl,oX,b5⟩;obtain ⟨x0,x1,x2,x3,x4,x5,x6,x7,x8,xp0,xl0,xq0,xp1,xl1,xq1,xp2,xl2,xq2,x9,x10,xb,rfl⟩:=zkq oX;have z5:W4.heap.size≤w5.heap.size:=b5.size;have B5:=B4.trans (b5.mono (by omega));have S5:=S4.call b5;have OS5:=OS4.call b5;clear P4 b5 B4 S4 OS4
 go_upto_region 7 with (refine zbZ 38 9 (.tmp 26) _ _ 15 rfl rfl rfl rfl rfl rfl rfl rfl zk8 rfl rfl oX.one ?_)
 have bA:=bAl w5 (.cells (rwV x0 x1 x2 x3 x4 x5 x6 x7 x8 xp0 xl0 xq0 xp1 xl1 xq1 xp2 xl2 xq2 x9 x10 xb).toArray 38);have X6:=zaC w5 (rwV x0 x1 x2 x3 x4 x5 x6 x7 x8 xp0 xl0 xq0 xp1 xl1 xq1 xp2 xl2 xq2 x9 x10 xb).toArray 38;obtain ⟨W6,hW6⟩:∃ x,x=w5.alloc (.cells (rwV x0 x1 x2 x3 x4 x5 x6 x7 x8 xp0 xl0 xq0 xp1 xl1 xq1 xp2 xl2 xq2 x9 x10 xb).toArray 38):=⟨_,rfl⟩;rw [← hW6] at bA X6 ⊢;have B6:=B5.trans (bA.mono (by omega));have S6:=S5.call bA;have OS6:=OS5.call bA;have OX6:=oX.call bA;have z6:w5.heap.size<W6.heap.size:=X6.lt;clear bA hW6 oX B5 S5 OS5
 go_wp2_with (refine zaq 38 (.tmp 9) rfl rfl (w5.heap.size) rfl X6 Tryz.underlying38 zco rfl ?_)
 refine (CI _ _ _ OX6.rd (by omega)).mono ?_;rintro e w7 ⟨cG,rfl,oG,b7⟩;obtain ⟨g0,gp,gl,gq,rfl⟩:=zbR oG.rd;have z7:W6.heap.size≤w7.heap.size:=b7.size;have B7:=B6.trans (b7.mono (by omega));have S7:=S6.call b7;have OS7:=OS6.call b7;have X7:=X6.call b7;have OX7:=OX6.call b7;clear b7 B6 S6 OS6 X6 OX6
 go_upto_region 8 with (refine zbZ 32 10 (.tmp 30) _ _ 2 rfl rfl rfl rfl rfl rfl rfl rfl zbS rfl rfl oG.one ?_)
 have bA:=bAl w7 (.cells #[.int .i64 g0,.slice gp gl gq] 32);have G8:=zaC w7 #[.int .i64 g0,.slice gp gl gq] 32;obtain ⟨W8,hW8⟩:∃ x,x=w7.alloc (.cells #[.int .i64 g0,.slice gp gl gq] 32):=⟨_,rfl⟩;rw [← hW8] at bA G8 ⊢;have B8:=B7.trans (bA.mono (by omega));have S8:=S7.call bA;have OS8:=OS7.call bA;have X8:=X7.call bA;have OX8:=OX7.call bA;have OG8:=oG.call bA;have z8:w7.heap.size<W8.heap.size:=G8.lt;clear bA hW8 oG B7 S7 OS7 X7 OX7
 go_wp2_with (first | (refine zaq 32 (.tmp 10) rfl rfl (w7.heap.size) rfl G8 Tryz.underlying32 zdr rfl ?_) | (refine zaq 32 (.tmp 8) rfl rfl (w3.heap.size) rfl S8 Tryz.underlying32 zdr rfl ?_))
 refine (CE _ _ _ _ _ OG8.rd OS8.rd (by omega) (by omega)).mono ?_;rintro e w9 ⟨rfl,b9⟩;have z9:W8.heap.size≤w9.heap.size:=b9.size;have B9:=B8.trans (b9.mono (by omega));have S9:=hid (S8.call b9);have OS9:=hid (OS8.call b9);have X9:=hid (X8.call b9);have OX9:=hid (OX8.call b9);have G9:=hid (G8.call b9);have OG9:=hid (OG8.call b9);have HB9:=hid B9;have P9:=hid (HT1.out.call B9);have CTc:=fun w' (hb:Below w9.heap.size w9 w')=>CT w' (HB9.out.trans (hb.mono (by omega)));clear b9 B8 S8 OS8 X8 OX8 G8 OG8 B9
 go_upto_region 10 with fail
 go_cut [39] (fun v wx=>v=.bool false∧Below w9.heap.size w9 wx)
 case first=>
  have KS:∀ w',Below w9.heap.size w9 w'→(Box w' (w5.heap.size) (rwV x0 x1 x2 x3 x4 x5 x6 x7 x8 xp0 xl0 xq0 xp1 xl1 xq1 xp2 xl2 xq2 x9 x10 xb).toArray 38∧Box w' (w.heap.size) (rwV v0 v1 v2 v3 v4 v5 v6 v7 v8 vp0 vl0 vq0 vp1 vl1 vq1 vp2 vl2 vq2 v9 v10 vb).toArray 28):=fun w' hb=>⟨(X9.out).call hb,(P9.out.b1).call hb⟩;have B0:Below w9.heap.size w9 w9.drew:=zi2 _;refine zhU 4 (fun w'=>Box w' (w5.heap.size) (rwV x0 x1 x2 x3 x4 x5 x6 x7 x8 xp0 xl0 xq0 xp1 xl1 xq1 xp2 xl2 xq2 x9 x10 xb).toArray 38∧Box w' (w.heap.size) (rwV v0 v1 v2 v3 v4 v5 v6 v7 v8 vp0 vl0 vq0 vp1 vl1 vq1 vp2 vl2 vq2 v9 v10 vb).toArray 28) (by kernel_rfl) (KS _ B0) (fun hHeld=>?_);refine zcA (i:=0) (oi:=_) 16 rfl (by kernel_rfl) (fun _ _ _ h=>h) (zfi 38 (.tmp 9) rfl rfl (w5.heap.size) rfl (cs:=(rwV x0 x1 x2 x3 x4 x5 x6 x7 x8 xp0 xl0 xq0 xp1 xl1 xq1 xp2 xl2 xq2 x9 x10 xb)) (fun w' h=>h.1) Tryz.underlying38 zco rfl) (by assumption) ?_
  try simp only [Act.put,SL]
  refine zcA (i:=1) (oi:=_) 16 rfl (by kernel_rfl) (fun _ _ _ h=>h) (zfi 28 (.tmp 3) rfl rfl (w.heap.size) rfl (cs:=(rwV v0 v1 v2 v3 v4 v5 v6 v7 v8 vp0 vl0 vq0 vp1 vl1 vq1 vp2 vl2 vq2 v9 v10 vb)) (fun w' h=>h.2) Tryz.underlying28 zeI rfl) (by assumption) ?_
  try simp only [Act.put,SL]
  refine zfh (i:=2) (o:=_) rfl (by kernel_rfl) (fun KC hKC=>?_);refine zfY rfl 6 _ _ rfl #[.agg (rwV v0 v1 v2 v3 v4 v5 v6 v7 v8 vp0 vl0 vq0 vp1 vl1 vq1 vp2 vl2 vq2 v9 v10 vb).toArray] ?_ Tryz.func6 (by kernel_rfl) (by kernel_rfl) (CTc _ B0) ?_
  ·simp [Act.eval,Act.put]
  rintro ee wb ⟨cs',rfl,oR,bb⟩;have bR:Below w9.heap.size w9 wb:=B0.trans (bb.mono B0.size);refine ⟨_,rfl,?_⟩;refine hKC.out _ _ (KS _ bR) (fun hHeld=>?_);clear hKC KC
  try simp only [Act.put,SL]
  refine zfh (i:=3) (o:=_) rfl (by kernel_rfl) (fun KC hKC=>?_);refine zfY rfl 9 _ _ rfl #[.agg (rwV x0 x1 x2 x3 x4 x5 x6 x7 x8 xp0 xl0 xq0 xp1 xl1 xq1 xp2 xl2 xq2 x9 x10 xb).toArray,.agg cs'.toArray] ?_ Tryz.func9 (by kernel_rfl) (by kernel_rfl) (CW _ _ _ _ _ ((OX9.out).call bR).rd oR.rd (Nat.le_trans (by omega) bR.size) (Nat.le_refl _)) ?_
  ·simp [Act.eval,Act.put]
  rintro ee wc' ⟨rfl,bc⟩;have bC:Below w9.heap.size w9 wc':=bR.trans (bc.mono bR.size);refine ⟨_,rfl,?_⟩;refine hKC.out _ _ (KS _ bC) (fun hHeld=>?_);clear hKC KC
  try simp only [Act.put,SL]
  refine zhS (o:=_) rfl (by kernel_rfl) (fun KC hKC=>?_);go_simp;refine hKC.out _ _ ?_;clear hKC KC
  try simp only [Act.put,SL]
  refine zhT (by kernel_rfl) ?_ _;go_wp2
  go_meet
  exact ⟨rfl,bC⟩
 case rest=>
  obtain ⟨rfl,b10⟩:=hcut;obtain ⟨w10,rfl⟩:∃ x,x=wc:=⟨_,rfl⟩;clear CTc;have z10:w9.heap.size≤w10.heap.size:=b10.size;have B10:=HB9.out.trans (b10.mono (by omega));have S10:=S9.out.call b10;have OS10:=OS9.out.call b10;have X10:=X9.out.call b10;have OX10:=OX9.out.call b10;have G10:=G9.out.call b10;have OG10:=OG9.out.call b10;clear b10 HB9 S9 OS9 X9 OX9 G9 OG9 P9
  have hm0:¬ (M:Int)<0:=by omega
  go_wp2_with (refine zaq 38 (.tmp 9) rfl rfl (w5.heap.size) rfl X10 Tryz.underlying38 zco rfl ?_)
  refine (CK OX10).mono ?_;rintro e w11 ⟨rfl,OX11,c11⟩;have z11:w10.heap.size≤w11.heap.size:=c11.size;have B11:=B10.trans (c11.bel (B:=w1.heap.size) (by omega) (by omega));have S11:=S10.chg c11 (.inl (by omega));have OS11:=OS10.chg c11 (.inl (by omega));have G11:=G10.chg c11 (.inr (by omega));have OG11:=OG10.chg c11 (.inr (by omega));have u_0:w11.cell? ⟨w7.heap.size,0,none⟩=some (.int .i64 g0):=G11.cell 0;have u_1:w11.cell? ⟨w7.heap.size,1,none⟩=some (.slice gp gl gq):=G11.cell 1;have y_0:w11.cell? ⟨w3.heap.size,0,none⟩=some (.int .i64 s0):=S11.cell 0;have y_1:w11.cell? ⟨w3.heap.size,1,none⟩=some (.slice sp sl sq):=S11.cell 1;clear OX11 c11 B10 S10 OS10 X10 OX10 G10 OG10
  go_wp2_with fail
  refine (CE _ _ _ _ _ OG11.rd OS11.rd (by omega) (by omega)).mono ?_;rintro e w12 ⟨rfl,b12⟩;have z12:w11.heap.size≤w12.heap.size:=b12.size;have B12:=B11.trans (b12.mono (by omega));have S12:=S11.call b12;have OS12:=OS11.call b12;have G12:=G11.call b12;have OG12:=OG11.call b12;clear b12 B11 S11 OS11 G11 OG11 u_0 u_1 y_0 y_1
  go_wp2_with (refine zaq 32 (.tmp 10) rfl rfl (w7.heap.size) rfl G12 Tryz.underlying32 zdr rfl ?_)
  refine (CM OG12).mono ?_;rintro e w13 ⟨rfl,OG13,c13⟩;have z13:w12.heap.size≤w13.heap.size:=c13.size;have B13:=B12.trans (c13.bel (B:=w1.heap.size) (by omega) (by omega));have S13:=S12.chg c13 (.inl (by omega));have OS13:=OS12.chg c13 (.inl (by omega));have G13:=G12.chg c13 (.inr (by omega));clear c13 B12 S12 OS12 G12 OG12
  go_wp2_with (refine zaq 32 (.tmp 10) rfl rfl (w7.heap.size) rfl G13 Tryz.underlying32 zdr rfl ?_)
  refine (CH _ _ _ OG13.rd (by omega)).mono ?_;rintro e w14 ⟨rfl,b14⟩;have z14:w13.heap.size≤w14.heap.size:=b14.size;have B14:=B13.trans (b14.mono (by omega));have S14:=S13.call b14;have OS14:=OS13.call b14;have G14:=G13.call b14;have OG14:=OG13.call b14;have P14:=HT1.out.call B14;clear b14 B13 S13 OS13 G13 OG13
  have hn0:¬ (N:Int)<0:=by omega
  go_wp2_with (refine zaq 28 (.tmp 3) rfl rfl (w.heap.size) rfl P14.b1 Tryz.underlying28 zeI rfl ?_)
  refine (CT _ B14).mono ?_;rintro e w15 ⟨c15,rfl,o15,b15⟩
  go_wp2_with fail
  refine (CI _ _ _ o15.rd (Nat.le_refl _)).mono ?_;rintro e w16 ⟨cH,rfl,oH,b16⟩;obtain ⟨h0,hp,hl,hq,rfl⟩:=zbR oH.rd;have z15:w14.heap.size≤w15.heap.size:=b15.size;have z16:w15.heap.size≤w16.heap.size:=b16.size;have B16:=(B14.trans (b15.mono (by omega))).trans (b16.mono (by omega));have S16:=(S14.call b15).call b16;have OS16:=(OS14.call b15).call b16;have G16:=(G14.call b15).call b16;have OG16:=(OG14.call b15).call b16;clear P14 o15 b15 b16 B14 S14 OS14 G14 OG14
  go_upto_region 25 with (refine zbZ 32 14 (.tmp 66) _ _ 2 rfl rfl rfl rfl rfl rfl rfl rfl zbS rfl rfl oH.one ?_)
  have bA:=bAl w16 (.cells #[.int .i64 h0,.slice hp hl hq] 32);have H17:=zaC w16 #[.int .i64 h0,.slice hp hl hq] 32;obtain ⟨W17,hW17⟩:∃ x,x=w16.alloc (.cells #[.int .i64 h0,.slice hp hl hq] 32):=⟨_,rfl⟩;rw [← hW17] at bA H17 ⊢;have B17:=B16.trans (bA.mono (by omega));have S17:=S16.call bA;have OS17:=OS16.call bA;have G17:=G16.call bA;have OG17:=OG16.call bA;have OH17:=oH.call bA;have z17:w16.heap.size<W17.heap.size:=H17.lt;clear bA hW17 oH B16 S16 OS16 G16 OG16
  go_wp2_with (first | (refine zaq 32 (.tmp 14) rfl rfl (w16.heap.size) rfl H17 Tryz.underlying32 zdr rfl ?_) | (refine zaq 32 (.tmp 8) rfl rfl (w3.heap.size) rfl S17 Tryz.underlying32 zdr rfl ?_))
  refine (CE _ _ _ _ _ OH17.rd OS17.rd (by omega) (by omega)).mono ?_;rintro e w18 ⟨rfl,b18⟩;have z18:W17.heap.size≤w18.heap.size:=b18.size;have B18:=B17.trans (b18.mono (by omega));have G18:=G17.call b18;have OG18:=OG17.call b18;clear b18 B17 S17 OS17 G17 OG17 OH17 H17
  go_wp2_with (refine zaq 32 (.tmp 10) rfl rfl (w7.heap.size) rfl G18 Tryz.underlying32 zdr rfl ?_)
  refine (CH _ _ _ OG18.rd (by omega)).mono ?_;rintro e w19 ⟨rfl,b19⟩;have HB:Hid (Below w.heap.size w w19):=(HT1.out.call (B18.trans (b19.mono (by omega)))).bel;clear b19 B18 G18 OG18;go_wp2;go_ret;exact ⟨rfl,HB.out⟩
set_option maxRecDepth 100000 in
theorem zcH (os:Os) (started:os.Started) (H:Type) (enc:TypeId×Value→H) :
 ReturnsInHanded {} Tryz.checked os 3 .any (Rows.fnExactRowBytesSpec.pre6 enc Tryz.prog Tryz.f3 Rows.fnExactRowBytesRow.domain false) (Rows.fnExactRowBytesSpec.post enc Tryz.prog Tryz.f3 false true false false):=by
 refine returnsInHanded_of_change (C:=Tryz.checked) zi3 started (by kernel_rfl) Tryz.func3
  (ChangeSpec.witness6 (enc:=enc) (C:=Tryz.checked) false ⟨#[],#[.agg (rwV 0 0 0 0 0 0 0 0 0 none 0 0 none 0 0 none 0 0 0 0 false).toArray,.int .i64 0,.int .i64 0],[]⟩ 8 (by kernel_rfl) (by kernel_rfl) (by kernel_rfl) (by kernel_rfl)) ?_
 intro W base args ds gs before hval0 hW hcnd _;have hval:∀ (j:Nat) t v,Tryz.f3.params[j]?=some t→args[j]?=some v→Value.okWide Tryz.prog W .any base t v:=hval0;have hW':=hW;obtain ⟨p,q,hA0,hV,rfl,hfz,hnd⟩:=hW;have hA:DataW.TrodAll enc Tryz.prog W 0 (fun _=>true) true Tryz.f3.params.toList args.toList ds p:=hA0;rw [Tryz.params3] at hA hval;obtain ⟨v0,vs0,d0,ds0,p0,q0,hargs,rfl,rfl,h0,r0⟩:=trodAll_cons hA;obtain ⟨v1,vs1,d1,ds1,p1,q1,rfl,rfl,rfl,h1,r1⟩:=trodAll_cons r0;obtain ⟨v2,vs2,d2,ds2,p2,q2,rfl,rfl,rfl,h2,r2⟩:=trodAll_cons r1;obtain ⟨rfl,rfl,rfl⟩:=trodAll_nil r2
 obtain rfl:args=#[v0,v1,v2]:=by cases args;simp_all
 obtain ⟨rfl,rfl⟩:=trodVars_none hV;have k0:=h0
 have lt0:∀ x∈p0,x.block<W.heap.size:=by obtain ⟨m,hm⟩:=k0;exact DataW.trod_lt m _ _ _ hm
 obtain ⟨cs0,a0,rfl,rd0⟩:=zeY zin Tryz.underlying28 (hval 0 28 v0 rfl rfl) h0;obtain ⟨n1,rfl,rfl,rfl,hn1⟩:=open_int Tryz.underlying2 (hval 1 2 v1 rfl rfl) h1;obtain ⟨n2,rfl,rfl,rfl,hn2⟩:=open_int Tryz.underlying2 (hval 2 2 v2 rfl rfl) h2;clear hA0 hval0;refine (zc9 a0 cs0 n1 n2 W rd0 (bounds_i64 hn1) (bounds_i64 hn2)).mono fun e W' ⟨he,bel⟩=>?_;subst he;exact ⟨_,rfl,_,_,_,[],_,[],hW',trodAll_mk1 (shut_bool Tryz.underlying4 _),(trodAll_cons_mk (Below.trod zii (by kernel_rfl) (of_decide_eq_true (by kernel_rfl)) k0 bel lt0) (trodAll_cons_mk (shut_int Tryz.underlying2 hn1) (trodAll_cons_mk (shut_int Tryz.underlying2 hn2) trodAll_mk0))),rfl,bel.frame _,fun h=>by cases h⟩
end Go.Proofs.YtoeldpfeadeilaaGreat
