/- A region that draws its order and whose last store writes a cell that it has read: loads are taken first, whatever comes up; the condition on the world need not hold behind that store, since it waits for all that is taken first. -/
import Derived.OrdersHeld
import Derived.Deep.RegionHeld
import Derived.Deep.RegionHeld3
import Derived.Test.YtccmhgeigkmicaaGreatZPraiseah
set_option linter.unusedVariables false
set_option linter.unusedSimpArgs false
set_option maxHeartbeats 16000000
namespace Go.Proofs.YtccmhgeigkmicaaGreat
open Go.RowKit
section
variable {P:Program} {ops:Array Oper} {Q:Exit→Act→World→Prop} {md:Region.Mode} {S:World→Prop} {L:Nat}
def zbC (P:Program) (md:Region.Mode) (ops:Array Oper) (Q:Exit→Act→World→Prop) (S:World→Prop) (L:Nat):Nat→Array Bool→Act→World→Prop
 | 0,listed,a,w=>Region.ready md ops listed=[]∧Q .normal a w
 | fuel+1,listed,a,w=>
  (Region.ready md ops listed=[]→Q .normal a w)∧
  ∀ i∈Region.ready md ops listed,wpOp P ops Q i (fun a' w'=>(i≠L→S w')∧zbC P md ops Q S L fuel (listed.setIfInBounds i true) a' w') a w
theorem zdX:∀ (fuel:Nat) (listed:Array Bool) (a:Act) (w:World),zbC P md ops Q S L fuel listed a w→wpAny P md ops Q fuel listed a w
 | 0,_,_,_,h=>h
 | fuel+1,_,_,_,h=>⟨h.1,fun i hi=>wpOp_mono (fun a' w' h'=>zdX fuel _ a' w' h'.2) (h.2 i hi)⟩
def zc0 (md:Region.Mode) (ops:Array Oper) (listed:Array Bool):Prop:=
 ∀ j oj,ops[j]?=some oj→listed.getD j false=true→∀ e∈oj.after,Region.binds md e=true→listed.getD e.on false=true
def zdC (md:Region.Mode) (ops:Array Oper) (listed:Array Bool):Bool:=
 (List.range ops.size).all fun j=>!listed.getD j false||((ops[j]?).map (·.after.all fun e=>!Region.binds md e||listed.getD e.on false)).getD false
theorem zhg {listed:Array Bool} (h:zdC md ops listed=true):zc0 md ops listed:=fun j oj hj hl e he hb=>by
 unfold zdC at h;have hlt:j<ops.size:=(Array.getElem?_eq_some_iff.1 hj).1;have h1:=List.all_eq_true.1 h j (List.mem_range.2 hlt);rw [hl,hj] at h1
 simp only [Bool.not_true,Bool.false_or,Option.map_some,Option.getD_some,Array.all_eq_true_iff_forall_mem] at h1
 have h2:=h1 e he;rw [hb] at h2
 simpa using h2
theorem zfV {listed:Array Bool} {j:Nat} (h:zc0 md ops listed) (hj:j∈Region.ready md ops listed):zc0 md ops (listed.setIfInBounds j true):=fun k ok hk hl e he hb=>by
 obtain ⟨_,o,ho,hall⟩:=mem_ready.1 hj
 by_cases c:j=k
 ·subst c
  rw [hk] at ho
  cases ho
  exact getD_set_true (hall e he hb)
 ·rw [getD_set_ne false c] at hl
  exact getD_set_true (h k ok hk hl e he hb)
def depB (md:Region.Mode) (ops:Array Oper):Nat→Nat→Nat→Bool
 | 0,l,i=>l==i
 | n+1,l,i=>l==i||((ops[l]?).map (·.after.any fun e=>Region.binds md e&&depB md ops n e.on i)).getD false
theorem zdY {listed:Array Bool} (hc:zc0 md ops listed):∀ (n l i:Nat),depB md ops n l i=true→listed.getD l false=true→listed.getD i false=true
 | 0,l,i,h,hl=>by
  unfold depB at h
  have:l=i:=by simpa using h
  rw [← this];exact hl
 | n+1,l,i,h,hl=>by
  unfold depB at h
  rcases Bool.or_eq_true _ _ ▸ h with h1 | h1
  ·have:l=i:=by simpa using h1
   rw [← this];exact hl
  ·cases ho:ops[l]? with
   | none=>rw [ho] at h1;simp at h1
   | some o=>
    rw [ho] at h1
    simp only [Option.map_some,Option.getD_some] at h1
    obtain ⟨k,hk,hbk⟩:=Array.any_eq_true.1 h1;obtain ⟨hb,hd⟩:=Bool.and_eq_true _ _ ▸ hbk;exact zdY hc n _ i hd (hc l o ho hl _ (Array.getElem_mem hk) hb)
theorem zhh {listed:Array Bool} (hc:zc0 md ops listed) {n i:Nat} (hne:L≠i) (hd:depB md ops n L i=true) (hi:listed.getD i false=false):L∉Region.ready md ops listed:=fun hL=>by
 obtain ⟨_,o,ho,hall⟩:=mem_ready.1 hL
 cases n with
 | zero=>unfold depB at hd;exact hne (by simpa using hd)
 | succ n=>
  unfold depB at hd
  rcases Bool.or_eq_true _ _ ▸ hd with h1 | h1
  ·exact hne (by simpa using h1)
  ·rw [ho] at h1
   simp only [Option.map_some,Option.getD_some] at h1
   obtain ⟨k,hk,hbk⟩:=Array.any_eq_true.1 h1;obtain ⟨hb,hd'⟩:=Bool.and_eq_true _ _ ▸ hbk;have:=zdY hc n _ i hd' (hall _ (Array.getElem_mem hk) hb);rw [hi] at this
   cases this
theorem zcA {listed:Array Bool} {i:Nat} (h:listed.getD i true=false):listed.getD i false=false:=by
 rcases Nat.lt_or_ge i listed.size with h' | h'
 ·simpa [h'] using h
 ·simp [Array.getElem?_eq_none h'] at h
theorem zfa {i:Nat} {oi:Oper} {v:Value} (hi:ops[i]?=some oi) (hsel:∀ (j:Nat) (o:Oper) cs b,ops[j]?=some o→o.op≠.select cs b)
 (hQ:∀ c a w,Q (.panic c) (a.put oi.dst v) w→Q (.panic c) a w) (hLi:L≠i) {n:Nat} (hd:depB md ops n L i=true) :
 ∀ (fuel:Nat) (listed:Array Bool) (a:Act) (w:World),zc0 md ops listed→
  (∀ j oj,ops[j]?=some oj→j≠i→listed.getD j true=false→(∀ e∈oj.after,Region.binds md e=true→e.on≠i)→oi.apart ops oj=true)→
  i∈Region.ready md ops listed→YieldsIf P ops S oi v a→S w→
  zbC P md ops Q S L fuel (listed.setIfInBounds i true) (a.put oi.dst v) w→zbC P md ops Q S L (fuel+1) listed a w:=by
 intro fuel
 induction fuel with
 | zero=>
  intro listed a w _ _ hr hy hS H;refine ⟨fun h=>(by rw [h] at hr;cases hr),fun j hj=>?_⟩
  by_cases hji:j=i
  ·subst hji;exact hy.wpOp hi hS ⟨fun _=>hS,H⟩
  ·have:=ready_mono hj hji
   rw [H.1] at this
   cases this
 | succ fuel ih=>
  intro listed a w hcl hfree hr hy hS H;refine ⟨fun h=>(by rw [h] at hr;cases hr),fun j hj=>?_⟩
  by_cases hji:j=i
  ·subst hji;exact hy.wpOp hi hS ⟨fun _=>hS,H⟩
  ·have hjL:j≠L:=fun h=>by
    subst h;exact zhh hcl hLi hd (zcA (mem_ready.1 hr).1) hj
   have h1:=H.2 j (ready_mono hj hji);obtain ⟨hjun,oj,hoj,hall⟩:=mem_ready.1 hj
   have hnot:∀ e∈oj.after,Region.binds md e=true→e.on≠i:=fun e he hb heq=>by
    have h1:=hall e he hb;have h0:=zcA (mem_ready.1 hr).1;rw [heq,h0] at h1
    cases h1
   have h2:=wpOp_putIf hoj (hfree j oj hoj hji hjun hnot) (fun cs b=>hsel i oi cs b hi) (fun cs b=>hsel j oj cs b hoj) hQ hy h1
   have hfree':∀ k ok,ops[k]?=some ok→k≠i→(listed.setIfInBounds j true).getD k true=false→
    (∀ e∈ok.after,Region.binds md e=true→e.on≠i)→oi.apart ops ok=true:=fun k ok hk hki hun hno=>by
    refine hfree k ok hk hki ?_ hno
    by_cases hjk:j=k
    ·subst hjk;exact hjun
    ·rw [getD_set_ne true hjk] at hun;exact hun
   refine wpOp_mono (fun a' w' h3=>⟨h3.2.1,ih (listed.setIfInBounds j true) a' w' (zfV hcl hj) hfree' (ready_mono hr (Ne.symm hji)) h3.1 (h3.2.1 hjL) ?_⟩) h2;rw [Array.setIfInBounds_comm _ _ hji];exact h3.2.2
theorem zaj {i:Nat} {oi:Oper} {v:Value} {fuel:Nat} {listed:Array Bool} {a:Act} {w:World} (n:Nat) (hi:ops[i]?=some oi)
 (hs:(Region.noSelect ops&&Region.free md ops listed i&&(Region.ready md ops listed).contains i&&!(L==i)&&depB md ops n L i&&zdC md ops listed)=true)
 (hQ:∀ c a w,Q (.panic c) (a.put oi.dst v) w→Q (.panic c) a w) (hy:YieldsIf P ops S oi v a) (hS:S w)
 (h:zbC P md ops Q S L fuel (listed.setIfInBounds i true) (a.put oi.dst v) w):zbC P md ops Q S L (fuel+1) listed a w:=by
 simp only [Bool.and_eq_true,Bool.not_eq_true',beq_eq_false_iff_ne] at hs
 obtain ⟨⟨⟨⟨⟨h1,h2⟩,h3⟩,h4⟩,h5⟩,h6⟩:=hs;exact zfa hi (Region.noSelect_spec h1) hQ h4 h5 fuel listed a w (zhg h6) (Region.free_spec hi h2) (by simpa using h3) hy hS h
theorem zh0 (i:Nat) {oi:Oper} {v:Value} {fuel:Nat} {listed:Array Bool} {a:Act} {w:World} (hi:ops[i]?=some oi) (hy:∀ w,S w→(execOp a.eval oi).run P w=.ok (.value v) w) (h:zbC P md ops Q S L fuel (listed.setIfInBounds i true) (a.put oi.dst v) w) (hs:(Region.noSelect ops && Region.free md ops listed i && (Region.ready md ops listed).contains i && !(L==i) && depB md ops 16 L i && zdC md ops listed)=true:=by kernel_rfl) (hQ:∀ c a w,Q (.panic c) (a.put oi.dst v) w→Q (.panic c) a w:=by exact fun _ _ _ h=>h) (hw:Region.wanted oi (yielded ops a.tmps)=true:=by first | rfl | kernel_rfl) (hS:S w:=by assumption):zbC P md ops Q S L (fuel+1) listed a w:=zaj 16 hi hs hQ (Or.inl ⟨hw,hy⟩) hS h
theorem zh1 (i:Nat) {oi:Oper} {v:Value} {fuel:Nat} {listed:Array Bool} {a:Act} {w:World} (hi:ops[i]?=some oi) (h:zbC P md ops Q S L fuel (listed.setIfInBounds i true) (a.put oi.dst v) w) (hy:∀ w,S w→(execOp a.eval oi).run P w=.ok (.value v) w:=by intro w' hSw;(try dsimp only at hSw);(repeat (have _q:=And.left hSw;replace hSw:=And.right hSw));go_simp;try with_reducible rfl) (hs:(Region.noSelect ops && Region.free md ops listed i && (Region.ready md ops listed).contains i && !(L==i) && depB md ops 16 L i && zdC md ops listed)=true:=by kernel_rfl) (hQ:∀ c a w,Q (.panic c) (a.put oi.dst v) w→Q (.panic c) a w:=by exact fun _ _ _ h=>h) (hw:Region.wanted oi (yielded ops a.tmps)=true:=by first | kernel_rfl | rfl) (hS:S w:=by assumption):zbC P md ops Q S L (fuel+1) listed a w:=zaj 16 hi hs hQ (Or.inl ⟨hw,hy⟩) hS h
theorem zbl {i:Nat} {o:Oper} {fuel:Nat} {listed:Array Bool} {a:Act} {w:World} (ho:ops[i]?=some o) (hr:Region.ready md ops listed=[i])
 (h:∀ K':Act→World→Prop,Shut (∀ a w,S w→(S w→zbC P md ops Q S L fuel (listed.setIfInBounds i true) a w)→K' a w)→if Region.wanted o (yielded ops a.tmps)=true then Oper.wp P o a w K' Q else K' (a.put o.dst undef) w):zbC P md ops Q S L (fuel+1) listed a w:=by
 refine ⟨fun h0=>(by rw [hr] at h0;cases h0),fun j hj=>?_⟩;rw [hr] at hj
 obtain rfl:j=i:=by simpa using hj
 exact wpOp_step ho (fun K' hK=>h K' (fun a w hS hW=>hK a w ⟨fun _=>hS,hW hS⟩))
theorem zdD {o:Oper} {fuel:Nat} {listed:Array Bool} {a:Act} {w:World} (ho:ops[L]?=some o) (hr:Region.ready md ops listed=[L])
 (h:∀ K':Act→World→Prop,Shut (∀ a w,zbC P md ops Q S L fuel (listed.setIfInBounds L true) a w→K' a w)→if Region.wanted o (yielded ops a.tmps)=true then Oper.wp P o a w K' Q else K' (a.put o.dst undef) w):zbC P md ops Q S L (fuel+1) listed a w:=by
 refine ⟨fun h0=>(by rw [hr] at h0;cases h0),fun j hj=>?_⟩;rw [hr] at hj
 obtain rfl:j=L:=by simpa using hj
 exact wpOp_step ho (fun K' hK=>h K' (fun a w hW=>hK a w ⟨fun hn=>absurd rfl hn,hW⟩))
theorem zdE {listed:Array Bool} {a:Act} {w:World} (hr:Region.ready md ops listed=[]) (h:Q .normal a w):∀ fuel,zbC P md ops Q S L fuel listed a w
 | 0=>⟨hr,h⟩
 | _+1=>⟨fun _=>h,by rw [hr];simp⟩
theorem zdF {id:Nat} {a:Act} {w:World} (L:Nat) (S:World→Prop) (hm:P.follows .mixedOrders=true) (hS:S w.drew)
 (h:S w.drew→zbC P .any ops Q S L ops.size (Array.replicate ops.size false) a w.drew):(Code.region id ops true).wp P Q a w:=
 wp_region_any hm (zdX _ _ _ _ (h hS))
end
end Go.Proofs.YtccmhgeigkmicaaGreat
namespace Go.Proofs.YtccmhgeigkmicaaGreat
open Go.RowKit F256
theorem drive_of' {w:World} {lo hi:Nat} {d:DriveD} {ao:Option Addr} {cap:Nat} (h:OwnT (zaf.slice 81) w lo hi d.blocks [.slice ao d.blocks.1 cap]):OwnT zaa w lo hi d [.bool d.wiped,.slice ao d.blocks.1 cap]:=
 OwnT.conv (OwnT.pre (A:=layB) (a:=d.wiped) (c:=[.bool d.wiped]) ⟨rfl,trivial,rfl⟩ h)
theorem tape_of' {w:World} {lo hi:Nat} {d:TapeD} {ao:Option Addr} {cap:Nat} (h:OwnT (zab.slice 75) w lo hi d.recs [.slice ao d.recs.1 cap]):OwnT zag w lo hi d [.bool d.wiped,.slice ao d.recs.1 cap]:=
 OwnT.conv (OwnT.pre (A:=layB) (a:=d.wiped) (c:=[.bool d.wiped]) ⟨rfl,trivial,rfl⟩ h)
theorem Three.chgl3 {w wc w':World} {c1 c2 c3:Array Value} {t1 t2 t3:TypeId} (h:Three w wc c1 c2 c3 t1 t2 t3) (c3':Array Value) (hb:Box w' (w.heap.size+1+1) c3' t3) (hc:ChgL [w.heap.size+1+1] wc w'):Three w w' c1 c2 c3' t1 t2 t3:=
 ⟨h.b1.chgl hc (by simp only [List.mem_singleton];omega),h.b2.chgl hc (by simp only [List.mem_singleton];omega),hb,h.bel.trans (hc.bel (fun b hb=>by simp only [List.mem_singleton] at hb;omega) h.bel.size)⟩
theorem OwnT.chgl {α:Type} {A:Lay α} {w w':World} {lo hi:Nat} {a:α} {cs:List Value} {K:List Nat} (h:OwnT A w lo hi a cs) (hc:ChgL K w w') (hK:∀ b,b∈K→b<lo):OwnT A w' lo hi a cs:=by
 obtain ⟨M,h1,h2,h3⟩:=h;exact ⟨M,A.own_kept h1 (fun b hb=>hc.block b (A.own_lt h1 b hb) (fun hh=>by have:=hK b hh;have:=(h3 b hb).1;omega)),h2,h3⟩
set_option maxRecDepth 20000 in
theorem zhi:ToV zae za1 18:=fun cs d hi w r hhi hn=>by
 obtain ⟨ao1,cap1,ao2,cap2,ao3,cap3,rfl,g1,g2,g3,k0,k4,k5⟩:=zaN r;clear r;unfold za1 lenD at hn
 have hnG:szSl (szSl zam) d.groups≤1048576:=by omega
 have hnO:d.on.1≤1048576:=by omega
 have hnT:szSl zaJ d.tapes≤1048576:=by omega
 clear hn;have Q0:=hid k0;have Q4:=hid k4;have Q5:=hid k5;have HG2:=hid g2;obtain ⟨_,_,e1,hm1,hc1⟩:=g1
 cases e1
 obtain ⟨_,_,e3,hm3,hc3⟩:=g3
 cases e3
 have HC1:=hid hc1;have HC3:=hid hc3;have hgn:=zbJ hnG;have htn:=zbJ hnT;have HNG:Hid (∀ i,i<d.groups.1→szSl zam (d.groups.2 i)≤1048576):=fun i hi=>zbb hnG hi;have HNT:Hid (∀ i,i<d.tapes.1→zaJ (d.tapes.2 i)≤1048576):=fun i hi=>zbb hnT hi;clear k0 k4 k5 g2 hc1 hc3 hnG hnT hm1 hm3;have T0:=zbF w (rwW d ao1 cap1 ao2 cap2 ao3 cap3).toArray (rwV 0 0 0 0 0 0 0 0 0 none 0 0 none 0 0 none 0 0 0 0 false).toArray #[.int .i64 (d.shape 0),.int .i64 (d.shape 1),.int .i64 (d.shape 2),.int .i64 (d.shape 3),.int .i64 (d.shape 4),.int .i64 (d.shape 5),.int .i64 (d.shape 6),.int .i64 (d.shape 7),.int .i64 (d.shape 8),.slice none 0 0,.slice ao2 d.on.1 cap2,.slice ao3 d.tapes.1 cap3,.int .i64 d.writes,.int .i64 d.stop,.bool d.down] 34 34 34
 go_enter Tryz.func18,Tryz.ntmps18
 go_wp2
 go_loopw [4] (fun i wr=>∃ (g:Nat) (ga:Option Addr) (gc:Nat),g≤d.groups.1∧i=.int .i64 g∧Three w wr (rwW d ao1 cap1 ao2 cap2 ao3 cap3).toArray (rwV 0 0 0 0 0 0 0 0 0 none 0 0 none 0 0 none 0 0 0 0 false).toArray #[.int .i64 (d.shape 0),.int .i64 (d.shape 1),.int .i64 (d.shape 2),.int .i64 (d.shape 3),.int .i64 (d.shape 4),.int .i64 (d.shape 5),.int .i64 (d.shape 6),.int .i64 (d.shape 7),.int .i64 (d.shape 8),.slice ga g gc,.slice ao2 d.on.1 cap2,.slice ao3 d.tapes.1 cap3,.int .i64 d.writes,.int .i64 d.stop,.bool d.down] 34 34 34∧Gat (zaa.slice 79) 76 wr (w.heap.size+1+1+1) (.slice ga g gc) g d.groups.2) (fun i _=>d.groups.1-(intOf i).toNat)
 case atStart=>exact ⟨0,none,0,Nat.zero_le _,rfl,T0,Gat.nil _ _ _⟩
 case round=>
  clear T0;obtain ⟨g,ga,gc,hg,rfl,T1,G1⟩:=hrel;obtain ⟨wo,rfl⟩:∃ x,x=wr:=⟨_,rfl⟩;have HT1:=hid T1;have HG1:=hid G1;have zo:w.heap.size+1+1+1≤wo.heap.size:=T1.lt;have x9:wo.cell? ⟨w.heap.size,9,none⟩=some (.slice ao1 d.groups.1 cap1):=T1.b1.cell 9
  by_cases hlg:g<d.groups.1
  ·obtain ⟨b1,off1,he1,hb1,hel1⟩:=HC1.out (by omega)
   subst he1;obtain ⟨cg,hrg,hcg⟩:=zap (t:=0) hel1 T1.bel hhi hb1 hlg;obtain ⟨ao9,cap9,rfl⟩:=zbg hrg
   have c0:wo.cell? ⟨b1,off1+g,none⟩=some (.slice ao9 (d.groups.2 g).1 cap9):=by
    have:=hcg 0 (by decide)
    have e:off1+(g*(zaa.slice 79).sz+0)=off1+g:=by show off1+(g*1+0)=off1+g;omega
    rw [e] at this;exact this
   have HC0:=hid c0;have hnD:=HNG.out g hlg;have hdn:=zbJ hnD;have HND:Hid (∀ i,i<(d.groups.2 g).1→zam ((d.groups.2 g).2 i)≤1048576):=fun i hi=>zbb hnD hi;obtain ⟨_,_,e9,hm9,hc9⟩:=hrg
   cases e9
   have HC9:=hid hc9;clear hel1 hcg T1 G1 hc9 hnD hm9;go_wp2
   go_loopw [5,6] (fun v i wx=>∃ (k:Nat) (da:Option Addr) (dc:Nat),k≤(d.groups.2 g).1∧i=.int .i64 k∧v=.slice da k dc∧Gat zaa 79 wx wo.heap.size (.slice da k dc) k (d.groups.2 g).2∧Below wo.heap.size wo wx) (fun _ i _=>(d.groups.2 g).1-(intOf i).toNat)
   case atStart=>exact ⟨0,_,_,Nat.zero_le _,rfl,rfl,zf9 _ _,(Below.refl _ _).alloc (Nat.le_refl _) _⟩
   case round=>
    clear x9 c0;obtain ⟨k,da,dc,hk,rfl,rfl,G2,B2⟩:=hrel;obtain ⟨wx,rfl⟩:∃ x,x=wr:=⟨_,rfl⟩;have HG2':=hid G2;have HB2:=hid B2;have zx:wo.heap.size≤wx.heap.size:=B2.size;have x9:wx.cell? ⟨w.heap.size,9,none⟩=some (.slice (some ⟨b1,off1,none⟩) d.groups.1 cap1):=(HT1.out.call B2).b1.cell 9;have c0:wx.cell? ⟨b1,off1+g,none⟩=some (.slice ao9 (d.groups.2 g).1 cap9):=(B2.cell (p:=⟨b1,off1+g,none⟩) (by show b1<wo.heap.size;omega)).trans HC0.out
    by_cases hlk:k<(d.groups.2 g).1
    ·obtain ⟨b9,off9,he9,hb9,hel9⟩:=HC9.out (by omega)
     subst he9;obtain ⟨cd,hrd,hcd⟩:=zap (t:=0) hel9 B2 (by omega) hb9 hlk;obtain ⟨ao5,cap5,rfl,g5⟩:=za7 hrd;obtain ⟨D,hD⟩:∃ x,x=(d.groups.2 g).2 k:=⟨_,rfl⟩;rw [← hD] at hcd g5;have HD:=hid hD
     have hnB:szSl zav D.blocks≤1048576:=by rw [hD];exact HND.out k hlk
     have hbn:=zbJ hnB;have HNB:Hid (∀ i,i<D.blocks.1→zav (D.blocks.2 i)≤1048576):=fun i hi=>zbb hnB hi;have c2:wx.cell? ⟨b9,off9+k*2,none⟩=some (.bool D.wiped):=hcd 0 (by decide);have c3:wx.cell? ⟨b9,off9+k*2+1,none⟩=some (.slice ao5 D.blocks.1 cap5):=hcd 1 (by decide);have HC3':=hid c3;have HC0':=hid c0;obtain ⟨_,_,e5,hm5,hc5⟩:=g5
     cases e5
     have HC5:=hid hc5;clear hel9 hcd hrd G2 B2 hD hnB hc5 hm5;go_wp2;have bA:=bAl wx (.cells #[.bool D.wiped,.slice none 0 0] 79);have XA:=zaF wx #[.bool D.wiped,.slice none 0 0] 79
     go_loopw [8] (fun i wz=>∃ (q:Nat) (ba:Option Addr) (bc:Nat),q≤D.blocks.1∧i=.int .i64 q∧Box wz wx.heap.size #[.bool D.wiped,.slice ba q bc] 79∧Gat zaf 81 wz (wx.heap.size+1) (.slice ba q bc) q D.blocks.2∧Below wx.heap.size wx wz) (fun i _=>D.blocks.1-(intOf i).toNat)
     case atStart=>exact ⟨0,none,0,Nat.zero_le _,rfl,XA,Gat.nil _ _ _,bA⟩
     case round=>
      clear x9 c0 c2 c3 bA XA;obtain ⟨q,ba,bc,hq,rfl,X3,G3,B3⟩:=hrel;obtain ⟨wz,rfl⟩:∃ x,x=wr:=⟨_,rfl⟩;have HX3:=hid X3;have HG3:=hid G3;have HB3:=hid B3;have zz:wx.heap.size<wz.heap.size:=X3.lt;have x9:wz.cell? ⟨w.heap.size,9,none⟩=some (.slice (some ⟨b1,off1,none⟩) d.groups.1 cap1):=((HT1.out.call HB2.out).call B3).b1.cell 9;have c0:wz.cell? ⟨b1,off1+g,none⟩=some (.slice (some ⟨b9,off9,none⟩) (d.groups.2 g).1 cap9):=(B3.cell (p:=⟨b1,off1+g,none⟩) (by show b1<wx.heap.size;omega)).trans HC0'.out;have c3:wz.cell? ⟨b9,off9+k*2+1,none⟩=some (.slice ao5 D.blocks.1 cap5):=(B3.cell (p:=⟨b9,off9+k*2+1,none⟩) (by show b9<wx.heap.size;omega)).trans HC3'.out;have y0:wz.cell? ⟨wx.heap.size,0,none⟩=some (.bool D.wiped):=X3.cell 0;have y1:wz.cell? ⟨wx.heap.size,1,none⟩=some (.slice ba q bc):=X3.cell 1
      by_cases hlq:q<D.blocks.1
      ·obtain ⟨b5,off5,he5,hb5,hel5⟩:=HC5.out (by omega)
       subst he5;obtain ⟨cb,hrb,hcb⟩:=zap (t:=0) hel5 B3 (by omega) hb5 hlq;obtain ⟨ao0,cap0,rfl,-⟩:=zaZ hrb;have s0:wz.cell? ⟨b5,off5+q*2,none⟩=some (.int .i64 (D.blocks.2 q).stamp):=hcb 0 (by decide);have s1:wz.cell? ⟨b5,off5+q*2+1,none⟩=some (.slice ao0 (D.blocks.2 q).bytes.1 cap0):=hcb 1 (by decide);have CC:=zdN _ (D.blocks.2 q) hi wz.drew (zaf.rd_below (B:=hi) hrb ⟨rfl,rfl,rfl,Nat.le_refl _,fun _ _=>rfl⟩ (Nat.le_refl _)) (show hi≤wz.heap.size by omega) (HNB.out q hlq)
       have CC:=CC.mono (R':=fun e w'=>∃ bo bcc,e=.returned (.agg #[.int .i64 (D.blocks.2 q).stamp,.slice bo (D.blocks.2 q).bytes.1 bcc])∧OwnT zaf w' wz.drew.heap.size w'.heap.size (D.blocks.2 q) [.int .i64 (D.blocks.2 q).stamp,.slice bo (D.blocks.2 q).bytes.1 bcc]∧Below wz.drew.heap.size wz.drew w') (fun e w' ⟨c5,he,o5,b5'⟩=>by
        obtain ⟨bo,bcc,rfl⟩:=zcC o5
        exact ⟨bo,bcc,he,o5,b5'⟩)
       clear hel5 hcb hrb X3 G3 B3;have KS:∀ w',Below (wx.heap.size+1) wz w'→(w'.cell? ⟨w.heap.size,9,none⟩=some (.slice (some ⟨b1,off1,none⟩) d.groups.1 cap1)∧w'.cell? ⟨b1,off1+g,none⟩=some (.slice (some ⟨b9,off9,none⟩) (d.groups.2 g).1 cap9)∧w'.cell? ⟨b9,off9+k*2+1,none⟩=some (.slice (some ⟨b5,off5,none⟩) D.blocks.1 cap5)∧w'.cell? ⟨b5,off5+q*2,none⟩=some (.int .i64 (D.blocks.2 q).stamp)∧w'.cell? ⟨b5,off5+q*2+1,none⟩=some (.slice ao0 (D.blocks.2 q).bytes.1 cap0)∧w'.cell? ⟨wx.heap.size,1,none⟩=some (.slice ba q bc)):=fun w' hb=>⟨(hb.cell (p:=⟨w.heap.size,9,none⟩) (by show w.heap.size<wx.heap.size+1;omega)).trans x9,(hb.cell (p:=⟨b1,off1+g,none⟩) (by show b1<wx.heap.size+1;omega)).trans c0,(hb.cell (p:=⟨b9,off9+k*2+1,none⟩) (by show b9<wx.heap.size+1;omega)).trans c3,(hb.cell (p:=⟨b5,off5+q*2,none⟩) (by show b5<wx.heap.size+1;omega)).trans s0,(hb.cell (p:=⟨b5,off5+q*2+1,none⟩) (by show b5<wx.heap.size+1;omega)).trans s1,(hb.cell (p:=⟨wx.heap.size,1,none⟩) (Nat.lt_succ_self _)).trans y1⟩
       have i1:(0:Int)≤(g:Int):=by omega
       have i2:(g:Int)<(d.groups.1:Int):=by omega
       have i3:(0:Int)≤(k:Int):=by omega
       have i4:(k:Int)<((d.groups.2 g).1:Int):=by omega
       have i5:(0:Int)≤(q:Int):=by omega
       have i6:(q:Int)<(D.blocks.1:Int):=by omega
       go_upto_region 14 with fail
       refine zdF 18 (fun w'=>w'.cell? ⟨w.heap.size,9,none⟩=some (.slice (some ⟨b1,off1,none⟩) d.groups.1 cap1)∧w'.cell? ⟨b1,off1+g,none⟩=some (.slice (some ⟨b9,off9,none⟩) (d.groups.2 g).1 cap9)∧w'.cell? ⟨b9,off9+k*2+1,none⟩=some (.slice (some ⟨b5,off5,none⟩) D.blocks.1 cap5)∧w'.cell? ⟨b5,off5+q*2,none⟩=some (.int .i64 (D.blocks.2 q).stamp)∧w'.cell? ⟨b5,off5+q*2+1,none⟩=some (.slice ao0 (D.blocks.2 q).bytes.1 cap0)∧w'.cell? ⟨wx.heap.size,1,none⟩=some (.slice ba q bc)) (by kernel_rfl) (KS _ ⟨rfl,rfl,rfl,Nat.le_refl _,fun _ _=>rfl⟩) (fun hHeld=>?_);refine zh1 0 rfl ?_
       try simp only [Act.put,SL]
       refine zh1 1 rfl ?_
       try simp only [Act.put,SL]
       refine zh1 2 rfl ?_
       try simp only [Act.put,SL]
       refine zh1 3 rfl ?_
       try simp only [Act.put,SL]
       refine zh1 4 rfl ?_
       try simp only [Act.put,SL]
       refine zh1 5 rfl ?_
       try simp only [Act.put,SL]
       refine zh1 6 rfl ?_
       try simp only [Act.put,SL]
       refine zh1 7 rfl ?_
       try simp only [Act.put,SL]
       refine zh1 8 rfl ?_
       try simp only [Act.put,SL]
       refine zh1 9 rfl ?_
       try simp only [Act.put,SL]
       refine zh1 10 rfl ?_
       try simp only [Act.put,SL]
       refine zh1 11 rfl ?_
       try simp only [Act.put,SL]
       refine zh1 12 rfl ?_
       try simp only [Act.put,SL]
       refine zh1 13 rfl ?_
       try simp only [Act.put,SL]
       refine zbl (i:=14) (o:=_) rfl (by kernel_rfl) (fun K hK=>?_)
       refine zev rfl 41 _ _ rfl #[.agg #[.int .i64 (D.blocks.2 q).stamp,.slice ao0 (D.blocks.2 q).bytes.1 cap0]] ?_ Tryz.func41 (by kernel_rfl) (by kernel_rfl) CC ?_;(simp [Act.eval,Act.put]);rintro ee w5 ⟨bo,bcc,rfl,o5,b5'⟩;have b5w:Below wz.heap.size wz w5:=⟨b5'.os,b5'.tape,b5'.output,b5'.size,b5'.block⟩;have q1:w5.cell? ⟨wx.heap.size,1,none⟩=some (.slice ba q bc):=(HX3.out.call b5w).cell 1;have q3:=(zbQ w5 (.cells #[.int .i64 (D.blocks.2 q).stamp,.slice bo (D.blocks.2 q).bytes.1 bcc] 81) wx.heap.size 1 (by have:=b5w.size;omega)).trans q1;refine ⟨_,rfl,?_⟩
       refine hK.out _ _ (KS _ (b5w.mono (Nat.succ_le_of_lt zz))) (fun hHeld=>?_);clear hK K
       try simp only [Act.put,SL]
       refine zbl (i:=15) (o:=_) rfl (by kernel_rfl) (fun K hK=>?_);go_simp;refine hK.out _ _ (KS _ ((b5w.mono (Nat.succ_le_of_lt zz)).alloc (by have:=b5w.size;omega) _)) (fun hHeld=>?_);clear hK K
       try simp only [Act.put,SL]
       refine zbl (i:=16) (o:=_) rfl (by kernel_rfl) (fun K hK=>?_)
       refine zc3 zea rfl (.tmp 55) (.tmp 69) rfl (lo:=wx.heap.size+1) (n:=q) (v:=.slice ba q bc) (x:=D.blocks.2) ?_ HG3.out b5w o5 ?_ w5.heap.size 1 ?_ (fun j _=>zcn w5 _ _ j) (by omega) (by omega) ?_;(simp [Act.eval,Act.put]);(exact (Below.refl _ _).alloc (Nat.le_refl _) _);(simp [Act.eval,Act.put]);intro v4 w4 g4 b4;obtain ⟨ba4,bc4,rfl⟩:=g4.form;have X4:=HX3.out.below b4 (Nat.lt_succ_self _);have p1:w4.cell? ⟨wx.heap.size,1,none⟩=some (.slice ba q bc):=X4.cell 1;have p2:w4.frozen? ⟨wx.heap.size,1,none⟩=false:=X4.frozen 1
       refine hK.out _ _ (KS _ b4) (fun hHeld=>?_);clear hK K
       try simp only [Act.put,SL]
       refine zbl (i:=17) (o:=_) rfl (by kernel_rfl) (fun K hK=>?_);go_simp;refine hK.out _ _ (KS _ b4) (fun hHeld=>?_);clear hK K
       try simp only [Act.put,SL]
       refine zdD (o:=_) rfl (by kernel_rfl) (fun K hK=>?_);go_simp;refine hK.out _ _ ?_;clear hK K
       try simp only [Act.put,SL]
       refine zdE (by kernel_rfl) ?_ _;go_wp2
       go_roundw
       case rel=>exact ⟨q+1,ba4,bc4,by omega,by go_num,X4.setc 1 (.slice ba4 (q+1) bc4),(g4.set _ _ _ (Nat.lt_succ_self _)).congr (fun i _=>by rw [zbM]),(HB3.out.trans (b4.mono (Nat.le_succ _))).setCell (Nat.le_refl _) _⟩
       case measure=>simp [intOf];omega
      ·obtain rfl:q=D.blocks.1:=by omega
       have OD:OwnT zaa wz wx.heap.size wz.heap.size D [.bool D.wiped,.slice ba D.blocks.1 bc]:=drive_of' (HG3.out.own.weaken (Nat.le_succ _) (Nat.le_refl _));clear X3 G3 B3
       go_wp2_with (at_builtin;refine zcY zeb rfl (.tmp 72) (.tmp 74) rfl (lo:=wo.heap.size) (n:=k) (v:=.slice da k dc) (x:=(d.groups.2 g).2) ?_ HG2'.out HB3.out OD ?_ wz.heap.size 1 ?_ (fun j _=>zcn wz _ _ j) (by omega) (by omega) ?_;(simp [Act.eval]);(exact (Below.refl _ _).alloc (Nat.le_refl _) _);(simp [Act.eval]);intro v4 w4 g4 b4;obtain ⟨da4,dc4,rfl⟩:=g4.form)
       go_roundw
       case rel=>exact ⟨k+1,da4,dc4,by omega,by go_num,rfl,g4.congr (fun i _=>by rw [HD.out,zbM]),HB2.out.trans b4⟩
       case measure=>simp [intOf];omega
    ·obtain rfl:k=(d.groups.2 g).1:=by omega
     have OG:OwnT (zaa.slice 79) wx wo.heap.size wx.heap.size (d.groups.2 g) [.slice da (d.groups.2 g).1 dc]:=HG2'.out.own;have T2:=HT1.out.call B2;have e9:wx.cell? ⟨w.heap.size+1+1,9,none⟩=some (.slice ga g gc):=T2.b3.cell 9;have e9':=(zbQ wx (.cells #[.slice da (d.groups.2 g).1 dc] 76) (w.heap.size+1+1) 9 (by omega)).trans e9;clear T2 G2 B2
     go_wp2_with (at_builtin;refine zcY zdt rfl (.tmp 77) (.tmp 79) rfl (lo:=w.heap.size+1+1+1) (n:=g) (v:=.slice ga g gc) (x:=d.groups.2) ?_ HG1.out HB2.out OG ?_ wx.heap.size 1 ?_ (fun j _=>zcn wx _ _ j) (by omega) (by omega) ?_;(simp [Act.eval]);(exact (Below.refl _ _).alloc (Nat.le_refl _) _);(simp [Act.eval]);intro v4 w4 g4 b4;obtain ⟨ga4,gc4,rfl⟩:=g4.form;have T4:=HT1.out.low b4;have p1:w4.cell? ⟨w.heap.size+1+1,9,none⟩=some (.slice ga g gc):=T4.b3.cell 9;have p2:w4.frozen? ⟨w.heap.size+1+1,9,none⟩=false:=T4.b3.frozen 9)
     go_roundw
     case rel=>exact ⟨g+1,ga4,gc4,by omega,by go_num,T4.st3 9 [.slice ga4 (g+1) gc4] rfl,(g4.set _ _ _ (by omega)).congr (fun i _=>by rw [zbM])⟩
     case measure=>simp [intOf];omega
  ·obtain rfl:g=d.groups.1:=by omega
   have bA:=bAl wo (.cells #[] 2);have TA:=T1.call bA;obtain ⟨v',w2,hrun,o2,b2⟩:=zc8 25 (wo.alloc (.cells #[] 2)) wo.heap.size (zdA wo 2) (zah.rd_below HG2.out TA.bel hhi) (show d.on.1≤10000000 by omega);obtain ⟨oa,oc,hv⟩:=zbE o2;obtain rfl:=zaD hv;clear hv;have T2:Three w w2 (rwW d ao1 cap1 ao2 cap2 ao3 cap3).toArray (rwV 0 0 0 0 0 0 0 0 0 none 0 0 none 0 0 none 0 0 0 0 false).toArray (rwW d ga gc ao2 cap2 ao3 cap3).toArray 34 34 34:=TA.low (b2.mono zo)
   have G2:Gat (zaa.slice 79) 76 w2 (w.heap.size+1+1+1) (.slice ga d.groups.1 gc) d.groups.1 d.groups.2:=by
    have h1:Below wo.heap.size wo w2:=bA.trans b2;exact G1.below h1
   have xa:(wo.alloc (.cells #[] 2)).cell? ⟨w.heap.size,10,none⟩=some (.slice ao2 d.on.1 cap2):=TA.b1.cell 10;have xb:w2.cell? ⟨w.heap.size+1+1,10,none⟩=some (.slice ao2 d.on.1 cap2):=T2.b3.cell 10;have xf:w2.frozen? ⟨w.heap.size+1+1,10,none⟩=false:=T2.b3.frozen 10;have T3:=T2.st3 10 [.slice oa d.on.1 oc] (c3':=(rwW d ga gc oa oc ao3 cap3)) rfl;have T4:Three w (stN (stN w2 (w.heap.size+1+1) 10 [.slice oa d.on.1 oc]) (w.heap.size+1+1) 11 [.slice none 0 0]) (rwW d ao1 cap1 ao2 cap2 ao3 cap3).toArray (rwV 0 0 0 0 0 0 0 0 0 none 0 0 none 0 0 none 0 0 0 0 false).toArray #[.int .i64 (d.shape 0),.int .i64 (d.shape 1),.int .i64 (d.shape 2),.int .i64 (d.shape 3),.int .i64 (d.shape 4),.int .i64 (d.shape 5),.int .i64 (d.shape 6),.int .i64 (d.shape 7),.int .i64 (d.shape 8),.slice ga d.groups.1 gc,.slice oa d.on.1 oc,.slice none 0 0,.int .i64 d.writes,.int .i64 d.stop,.bool d.down] 34 34 34:=T3.st3 11 [.slice none 0 0] (c3':=[.int .i64 (d.shape 0),.int .i64 (d.shape 1),.int .i64 (d.shape 2),.int .i64 (d.shape 3),.int .i64 (d.shape 4),.int .i64 (d.shape 5),.int .i64 (d.shape 6),.int .i64 (d.shape 7),.int .i64 (d.shape 8),.slice ga d.groups.1 gc,.slice oa d.on.1 oc,.slice none 0 0,.int .i64 d.writes,.int .i64 d.stop,.bool d.down]) rfl;have O4:=(o2.stN (w.heap.size+1+1) 10 [.slice oa d.on.1 oc] (by omega)).stN (w.heap.size+1+1) 11 [.slice none 0 0] (by omega);have G4:Gat (zaa.slice 79) 76 (stN (stN w2 (w.heap.size+1+1) 10 [.slice oa d.on.1 oc]) (w.heap.size+1+1) 11 [.slice none 0 0]) (w.heap.size+1+1+1) (.slice ga d.groups.1 gc) d.groups.1 d.groups.2:=(G2.set _ 10 _ (by omega)).set _ 11 _ (by omega);have xc:(w2.setCell ⟨w.heap.size+1+1,10,none⟩ (.slice oa d.on.1 oc)).cell? ⟨w.heap.size+1+1,11,none⟩=some (.slice ao3 d.tapes.1 cap3):=T3.b3.cell 11;have xg:(w2.setCell ⟨w.heap.size+1+1,10,none⟩ (.slice oa d.on.1 oc)).frozen? ⟨w.heap.size+1+1,11,none⟩=false:=T3.b3.frozen 11;have z2:wo.heap.size≤w2.heap.size:=Nat.le_trans bA.size b2.size
   have ez:(stN (stN w2 (w.heap.size+1+1) 10 [.slice oa d.on.1 oc]) (w.heap.size+1+1) 11 [.slice none 0 0]).heap.size=w2.heap.size:=by rw [zbX,zbX]
   have GO:OwnT ((zaa.slice 79).slice 76) wo (w.heap.size+1+1+1) wo.heap.size d.groups [.slice ga d.groups.1 gc]:=G1.own;have GO4:=((GO.call (bA.trans b2)).stN (w.heap.size+1+1) 10 [.slice oa d.on.1 oc] (by omega)).stN (w.heap.size+1+1) 11 [.slice none 0 0] (by omega);clear T1 TA T2 T3 G1 G2 G4 o2 b2 bA GO
   go_upto_region 19 with (at_builtin;refine zeo rfl (.tmp 82) (.tmp 84) rfl ?_ ?_ hrun ?_;(simp [Act.eval]);(simp [Act.eval]))
   obtain ⟨W4,hW4⟩:∃ x,x=stN (stN w2 (w.heap.size+1+1) 10 [.slice oa d.on.1 oc]) (w.heap.size+1+1) 11 [.slice none 0 0]:=⟨_,rfl⟩
   change Code.wp Tryz.prog _ _ _ (stN (stN w2 (w.heap.size+1+1) 10 [.slice oa d.on.1 oc]) (w.heap.size+1+1) 11 [.slice none 0 0])
   rw [← hW4] at T4 O4 GO4 ez ⊢;have HT4:=hid T4;have HO4:=hid O4;have HGO:=hid GO4;clear T4 O4 GO4 hW4 xa xb xf xc xg hrun x9;go_wp2
   go_loopw [9] (fun i wr=>∃ (t:Nat) (ta:Option Addr) (tc:Nat),t≤d.tapes.1∧i=.int .i64 t∧Box wr (w.heap.size+1+1) #[.int .i64 (d.shape 0),.int .i64 (d.shape 1),.int .i64 (d.shape 2),.int .i64 (d.shape 3),.int .i64 (d.shape 4),.int .i64 (d.shape 5),.int .i64 (d.shape 6),.int .i64 (d.shape 7),.int .i64 (d.shape 8),.slice ga d.groups.1 gc,.slice oa d.on.1 oc,.slice ta t tc,.int .i64 d.writes,.int .i64 d.stop,.bool d.down] 34∧Gat zag 71 wr W4.heap.size (.slice ta t tc) t d.tapes.2∧ChgL [w.heap.size+1+1] W4 wr) (fun i _=>d.tapes.1-(intOf i).toNat)
   case atStart=>exact ⟨0,none,0,Nat.zero_le _,rfl,HT4.out.b3,Gat.nil _ _ _,ChgL.refl _ _⟩
   case round=>
    obtain ⟨t,ta,tc,ht,rfl,X5,G5,C5⟩:=hrel;obtain ⟨wx,rfl⟩:∃ x,x=wr:=⟨_,rfl⟩;have T5:Three w wx (rwW d ao1 cap1 ao2 cap2 ao3 cap3).toArray (rwV 0 0 0 0 0 0 0 0 0 none 0 0 none 0 0 none 0 0 0 0 false).toArray #[.int .i64 (d.shape 0),.int .i64 (d.shape 1),.int .i64 (d.shape 2),.int .i64 (d.shape 3),.int .i64 (d.shape 4),.int .i64 (d.shape 5),.int .i64 (d.shape 6),.int .i64 (d.shape 7),.int .i64 (d.shape 8),.slice ga d.groups.1 gc,.slice oa d.on.1 oc,.slice ta t tc,.int .i64 d.writes,.int .i64 d.stop,.bool d.down] 34 34 34:=HT4.out.chgl3 _ X5 C5;have HT5:=hid T5;have HG5:=hid G5;have HC5:=hid C5;have zx:W4.heap.size≤wx.heap.size:=C5.size;have x11:wx.cell? ⟨w.heap.size,11,none⟩=some (.slice ao3 d.tapes.1 cap3):=T5.b1.cell 11;have e11:wx.cell? ⟨w.heap.size+1+1,11,none⟩=some (.slice ta t tc):=T5.b3.cell 11
    by_cases hlt:t<d.tapes.1
    ·obtain ⟨b3,off3,he3,hb3,hel3⟩:=HC3.out (by omega)
     subst he3;obtain ⟨ct,hrt,hct⟩:=zap (t:=0) hel3 T5.bel hhi hb3 hlt;obtain ⟨ao7,cap7,rfl,g7⟩:=za0 hrt;have c0:wx.cell? ⟨b3,off3+t*2,none⟩=some (.bool (d.tapes.2 t).wiped):=hct 0 (by decide);have c1:wx.cell? ⟨b3,off3+t*2+1,none⟩=some (.slice ao7 (d.tapes.2 t).recs.1 cap7):=hct 1 (by decide);have HCA:=hid c0;have CC:=zep _ (d.tapes.2 t).recs hi wx.drew ((zab.slice 75).rd_below (B:=hi) g7 ⟨rfl,rfl,rfl,Nat.le_refl _,fun _ _=>rfl⟩ (Nat.le_refl _)) (show hi≤wx.heap.size by omega) (HNT.out t hlt)
     have CC:=CC.mono (R':=fun e w'=>∃ ra rc,e=.returned (.slice ra (d.tapes.2 t).recs.1 rc)∧OwnT (zab.slice 75) w' wx.drew.heap.size w'.heap.size (d.tapes.2 t).recs [.slice ra (d.tapes.2 t).recs.1 rc]∧Below wx.drew.heap.size wx.drew w') (fun e w' ⟨v5,he,o5,b5'⟩=>by
      obtain ⟨ra,rc,hv5⟩:=zbn o5;obtain rfl:=zaD hv5
      exact ⟨ra,rc,he,o5,b5'⟩)
     clear hel3 hct hrt g7 X5 G5 C5 T5;have KS:∀ w',Below (w.heap.size+1+1+1) wx w'→(w'.cell? ⟨w.heap.size,11,none⟩=some (.slice (some ⟨b3,off3,none⟩) d.tapes.1 cap3)∧w'.cell? ⟨b3,off3+t*2,none⟩=some (.bool (d.tapes.2 t).wiped)∧w'.cell? ⟨b3,off3+t*2+1,none⟩=some (.slice ao7 (d.tapes.2 t).recs.1 cap7)∧w'.cell? ⟨w.heap.size+1+1,11,none⟩=some (.slice ta t tc)):=fun w' hb=>⟨(hb.cell (p:=⟨w.heap.size,11,none⟩) (by show w.heap.size<w.heap.size+1+1+1;omega)).trans x11,(hb.cell (p:=⟨b3,off3+t*2,none⟩) (by show b3<w.heap.size+1+1+1;omega)).trans c0,(hb.cell (p:=⟨b3,off3+t*2+1,none⟩) (by show b3<w.heap.size+1+1+1;omega)).trans c1,(hb.cell (p:=⟨w.heap.size+1+1,11,none⟩) (Nat.lt_succ_self _)).trans e11⟩
     have i1:(0:Int)≤(t:Int):=by omega
     have i2:(t:Int)<(d.tapes.1:Int):=by omega
     go_upto_region 22 with fail
     refine zdF 19 (fun w'=>w'.cell? ⟨w.heap.size,11,none⟩=some (.slice (some ⟨b3,off3,none⟩) d.tapes.1 cap3)∧w'.cell? ⟨b3,off3+t*2,none⟩=some (.bool (d.tapes.2 t).wiped)∧w'.cell? ⟨b3,off3+t*2+1,none⟩=some (.slice ao7 (d.tapes.2 t).recs.1 cap7)∧w'.cell? ⟨w.heap.size+1+1,11,none⟩=some (.slice ta t tc)) (by kernel_rfl) (KS _ ⟨rfl,rfl,rfl,Nat.le_refl _,fun _ _=>rfl⟩) (fun hHeld=>?_);refine zh1 0 rfl ?_
     try simp only [Act.put,SL]
     refine zh1 1 rfl ?_
     try simp only [Act.put,SL]
     refine zh1 2 rfl ?_
     try simp only [Act.put,SL]
     refine zh1 3 rfl ?_
     try simp only [Act.put,SL]
     refine zh1 4 rfl ?_
     try simp only [Act.put,SL]
     refine zh1 5 rfl ?_
     try simp only [Act.put,SL]
     refine zh1 6 rfl ?_
     try simp only [Act.put,SL]
     refine zh1 7 rfl ?_
     try simp only [Act.put,SL]
     refine zh1 8 rfl ?_
     try simp only [Act.put,SL]
     refine zh1 9 rfl ?_
     try simp only [Act.put,SL]
     refine zh1 10 rfl ?_
     try simp only [Act.put,SL]
     refine zh1 11 rfl ?_
     try simp only [Act.put,SL]
     refine zh1 12 rfl ?_
     try simp only [Act.put,SL]
     refine zh1 13 rfl ?_
     try simp only [Act.put,SL]
     refine zbl (i:=14) (o:=_) rfl (by kernel_rfl) (fun K hK=>?_)
     refine zev rfl 42 _ _ rfl #[.slice ao7 (d.tapes.2 t).recs.1 cap7] ?_ Tryz.func42 (by kernel_rfl) (by kernel_rfl) CC ?_;(simp [Act.eval,Act.put]);rintro ee w5 ⟨ra,rc,rfl,o5,b5'⟩;have b5w:Below wx.heap.size wx w5:=⟨b5'.os,b5'.tape,b5'.output,b5'.size,b5'.block⟩;have T6:=HT5.out.call b5w;have q1:w5.cell? ⟨w.heap.size+1+1,11,none⟩=some (.slice ta t tc):=T6.b3.cell 11;have q3:=(zbQ w5 (.cells #[.bool (d.tapes.2 t).wiped,.slice ra (d.tapes.2 t).recs.1 rc] 71) (w.heap.size+1+1) 11 (by have:=b5w.size;omega)).trans q1;clear T6;refine ⟨_,rfl,?_⟩
     refine hK.out _ _ (KS _ (b5w.mono (by omega))) (fun hHeld=>?_);clear hK K
     try simp only [Act.put,SL]
     refine zh1 15 rfl ?_
     try simp only [Act.put,SL]
     refine zbl (i:=16) (o:=_) rfl (by kernel_rfl) (fun K hK=>?_);go_simp;refine hK.out _ _ (KS _ ((b5w.mono (by omega)).alloc (by have:=b5w.size;omega) _)) (fun hHeld=>?_);clear hK K
     try simp only [Act.put,SL]
     refine zbl (i:=17) (o:=_) rfl (by kernel_rfl) (fun K hK=>?_)
     refine zc3 zfF rfl (.tmp 96) (.tmp 111) rfl (lo:=W4.heap.size) (n:=t) (v:=.slice ta t tc) (x:=d.tapes.2) ?_ HG5.out b5w (tape_of' o5) ?_ w5.heap.size 1 ?_ (fun j _=>zcn w5 _ _ j) (by omega) (by omega) ?_;(simp [Act.eval,Act.put]);(exact (Below.refl _ _).alloc (Nat.le_refl _) _);(simp [Act.eval,Act.put]);intro v4 w4 g4 b4;obtain ⟨ta4,tc4,rfl⟩:=g4.form;have X4:=HT5.out.b3.below b4 (by omega);have p1:w4.cell? ⟨w.heap.size+1+1,11,none⟩=some (.slice ta t tc):=X4.cell 11;have p2:w4.frozen? ⟨w.heap.size+1+1,11,none⟩=false:=X4.frozen 11
     refine hK.out _ _ (KS _ (b4.mono (by omega))) (fun hHeld=>?_);clear hK K
     try simp only [Act.put,SL]
     refine zbl (i:=18) (o:=_) rfl (by kernel_rfl) (fun K hK=>?_);go_simp;refine hK.out _ _ (KS _ (b4.mono (by omega))) (fun hHeld=>?_);clear hK K
     try simp only [Act.put,SL]
     refine zdD (o:=_) rfl (by kernel_rfl) (fun K hK=>?_);go_simp;refine hK.out _ _ ?_;clear hK K
     try simp only [Act.put,SL]
     refine zdE (by kernel_rfl) ?_ _;go_wp2
     go_roundw
     case rel=>exact ⟨t+1,ta4,tc4,by omega,by go_num,X4.stL [.slice ta4 (t+1) tc4] 11,(g4.set _ _ _ (by omega)).congr (fun i _=>by rw [zbM]),(HC5.out.after b4).st (w.heap.size+1+1) 11 _ (by simp)⟩
     case measure=>simp [intOf];omega
    ·obtain rfl:t=d.tapes.1:=by omega
     clear X5 e11
     have F0:OwnT zae wx (w.heap.size+1+1+1) wx.heap.size d (rwW d ga gc oa oc ta tc):=by
      have C5':=C5;clear T5 G5 C5;have F:OwnT zae wx (w.heap.size+1+1+1) wx.heap.size d ((rwS d.shape)++([.slice ga d.groups.1 gc]++([.slice oa d.on.1 oc]++([.slice ta d.tapes.1 tc]++([.int .i64 d.writes]++([.int .i64 d.stop]++[.bool d.down])))))):=OwnT.conv (OwnT.pre (A:=(zcU 9)) (a:=d.shape) (c:=(rwS d.shape)) ⟨rfl,Q0.out,rfl⟩ (OwnT.two (HGO.out.chgl HC5.out (fun b hb=>by simp at hb;omega)) (OwnT.two (HO4.out.chgl HC5.out (fun b hb=>by simp at hb;omega)) (OwnT.two (HG5.out.own.weaken (show w2.heap.size≤W4.heap.size by omega) (Nat.le_refl _)) (OwnT.pre (A:=layI) (a:=d.writes) (c:=[.int .i64 d.writes]) ⟨rfl,Q4.out,rfl⟩ (OwnT.pre (A:=layI) (a:=d.stop) (c:=[.int .i64 d.stop]) ⟨rfl,Q5.out,rfl⟩ (OwnT.nil (A:=layB) (a:=d.down) (c:=[.bool d.down]) ⟨rfl,trivial,rfl⟩ wx.heap.size wx.heap.size))) (Nat.le_refl _) (by omega) (Nat.le_refl _)) (by omega) (by omega) (by omega)) (by omega) (by omega) (by omega)));exact F
     have HF:=hid F0;clear G5 C5
     go_wp2_with (first | (refine zau 34 (.tmp 3) rfl rfl (w.heap.size+1+1) rfl T5.b3 Tryz.underlying34 zco rfl ?_) | (refine za2 34 _ _ rfl rfl (w.heap.size+1) rfl (cs:=(rwW d ga gc oa oc ta tc)) rfl T5.b2 zco rfl rfl F0.one ?_;intro w9 X9 C9 z9))
     refine zb1 Tryz.results18 rfl X9 Tryz.underlying34 zco rfl rfl ?_;refine ⟨(rwW d ga gc oa oc ta tc),rfl,?_,?_⟩
     ·exact (HF.out.chgk C9 (fun b hb=>by simp at hb;omega)).weaken (by omega) C9.size
     ·exact T5.bel.trans (C9.bel (fun b hb=>by simp at hb;omega) T5.bel.size)
theorem zhj {w:World} {hi:Nat} {d:WorldD} {c0 c1 c2 c3 c4 c5 c6 c7 c8 c9 c10 c11 c12 c13:Value} {b:Bool} (h:zae.rd w hi d [c0,c1,c2,c3,c4,c5,c6,c7,c8,c9,c10,c11,c12,c13,.bool b]):b=d.down:=by
 obtain ⟨p1,pc1,p2,pc2,p3,pc3,e,-⟩:=zaN h
 simp only [List.cons.injEq,Value.bool.injEq,and_true] at e
 exact e.2.2.2.2.2.2.2.2.2.2.2.2.2.2
set_option maxRecDepth 20000 in
theorem zeq (d:WorldD) (s:Int) (cs:List Value) (hi:Nat) (w:World) (h:zae.rd w hi d cs) (hhi:hi≤w.heap.size) (hsz:za1 d≤1048576) (hs:-9223372036854775808≤s∧s≤9223372036854775807) :
 Calls Tryz.prog 5 #[.agg cs.toArray,.int .i64 s] w (zdu (RaiseAns d s) w):=by
 obtain ⟨v0,v1,v2,v3,v4,v5,v6,v7,v8,vp0,vl0,vq0,vp1,vl1,vq1,vp2,vl2,vq2,v9,v10,vb,rfl⟩:=zem h;have HRD:=hid h;have HSZ:=hid hsz;have Hs:=hid hs;clear h hsz hs;have T0:=zay w (rwV v0 v1 v2 v3 v4 v5 v6 v7 v8 vp0 vl0 vq0 vp1 vl1 vq1 vp2 vl2 vq2 v9 v10 vb).toArray rwZ.toArray 34 36
 go_enter Tryz.func5,Tryz.ntmps5
 go_wp2_with (refine zau 34 (.tmp 2) rfl rfl (w.heap.size) rfl (T0.b1) Tryz.underlying34 zco rfl ?_)
 refine (zed d _ hi _ (zae.rd_below HRD.out T0.bel hhi) (Nat.le_trans hhi T0.bel.size) (zc7 HSZ.out)).mono ?_;rintro e w1 ⟨x,rfl,hx,b1⟩;have HT1:=hid (T0.call b1);have HX:=hid hx;have z1:w.heap.size+1<w1.heap.size:=HT1.out.b2.lt;clear b1 T0 hx
 by_cases hx0:x=0
 case neg=>
  have hne:(x != 0)=true:=by simp [hx0]
  go_wp2_with (refine za2 36 _ _ rfl rfl (w.heap.size+1) rfl (cs:=(.int .i64 x::rwY)) rfl (HT1.out.b2) zaS rfl rfl (zcy _ (zcS HX.out) w) ?_;intro w9 X9 C9 z9)
  refine zb1 Tryz.results5 rfl X9 Tryz.underlying36 zaS rfl rfl ?_;exact zbU (zcS HX.out) HT1.out.bel C9 (.inl ⟨x,hx0,HX.out,rfl⟩)
 subst hx0;obtain ⟨t,ht⟩:=exB (InP s (-1) 1000000000);have HT:=hid ht;have CI:=fun w'=>zbN ht w';clear ht
 go_wp2_with fail
 refine (CI _).mono ?_;rintro e w1' ⟨rfl,e1⟩;obtain rfl:=e1.symm;clear CI
 cases t with
 | false=>
  go_wp2_with (refine za2 36 _ _ rfl rfl (w.heap.size+1) rfl (cs:=(.int .i64 3::rwY)) rfl (HT1.out.b2) zaS rfl rfl (zcy _ (by decide) w) ?_;intro w9 X9 C9 z9)
  refine zb1 Tryz.results5 rfl X9 Tryz.underlying36 zaS rfl rfl ?_;exact zbU (by decide) HT1.out.bel C9 (.inr ⟨HX.out,.inl ⟨fun h=>(by have:=HT.out.2 h;cases this),rfl⟩⟩)
 | true=>
 have c14:w1.cell? ⟨w.heap.size,14,none⟩=some (.bool vb):=HT1.out.b1.cell 14;have HV:=hid (zhj HRD.out)
 cases vb with
 | false=>
  go_wp2_with (refine za2 36 _ _ rfl rfl (w.heap.size+1) rfl (cs:=(.int .i64 1::rwY)) rfl (HT1.out.b2) zaS rfl rfl (zcy _ (by decide) w) ?_;intro w9 X9 C9 z9)
  refine zb1 Tryz.results5 rfl X9 Tryz.underlying36 zaS rfl rfl ?_;exact zbU (by decide) HT1.out.bel C9 (.inr ⟨HX.out,.inr ⟨HT.out.1 (by simp),.inl ⟨HV.out.symm,rfl⟩⟩⟩)
 | true=>
 go_wp2_with (refine zau 34 (.tmp 2) rfl rfl (w.heap.size) rfl (HT1.out.b1) Tryz.underlying34 zco rfl ?_)
 refine (zhi _ d hi _ (zae.rd_below HRD.out HT1.out.bel hhi) (Nat.le_trans hhi HT1.out.bel.size) HSZ.out).mono ?_;rintro e w2 ⟨c2,rfl,o2,b2⟩;obtain ⟨u0,u1,u2,u3,u4,u5,u6,u7,u8,up0,ul0,uq0,up1,ul1,uq1,up2,ul2,uq2,u9,u10,ub,rfl⟩:=zen o2;have z2:w1.heap.size≤w2.heap.size:=b2.size
 go_upto_region 9 with (refine zbd 34 6 (.tmp 22) _ _ 15 rfl rfl rfl rfl rfl rfl rfl rfl zg6 rfl rfl o2.one ?_)
 have bA:=bAl w2 (.cells (rwV u0 u1 u2 u3 u4 u5 u6 u7 u8 up0 ul0 uq0 up1 ul1 uq1 up2 ul2 uq2 u9 u10 ub).toArray 34);have X3:=zaF w2 (rwV u0 u1 u2 u3 u4 u5 u6 u7 u8 up0 ul0 uq0 up1 ul1 uq1 up2 ul2 uq2 u9 u10 ub).toArray 34;obtain ⟨W3,hW3⟩:∃ x,x=w2.alloc (.cells (rwV u0 u1 u2 u3 u4 u5 u6 u7 u8 up0 ul0 uq0 up1 ul1 uq1 up2 ul2 uq2 u9 u10 ub).toArray 34):=⟨_,rfl⟩;rw [← hW3] at bA X3 ⊢;have T3:=(HT1.out.call b2).call bA;have O3:=o2.call bA;have z3:w2.heap.size<W3.heap.size:=X3.lt;clear bA hW3 o2 b2;have y0:W3.cell? ⟨w2.heap.size,14,none⟩=some (.bool ub):=X3.cell 14;have yf0:W3.frozen? ⟨w2.heap.size,14,none⟩=false:=X3.frozen 14;have X3_0:Box (W3.setCell ⟨w2.heap.size,14,none⟩ (.bool false)) w2.heap.size (rwV u0 u1 u2 u3 u4 u5 u6 u7 u8 up0 ul0 uq0 up1 ul1 uq1 up2 ul2 uq2 u9 u10 false).toArray 34:=X3.setc 14 (.bool false);have y1:(W3.setCell ⟨w2.heap.size,14,none⟩ (.bool false)).cell? ⟨w2.heap.size,12,none⟩=some (.int .i64 u9):=X3_0.cell 12;have yf1:(W3.setCell ⟨w2.heap.size,14,none⟩ (.bool false)).frozen? ⟨w2.heap.size,12,none⟩=false:=X3_0.frozen 12;have X3_1:Box ((W3.setCell ⟨w2.heap.size,14,none⟩ (.bool false)).setCell ⟨w2.heap.size,12,none⟩ (.int .i64 0)) w2.heap.size (rwV u0 u1 u2 u3 u4 u5 u6 u7 u8 up0 ul0 uq0 up1 ul1 uq1 up2 ul2 uq2 0 u10 false).toArray 34:=X3_0.setc 12 (.int .i64 0);have y2:((W3.setCell ⟨w2.heap.size,14,none⟩ (.bool false)).setCell ⟨w2.heap.size,12,none⟩ (.int .i64 0)).cell? ⟨w2.heap.size,13,none⟩=some (.int .i64 u10):=X3_1.cell 13;have yf2:((W3.setCell ⟨w2.heap.size,14,none⟩ (.bool false)).setCell ⟨w2.heap.size,12,none⟩ (.int .i64 0)).frozen? ⟨w2.heap.size,13,none⟩=false:=X3_1.frozen 13;have X3_2:Box (((W3.setCell ⟨w2.heap.size,14,none⟩ (.bool false)).setCell ⟨w2.heap.size,12,none⟩ (.int .i64 0)).setCell ⟨w2.heap.size,13,none⟩ (.int .i64 s)) w2.heap.size (rwV u0 u1 u2 u3 u4 u5 u6 u7 u8 up0 ul0 uq0 up1 ul1 uq1 up2 ul2 uq2 0 s false).toArray 34:=X3_1.setc 13 (.int .i64 s)
 have CC:ChgL [w2.heap.size] W3 (((W3.setCell ⟨w2.heap.size,14,none⟩ (.bool false)).setCell ⟨w2.heap.size,12,none⟩ (.int .i64 0)).setCell ⟨w2.heap.size,13,none⟩ (.int .i64 s)):=(((ChgL.refl _ _).st _ 14 (.bool false) (by simp)).st _ 12 (.int .i64 0) (by simp)).st _ 13 (.int .i64 s) (by simp);have T5:=T3.chgl CC (by omega);have O5:=(ze5 s Hs.out O3).chgk CC (fun b hb=>by simp at hb;omega);have HB:=hid T5.bel;have z5:=CC.size
 go_wp2_with (first | (refine zau 34 (.tmp 6) rfl rfl (w2.heap.size) rfl (X3_2) Tryz.underlying34 zco rfl ?_) | (refine za2 36 _ _ rfl rfl (w.heap.size+1) rfl (cs:=(.int .i64 0::rwV u0 u1 u2 u3 u4 u5 u6 u7 u8 up0 ul0 uq0 up1 ul1 uq1 up2 ul2 uq2 0 s false)) rfl (T5.b2) zaS rfl rfl ((zcP 0 (by decide) O5).one) ?_;intro w9 X9 C9 z9))
 refine zb1 Tryz.results5 rfl X9 Tryz.underlying36 zaS rfl rfl ?_;exact zdV (by decide) T5.bel C9 O5 (by omega) (by omega) (.inr ⟨HX.out,.inr ⟨HT.out.1 (by simp),.inr ⟨HV.out.symm,rfl⟩⟩⟩)
set_option maxRecDepth 20000 in
theorem zfb:ToV zaf zav 111:=fun cs d hi w r hhi hn=>by
 obtain ⟨ao1,cap1,rfl,h1,k0⟩:=zaZ r;clear r;unfold zav at hn;have R1:=hid h1;clear h1;have Q0:=hid k0;clear k0;have T0:=zay w #[.int .i64 d.stamp,.slice ao1 d.bytes.1 cap1] #[.int .i64 0,.slice none 0 0] 81 81
 go_enter Tryz.func111,Tryz.ntmps111
 go_wp2_with fail
 refine (zcp _ d.bytes hi _ (zac.rd_below R1.out T0.bel hhi) (Nat.le_trans hhi T0.bel.size) (by omega)).mono ?_;rintro e w1 ⟨v0,rfl,o0,b0⟩;obtain ⟨bo1,bcap1,hv⟩:=zaY o0;obtain rfl:=zaD hv;clear hv;have T0c:=T0.call b0;have z0:=T0.b2.lt;have y0:=b0.size;have c0_1:w1.cell? ⟨w.heap.size,1,none⟩=some (.slice ao1 d.bytes.1 cap1):=T0c.b1.cell 1;have c0f_1:w1.frozen? ⟨w.heap.size,1,none⟩=false:=T0c.b1.frozen 1;have T1x:Two w (w1.setCell ⟨w.heap.size,1,none⟩ (.slice bo1 d.bytes.1 bcap1)) #[.int .i64 d.stamp,.slice bo1 d.bytes.1 bcap1] #[.int .i64 0,.slice none 0 0] 81 81:=⟨T0c.b1.stL [.slice bo1 d.bytes.1 bcap1] 1,T0c.b2.seto _ _ (by omega),T0c.bel.setCell (Nat.le_refl _) _⟩;have O1_0:=(o0.stN w.heap.size 1 [.slice bo1 d.bytes.1 bcap1] (by omega))
 have e1:(w1.setCell ⟨w.heap.size,1,none⟩ (.slice bo1 d.bytes.1 bcap1)).heap.size=w1.heap.size:=by simp
 clear o0 b0
 go_upto_region 2 with fail
 obtain ⟨W1,hW1⟩:∃ x,x=w1.setCell ⟨w.heap.size,1,none⟩ (.slice bo1 d.bytes.1 bcap1):=⟨_,rfl⟩
 have O1:Hid (OwnT zac W1 (w.heap.size+1+1) (w1.heap.size) d.bytes [.slice bo1 d.bytes.1 bcap1]):=by rw [hW1];exact OwnT.weaken O1_0 (by simp) (Nat.le_refl _)
 rw [← hW1] at T1x e1 ⊢;clear hW1 O1_0 T0c c0_1 c0f_1;have y_0:W1.cell? ⟨w.heap.size,0,none⟩=some (.int .i64 d.stamp):=T1x.b1.cell 0;have y_1:W1.cell? ⟨w.heap.size,1,none⟩=some (.slice bo1 d.bytes.1 bcap1):=T1x.b1.cell 1;have r_0:W1.cell? ⟨w.heap.size+1,0,none⟩=some (.int .i64 0):=T1x.b2.cell 0;have rf_0:W1.frozen? ⟨w.heap.size+1,0,none⟩=false:=T1x.b2.frozen 0;have r_1:W1.cell? ⟨w.heap.size+1,1,none⟩=some (.slice none 0 0):=T1x.b2.cell 1;have rf_1:W1.frozen? ⟨w.heap.size+1,1,none⟩=false:=T1x.b2.frozen 1;have HB:=hid T1x.bel;have zz:=T1x.b2.lt;clear T1x;go_wp2;refine bodyPost_ret (v:=.agg #[.int .i64 d.stamp,.slice bo1 d.bytes.1 bcap1]) (by simp [results,Tryz.results111,go_sem,r_0,y_0,r_1,y_1]) rfl ?_;have F:OwnT zaf W1 (w.heap.size+1+1) w1.heap.size d ([.int .i64 d.stamp]++[.slice bo1 d.bytes.1 bcap1]):=OwnT.conv (OwnT.pre (A:=layI) (a:=d.stamp) (c:=[.int .i64 d.stamp]) ⟨rfl,Q0.out,rfl⟩ O1.out);refine ⟨[.int .i64 d.stamp,.slice bo1 d.bytes.1 bcap1],rfl,?_,?_⟩
 ·exact OwnT.finb (F.weaken (Nat.le_refl _) (by omega)) (b:=w.heap.size+1) (by omega) (by omega) 0 [.int .i64 d.stamp,.slice bo1 d.bytes.1 bcap1] _ rfl
 ·exact HB.out.trans (zaC (by omega) [.int .i64 d.stamp,.slice bo1 d.bytes.1 bcap1] 0)
set_option maxRecDepth 20000 in
theorem zer:ToF (zaf.slice 81) (szSl zav) 110 111:=fun v d hi w h hhi hn=>by
 obtain ⟨n,x⟩:=d;obtain ⟨ao,cap,hv,hm,hc⟩:=h
 cases hv
 have hn1:=zbJ hn;have hn2:∀ i,i<n→zav (x i)≤1048576:=fun i hi=>zbb hn hi
 simp only at hn1 hm hc
 clear hn
 go_enter Tryz.func110,Tryz.ntmps110
 go_wp2_with (at_make;refine zbv zaf [.int .i64 0,.slice none 0 0] _ 81 32 (zea).hs rfl Tryz.underlying77 (zea).hi x (fun _=>[]) _ rfl _ _ rfl _ _ n rfl rfl rfl rfl (by omega) (by omega) ?_;intro w1 sp1 hb1)
 go_loopw [12] (fun i wr=>∃ k:Nat,k≤n∧i=.int .i64 k∧∃ ce Ls,SlP zaf 81 wr w.heap.size w.heap.size n n k x ce Ls∧Below w.heap.size w wr) (fun i _=>n-(intOf i).toNat)
 case atStart=>exact ⟨0,Nat.zero_le _,rfl,_,_,sp1,hb1⟩
 case round=>
  clear sp1 hb1;obtain ⟨k,hk,rfl,ce,Ls,sp,hb⟩:=hrel
  by_cases hlt:k<n
  ·obtain ⟨b,off,rfl,hblt,hel⟩:=hc (by omega)
   obtain ⟨ck,hrk,hcell⟩:=zap (t:=0) hel hb hhi hblt hlt;obtain ⟨ao1,cap1,rfl,-⟩:=zaZ hrk;have c0:wr.cell? ⟨b,off+k*2,none⟩=some (.int .i64 (x k).stamp):=hcell 0 (by decide);have c1:wr.cell? ⟨b,off+k*2+1,none⟩=some (.slice ao1 (x k).bytes.1 cap1):=hcell 1 (by decide);clear hc hel hcell
   go_wp2_with fail
   refine (zfb _ (x k) hi wr hrk (Nat.le_trans hhi hb.size) (hn2 k hlt)).mono ?_;rintro e w2 ⟨cs',rfl,o2,hb2⟩;obtain ⟨bao1,bcap1,rfl⟩:=zcC o2;obtain ⟨z0,s0⟩:=sp.some hb2 hlt (show 0<zaf.sz by decide);have s0:w2.cell? ⟨w.heap.size,k*2,none⟩=some z0:=s0;have sf0:=(sp.below hb2).frozen (k*2);obtain ⟨z1,s1⟩:=sp.some hb2 hlt (show 1<zaf.sz by decide);have s1:w2.cell? ⟨w.heap.size,k*2+1,none⟩=some z1:=s1;have sf1:=(sp.below hb2).frozen (k*2+1);have N:=sp.next hb2 hlt o2 hb.size;have N2:Below w.heap.size w (stN w2 w.heap.size (k*zaf.sz) [.int .i64 (x k).stamp,.slice bao1 (x k).bytes.1 bcap1]):=(hb.trans (hb2.mono hb.size)).trans (zaC (Nat.le_refl _) _ _);clear o2 hb2 sp hb
   go_wp2_with fail
   go_roundw
   case rel=>
    obtain ⟨ce',Ls',N⟩:=N;exact ⟨k+1,by omega,by go_num,ce',Ls',N,N2⟩
   case measure=>simp [intOf];omega
  ·obtain rfl:k=n:=by omega
   go_wp2;go_ret;exact ⟨_,rfl,sp.done (Nat.le_refl _),hb⟩
set_option maxRecDepth 20000 in
theorem zfc:ToV zaa zam 87:=fun cs d hi w r hhi hn=>by
 obtain ⟨ao1,cap1,rfl,h1⟩:=za7 r;clear r;unfold zam at hn;have R1:=hid h1;clear h1;have T0:=zay w #[.bool d.wiped,.slice ao1 d.blocks.1 cap1] #[.bool false,.slice none 0 0] 79 79
 go_enter Tryz.func87,Tryz.ntmps87
 go_wp2_with fail
 refine (zer _ d.blocks hi _ ((zaf.slice 81).rd_below R1.out T0.bel hhi) (Nat.le_trans hhi T0.bel.size) (by omega)).mono ?_;rintro e w1 ⟨v0,rfl,o0,b0⟩;obtain ⟨bo1,bcap1,hv⟩:=zbn o0;obtain rfl:=zaD hv;clear hv;have T0c:=T0.call b0;have z0:=T0.b2.lt;have y0:=b0.size;have c0_1:w1.cell? ⟨w.heap.size,1,none⟩=some (.slice ao1 d.blocks.1 cap1):=T0c.b1.cell 1;have c0f_1:w1.frozen? ⟨w.heap.size,1,none⟩=false:=T0c.b1.frozen 1;have T1x:Two w (w1.setCell ⟨w.heap.size,1,none⟩ (.slice bo1 d.blocks.1 bcap1)) #[.bool d.wiped,.slice bo1 d.blocks.1 bcap1] #[.bool false,.slice none 0 0] 79 79:=⟨T0c.b1.stL [.slice bo1 d.blocks.1 bcap1] 1,T0c.b2.seto _ _ (by omega),T0c.bel.setCell (Nat.le_refl _) _⟩;have O1_0:=(o0.stN w.heap.size 1 [.slice bo1 d.blocks.1 bcap1] (by omega))
 have e1:(w1.setCell ⟨w.heap.size,1,none⟩ (.slice bo1 d.blocks.1 bcap1)).heap.size=w1.heap.size:=by simp
 clear o0 b0
 go_upto_region 2 with fail
 obtain ⟨W1,hW1⟩:∃ x,x=w1.setCell ⟨w.heap.size,1,none⟩ (.slice bo1 d.blocks.1 bcap1):=⟨_,rfl⟩
 have O1:Hid (OwnT (zaf.slice 81) W1 (w.heap.size+1+1) (w1.heap.size) d.blocks [.slice bo1 d.blocks.1 bcap1]):=by rw [hW1];exact OwnT.weaken O1_0 (by simp) (Nat.le_refl _)
 rw [← hW1] at T1x e1 ⊢;clear hW1 O1_0 T0c c0_1 c0f_1;have y_0:W1.cell? ⟨w.heap.size,0,none⟩=some (.bool d.wiped):=T1x.b1.cell 0;have y_1:W1.cell? ⟨w.heap.size,1,none⟩=some (.slice bo1 d.blocks.1 bcap1):=T1x.b1.cell 1;have r_0:W1.cell? ⟨w.heap.size+1,0,none⟩=some (.bool false):=T1x.b2.cell 0;have rf_0:W1.frozen? ⟨w.heap.size+1,0,none⟩=false:=T1x.b2.frozen 0;have r_1:W1.cell? ⟨w.heap.size+1,1,none⟩=some (.slice none 0 0):=T1x.b2.cell 1;have rf_1:W1.frozen? ⟨w.heap.size+1,1,none⟩=false:=T1x.b2.frozen 1;have HB:=hid T1x.bel;have zz:=T1x.b2.lt;clear T1x;go_wp2;refine bodyPost_ret (v:=.agg #[.bool d.wiped,.slice bo1 d.blocks.1 bcap1]) (by simp [results,Tryz.results87,go_sem,r_0,y_0,r_1,y_1]) rfl ?_;have F:OwnT zaa W1 (w.heap.size+1+1) w1.heap.size d ([.bool d.wiped]++[.slice bo1 d.blocks.1 bcap1]):=OwnT.conv (OwnT.pre (A:=layB) (a:=d.wiped) (c:=[.bool d.wiped]) ⟨rfl,trivial,rfl⟩ O1.out);refine ⟨[.bool d.wiped,.slice bo1 d.blocks.1 bcap1],rfl,?_,?_⟩
 ·exact OwnT.finb (F.weaken (Nat.le_refl _) (by omega)) (b:=w.heap.size+1) (by omega) (by omega) 0 [.bool d.wiped,.slice bo1 d.blocks.1 bcap1] _ rfl
 ·exact HB.out.trans (zaC (by omega) [.bool d.wiped,.slice bo1 d.blocks.1 bcap1] 0)
set_option maxRecDepth 20000 in
theorem zes:ToF (zaa.slice 79) (szSl zam) 86 87:=fun v d hi w h hhi hn=>by
 obtain ⟨n,x⟩:=d;obtain ⟨ao,cap,hv,hm,hc⟩:=h
 cases hv
 have hn1:=zbJ hn;have hn2:∀ i,i<n→zam (x i)≤1048576:=fun i hi=>zbb hn hi
 simp only at hn1 hm hc
 clear hn
 go_enter Tryz.func86,Tryz.ntmps86
 go_wp2_with (at_make;refine zbv zaa [.bool false,.slice none 0 0] _ 79 32 (zeb).hs rfl Tryz.underlying76 (zeb).hi x (fun _=>[]) _ rfl _ _ rfl _ _ n rfl rfl rfl rfl (by omega) (by omega) ?_;intro w1 sp1 hb1)
 go_loopw [12] (fun i wr=>∃ k:Nat,k≤n∧i=.int .i64 k∧∃ ce Ls,SlP zaa 79 wr w.heap.size w.heap.size n n k x ce Ls∧Below w.heap.size w wr) (fun i _=>n-(intOf i).toNat)
 case atStart=>exact ⟨0,Nat.zero_le _,rfl,_,_,sp1,hb1⟩
 case round=>
  clear sp1 hb1;obtain ⟨k,hk,rfl,ce,Ls,sp,hb⟩:=hrel
  by_cases hlt:k<n
  ·obtain ⟨b,off,rfl,hblt,hel⟩:=hc (by omega)
   obtain ⟨ck,hrk,hcell⟩:=zap (t:=0) hel hb hhi hblt hlt;obtain ⟨ao1,cap1,rfl,-⟩:=za7 hrk;have c0:wr.cell? ⟨b,off+k*2,none⟩=some (.bool (x k).wiped):=hcell 0 (by decide);have c1:wr.cell? ⟨b,off+k*2+1,none⟩=some (.slice ao1 (x k).blocks.1 cap1):=hcell 1 (by decide);clear hc hel hcell
   go_wp2_with fail
   refine (zfc _ (x k) hi wr hrk (Nat.le_trans hhi hb.size) (hn2 k hlt)).mono ?_;rintro e w2 ⟨cs',rfl,o2,hb2⟩;obtain ⟨bao1,bcap1,rfl⟩:=zdm o2;obtain ⟨z0,s0⟩:=sp.some hb2 hlt (show 0<zaa.sz by decide);have s0:w2.cell? ⟨w.heap.size,k*2,none⟩=some z0:=s0;have sf0:=(sp.below hb2).frozen (k*2);obtain ⟨z1,s1⟩:=sp.some hb2 hlt (show 1<zaa.sz by decide);have s1:w2.cell? ⟨w.heap.size,k*2+1,none⟩=some z1:=s1;have sf1:=(sp.below hb2).frozen (k*2+1);have N:=sp.next hb2 hlt o2 hb.size;have N2:Below w.heap.size w (stN w2 w.heap.size (k*zaa.sz) [.bool (x k).wiped,.slice bao1 (x k).blocks.1 bcap1]):=(hb.trans (hb2.mono hb.size)).trans (zaC (Nat.le_refl _) _ _);clear o2 hb2 sp hb
   go_wp2_with fail
   go_roundw
   case rel=>
    obtain ⟨ce',Ls',N⟩:=N;exact ⟨k+1,by omega,by go_num,ce',Ls',N,N2⟩
   case measure=>simp [intOf];omega
  ·obtain rfl:k=n:=by omega
   go_wp2;go_ret;exact ⟨_,rfl,sp.done (Nat.le_refl _),hb⟩
theorem zfd:ToS (zaa.slice 79) (szSl zam) 53:=fun v d hi w h hhi hn=>by
 have C:=zes v d hi w h hhi hn;obtain ⟨ao,cap,hv,hm,hc⟩:=h
 cases hv
 clear hm hc
 go_enter Tryz.func53,Tryz.ntmps53
 go_wp2_with fail
 refine C.mono ?_;rintro e w1 ⟨v1,rfl,o1,b1⟩;have HO:=hid o1;have HB:=hid b1;clear o1 b1 C;go_wp2;go_ret;exact ⟨v1,rfl,HO.out,HB.out⟩
theorem zdO:ToF ((zaa.slice 79).slice 76) (szSl (szSl zam)) 52 53:=fun v d hi w h hhi hn=>by
 obtain ⟨n,x⟩:=d;obtain ⟨ao,cap,hv,hm,hc⟩:=h
 cases hv
 have hn1:=zbJ hn;have hn2:∀ i,i<n→szSl zam (x i)≤1048576:=fun i hi=>zbb hn hi
 simp only at hn1 hm hc
 clear hn
 go_enter Tryz.func52,Tryz.ntmps52
 go_wp2_with (at_make;refine zbv (zaa.slice 79) [.slice none 0 0] _ 76 24 zdt.hs rfl Tryz.underlying31 zdt.hi x (fun _=>[]) _ rfl _ _ rfl _ _ n rfl rfl rfl rfl (by omega) (by omega) ?_;intro w1 sp1 hb1)
 go_loopw [12] (fun i wr=>∃ k:Nat,k≤n∧i=.int .i64 k∧∃ ce Ls,SlP (zaa.slice 79) 76 wr w.heap.size w.heap.size n n k x ce Ls∧Below w.heap.size w wr) (fun i _=>n-(intOf i).toNat)
 case atStart=>exact ⟨0,Nat.zero_le _,rfl,_,_,sp1,hb1⟩
 case round=>
  clear sp1 hb1;obtain ⟨k,hk,rfl,ce,Ls,sp,hb⟩:=hrel
  by_cases hlt:k<n
  ·obtain ⟨b,off,rfl,hblt,hel⟩:=hc (by omega)
   obtain ⟨ck,hrk,hcell⟩:=zap (t:=0) hel hb hhi hblt hlt;obtain ⟨ao1,cap1,rfl⟩:=zbg hrk
   have c0:wr.cell? ⟨b,off+k,none⟩=some (.slice ao1 (x k).1 cap1):=by
    have:=hcell 0 (by decide)
    have e:off+(k*(zaa.slice 79).sz+0)=off+k:=by show off+(k*1+0)=off+k;omega
    rw [e] at this;exact this
   clear hc hel hcell
   go_wp2_with fail
   refine (zfd _ (x k) hi wr hrk (Nat.le_trans hhi hb.size) (hn2 k hlt)).mono ?_;rintro e w2 ⟨v2,rfl,o2,hb2⟩;obtain ⟨bao1,bcap1,hv2⟩:=zbn o2;obtain rfl:=zaD hv2;obtain ⟨z0,s0⟩:=sp.some hb2 hlt (show 0<(zaa.slice 79).sz by decide)
   have e0:k*(zaa.slice 79).sz+0=k:=by show k*1+0=k;omega
   rw [e0] at s0;have sf0:=(sp.below hb2).frozen k;have N:=sp.next hb2 hlt o2 hb.size
   have e1:k*(zaa.slice 79).sz=k:=by show k*1=k;omega
   rw [e1] at N;have N2:Below w.heap.size w (stN w2 w.heap.size k [.slice bao1 (x k).1 bcap1]):=(hb.trans (hb2.mono hb.size)).trans (zaC (Nat.le_refl _) _ _);clear o2 hb2 sp hb hv2
   go_wp2_with fail
   go_roundw
   case rel=>
    obtain ⟨ce',Ls',N⟩:=N;exact ⟨k+1,by omega,by go_num,ce',Ls',N,N2⟩
   case measure=>simp [intOf];omega
  ·obtain rfl:k=n:=by omega
   go_wp2;go_ret;exact ⟨_,rfl,sp.done (Nat.le_refl _),hb⟩
set_option maxRecDepth 20000 in
theorem zfe:ToV zae za1 25:=fun cs d hi w r hhi hn=>by
 obtain ⟨ao1,cap1,ao2,cap2,ao3,cap3,rfl,h1,h2,h3,k0,k4,k5⟩:=zaN r;clear r;unfold za1 at hn;have R1:=hid h1;have R2:=hid h2;have R3:=hid h3;clear h1 h2 h3;have Q0:=hid k0;have Q4:=hid k4;have Q5:=hid k5;clear k0 k4 k5;have T0:=zay w (rwW d ao1 cap1 ao2 cap2 ao3 cap3).toArray (rwV 0 0 0 0 0 0 0 0 0 none 0 0 none 0 0 none 0 0 0 0 false).toArray 34 34
 go_enter Tryz.func25,Tryz.ntmps25
 go_wp2_with fail
 refine (zdO _ d.groups hi _ (((zaa.slice 79).slice 76).rd_below R1.out T0.bel hhi) (Nat.le_trans hhi T0.bel.size) (by omega)).mono ?_;rintro e w1 ⟨v0,rfl,o0,b0⟩;obtain ⟨bo1,bcap1,hv⟩:=zbn o0;obtain rfl:=zaD hv;clear hv;have T0c:=T0.call b0;have z0:=T0.b2.lt;have y0:=b0.size;have c0_9:w1.cell? ⟨w.heap.size,9,none⟩=some (.slice ao1 d.groups.1 cap1):=T0c.b1.cell 9;have c0f_9:w1.frozen? ⟨w.heap.size,9,none⟩=false:=T0c.b1.frozen 9;have T1x:Two w (w1.setCell ⟨w.heap.size,9,none⟩ (.slice bo1 d.groups.1 bcap1)) (rwW d bo1 bcap1 ao2 cap2 ao3 cap3).toArray (rwV 0 0 0 0 0 0 0 0 0 none 0 0 none 0 0 none 0 0 0 0 false).toArray 34 34:=⟨T0c.b1.stL [.slice bo1 d.groups.1 bcap1] 9,T0c.b2.seto _ _ (by omega),T0c.bel.setCell (Nat.le_refl _) _⟩;have O1_0:=(o0.stN w.heap.size 9 [.slice bo1 d.groups.1 bcap1] (by omega))
 have e1:(w1.setCell ⟨w.heap.size,9,none⟩ (.slice bo1 d.groups.1 bcap1)).heap.size=w1.heap.size:=by simp
 clear o0 b0
 go_upto_region 2 with fail
 obtain ⟨W1,hW1⟩:∃ x,x=w1.setCell ⟨w.heap.size,9,none⟩ (.slice bo1 d.groups.1 bcap1):=⟨_,rfl⟩
 have O1:Hid (OwnT ((zaa.slice 79).slice 76) W1 (w.heap.size+1+1) (w1.heap.size) d.groups [.slice bo1 d.groups.1 bcap1]):=by rw [hW1];exact OwnT.weaken O1_0 (by simp) (Nat.le_refl _)
 rw [← hW1] at T1x e1 ⊢;clear hW1 O1_0 T0c c0_9 c0f_9;have a1_10:W1.cell? ⟨w.heap.size,10,none⟩=some (.slice ao2 d.on.1 cap2):=T1x.b1.cell 10
 go_wp2_with fail
 refine (zdz _ d.on hi _ (zah.rd_below R2.out T1x.bel hhi) (Nat.le_trans hhi T1x.bel.size) (by omega)).mono ?_;rintro e w2 ⟨v1,rfl,o1,b1⟩;obtain ⟨bo2,bcap2,hv⟩:=zbE o1;obtain rfl:=zaD hv;clear hv;have T1c:=T1x.call b1;have z1:=T1x.b2.lt;have y1:=b1.size;have c1_10:w2.cell? ⟨w.heap.size,10,none⟩=some (.slice ao2 d.on.1 cap2):=T1c.b1.cell 10;have c1f_10:w2.frozen? ⟨w.heap.size,10,none⟩=false:=T1c.b1.frozen 10;have T2x:Two w (w2.setCell ⟨w.heap.size,10,none⟩ (.slice bo2 d.on.1 bcap2)) (rwW d bo1 bcap1 bo2 bcap2 ao3 cap3).toArray (rwV 0 0 0 0 0 0 0 0 0 none 0 0 none 0 0 none 0 0 0 0 false).toArray 34 34:=⟨T1c.b1.stL [.slice bo2 d.on.1 bcap2] 10,T1c.b2.seto _ _ (by omega),T1c.bel.setCell (Nat.le_refl _) _⟩;have O1_1:=(O1.out.call b1).stN w.heap.size 10 [.slice bo2 d.on.1 bcap2] (by omega);have O2_1:=(o1.stN w.heap.size 10 [.slice bo2 d.on.1 bcap2] (by omega))
 have e2:(w2.setCell ⟨w.heap.size,10,none⟩ (.slice bo2 d.on.1 bcap2)).heap.size=w2.heap.size:=by simp
 clear o1 b1 O1 T1x a1_10
 go_upto_region 3 with fail
 obtain ⟨W2,hW2⟩:∃ x,x=w2.setCell ⟨w.heap.size,10,none⟩ (.slice bo2 d.on.1 bcap2):=⟨_,rfl⟩
 have O1:Hid (OwnT ((zaa.slice 79).slice 76) W2 (w.heap.size+1+1) (w1.heap.size) d.groups [.slice bo1 d.groups.1 bcap1]):=by rw [hW2];exact O1_1
 have O2:Hid (OwnT zah W2 (W1.heap.size) (w2.heap.size) d.on [.slice bo2 d.on.1 bcap2]):=by rw [hW2];exact O2_1
 rw [← hW2] at T2x e2 ⊢;clear hW2 O1_1 O2_1 T1c c1_10 c1f_10;have a2_11:W2.cell? ⟨w.heap.size,11,none⟩=some (.slice ao3 d.tapes.1 cap3):=T2x.b1.cell 11
 go_wp2_with fail
 refine (ze8 _ d.tapes hi _ ((zag.slice 71).rd_below R3.out T2x.bel hhi) (Nat.le_trans hhi T2x.bel.size) (by omega)).mono ?_;rintro e w3 ⟨v2,rfl,o2,b2⟩;obtain ⟨bo3,bcap3,hv⟩:=zbn o2;obtain rfl:=zaD hv;clear hv;have T2c:=T2x.call b2;have z2:=T2x.b2.lt;have y2:=b2.size;have c2_11:w3.cell? ⟨w.heap.size,11,none⟩=some (.slice ao3 d.tapes.1 cap3):=T2c.b1.cell 11;have c2f_11:w3.frozen? ⟨w.heap.size,11,none⟩=false:=T2c.b1.frozen 11;have T3x:Two w (w3.setCell ⟨w.heap.size,11,none⟩ (.slice bo3 d.tapes.1 bcap3)) (rwW d bo1 bcap1 bo2 bcap2 bo3 bcap3).toArray (rwV 0 0 0 0 0 0 0 0 0 none 0 0 none 0 0 none 0 0 0 0 false).toArray 34 34:=⟨T2c.b1.stL [.slice bo3 d.tapes.1 bcap3] 11,T2c.b2.seto _ _ (by omega),T2c.bel.setCell (Nat.le_refl _) _⟩;have O1_2:=(O1.out.call b2).stN w.heap.size 11 [.slice bo3 d.tapes.1 bcap3] (by omega);have O2_2:=(O2.out.call b2).stN w.heap.size 11 [.slice bo3 d.tapes.1 bcap3] (by omega);have O3_2:=(o2.stN w.heap.size 11 [.slice bo3 d.tapes.1 bcap3] (by omega))
 have e3:(w3.setCell ⟨w.heap.size,11,none⟩ (.slice bo3 d.tapes.1 bcap3)).heap.size=w3.heap.size:=by simp
 clear o2 b2 O1 O2 T2x a2_11
 go_upto_region 4 with fail
 obtain ⟨W3,hW3⟩:∃ x,x=w3.setCell ⟨w.heap.size,11,none⟩ (.slice bo3 d.tapes.1 bcap3):=⟨_,rfl⟩
 have O1:Hid (OwnT ((zaa.slice 79).slice 76) W3 (w.heap.size+1+1) (w1.heap.size) d.groups [.slice bo1 d.groups.1 bcap1]):=by rw [hW3];exact O1_2
 have O2:Hid (OwnT zah W3 (W1.heap.size) (w2.heap.size) d.on [.slice bo2 d.on.1 bcap2]):=by rw [hW3];exact O2_2
 have O3:Hid (OwnT (zag.slice 71) W3 (W2.heap.size) (w3.heap.size) d.tapes [.slice bo3 d.tapes.1 bcap3]):=by rw [hW3];exact O3_2
 rw [← hW3] at T3x e3 ⊢;clear hW3 O1_2 O2_2 O3_2 T2c c2_11 c2f_11;have y_0:W3.cell? ⟨w.heap.size,0,none⟩=some (.int .i64 (d.shape 0)):=T3x.b1.cell 0;have y_1:W3.cell? ⟨w.heap.size,1,none⟩=some (.int .i64 (d.shape 1)):=T3x.b1.cell 1;have y_2:W3.cell? ⟨w.heap.size,2,none⟩=some (.int .i64 (d.shape 2)):=T3x.b1.cell 2;have y_3:W3.cell? ⟨w.heap.size,3,none⟩=some (.int .i64 (d.shape 3)):=T3x.b1.cell 3;have y_4:W3.cell? ⟨w.heap.size,4,none⟩=some (.int .i64 (d.shape 4)):=T3x.b1.cell 4;have y_5:W3.cell? ⟨w.heap.size,5,none⟩=some (.int .i64 (d.shape 5)):=T3x.b1.cell 5;have y_6:W3.cell? ⟨w.heap.size,6,none⟩=some (.int .i64 (d.shape 6)):=T3x.b1.cell 6;have y_7:W3.cell? ⟨w.heap.size,7,none⟩=some (.int .i64 (d.shape 7)):=T3x.b1.cell 7;have y_8:W3.cell? ⟨w.heap.size,8,none⟩=some (.int .i64 (d.shape 8)):=T3x.b1.cell 8;have y_9:W3.cell? ⟨w.heap.size,9,none⟩=some (.slice bo1 d.groups.1 bcap1):=T3x.b1.cell 9;have y_10:W3.cell? ⟨w.heap.size,10,none⟩=some (.slice bo2 d.on.1 bcap2):=T3x.b1.cell 10;have y_11:W3.cell? ⟨w.heap.size,11,none⟩=some (.slice bo3 d.tapes.1 bcap3):=T3x.b1.cell 11;have y_12:W3.cell? ⟨w.heap.size,12,none⟩=some (.int .i64 d.writes):=T3x.b1.cell 12;have y_13:W3.cell? ⟨w.heap.size,13,none⟩=some (.int .i64 d.stop):=T3x.b1.cell 13;have y_14:W3.cell? ⟨w.heap.size,14,none⟩=some (.bool d.down):=T3x.b1.cell 14;have r_0:W3.cell? ⟨w.heap.size+1,0,none⟩=some (.int .i64 0):=T3x.b2.cell 0;have rf_0:W3.frozen? ⟨w.heap.size+1,0,none⟩=false:=T3x.b2.frozen 0;have r_1:W3.cell? ⟨w.heap.size+1,1,none⟩=some (.int .i64 0):=T3x.b2.cell 1;have rf_1:W3.frozen? ⟨w.heap.size+1,1,none⟩=false:=T3x.b2.frozen 1;have r_2:W3.cell? ⟨w.heap.size+1,2,none⟩=some (.int .i64 0):=T3x.b2.cell 2;have rf_2:W3.frozen? ⟨w.heap.size+1,2,none⟩=false:=T3x.b2.frozen 2;have r_3:W3.cell? ⟨w.heap.size+1,3,none⟩=some (.int .i64 0):=T3x.b2.cell 3;have rf_3:W3.frozen? ⟨w.heap.size+1,3,none⟩=false:=T3x.b2.frozen 3;have r_4:W3.cell? ⟨w.heap.size+1,4,none⟩=some (.int .i64 0):=T3x.b2.cell 4;have rf_4:W3.frozen? ⟨w.heap.size+1,4,none⟩=false:=T3x.b2.frozen 4;have r_5:W3.cell? ⟨w.heap.size+1,5,none⟩=some (.int .i64 0):=T3x.b2.cell 5;have rf_5:W3.frozen? ⟨w.heap.size+1,5,none⟩=false:=T3x.b2.frozen 5;have r_6:W3.cell? ⟨w.heap.size+1,6,none⟩=some (.int .i64 0):=T3x.b2.cell 6;have rf_6:W3.frozen? ⟨w.heap.size+1,6,none⟩=false:=T3x.b2.frozen 6;have r_7:W3.cell? ⟨w.heap.size+1,7,none⟩=some (.int .i64 0):=T3x.b2.cell 7;have rf_7:W3.frozen? ⟨w.heap.size+1,7,none⟩=false:=T3x.b2.frozen 7;have r_8:W3.cell? ⟨w.heap.size+1,8,none⟩=some (.int .i64 0):=T3x.b2.cell 8;have rf_8:W3.frozen? ⟨w.heap.size+1,8,none⟩=false:=T3x.b2.frozen 8;have r_9:W3.cell? ⟨w.heap.size+1,9,none⟩=some (.slice none 0 0):=T3x.b2.cell 9;have rf_9:W3.frozen? ⟨w.heap.size+1,9,none⟩=false:=T3x.b2.frozen 9
 have r_10:W3.cell? ⟨w.heap.size+1,10,none⟩=some (.slice none 0 0):=T3x.b2.cell 10;have rf_10:W3.frozen? ⟨w.heap.size+1,10,none⟩=false:=T3x.b2.frozen 10;have r_11:W3.cell? ⟨w.heap.size+1,11,none⟩=some (.slice none 0 0):=T3x.b2.cell 11;have rf_11:W3.frozen? ⟨w.heap.size+1,11,none⟩=false:=T3x.b2.frozen 11;have r_12:W3.cell? ⟨w.heap.size+1,12,none⟩=some (.int .i64 0):=T3x.b2.cell 12;have rf_12:W3.frozen? ⟨w.heap.size+1,12,none⟩=false:=T3x.b2.frozen 12;have r_13:W3.cell? ⟨w.heap.size+1,13,none⟩=some (.int .i64 0):=T3x.b2.cell 13;have rf_13:W3.frozen? ⟨w.heap.size+1,13,none⟩=false:=T3x.b2.frozen 13;have r_14:W3.cell? ⟨w.heap.size+1,14,none⟩=some (.bool false):=T3x.b2.cell 14;have rf_14:W3.frozen? ⟨w.heap.size+1,14,none⟩=false:=T3x.b2.frozen 14;have HB:=hid T3x.bel;have zz:=T3x.b2.lt;clear T3x;go_wp2;refine bodyPost_ret (v:=.agg (rwW d bo1 bcap1 bo2 bcap2 bo3 bcap3).toArray) (by simp [results,Tryz.results25,go_sem,r_0,y_0,r_1,y_1,r_2,y_2,r_3,y_3,r_4,y_4,r_5,y_5,r_6,y_6,r_7,y_7,r_8,y_8,r_9,y_9,r_10,y_10,r_11,y_11,r_12,y_12,r_13,y_13,r_14,y_14]) rfl ?_;have F:OwnT zae W3 (w.heap.size+1+1) w3.heap.size d ((rwS d.shape)++([.slice bo1 d.groups.1 bcap1]++([.slice bo2 d.on.1 bcap2]++([.slice bo3 d.tapes.1 bcap3]++([.int .i64 d.writes]++([.int .i64 d.stop]++[.bool d.down])))))):=OwnT.conv (OwnT.pre (A:=(zcU 9)) (a:=d.shape) (c:=(rwS d.shape)) ⟨rfl,Q0.out,rfl⟩ (OwnT.two O1.out (OwnT.two O2.out (OwnT.two O3.out (OwnT.pre (A:=layI) (a:=d.writes) (c:=[.int .i64 d.writes]) ⟨rfl,Q4.out,rfl⟩ (OwnT.pre (A:=layI) (a:=d.stop) (c:=[.int .i64 d.stop]) ⟨rfl,Q5.out,rfl⟩ (OwnT.nil (A:=layB) (a:=d.down) (c:=[.bool d.down]) ⟨rfl,trivial,rfl⟩ _ _))) (Nat.le_refl _) (by omega) (by omega)) (by omega) (by omega) (by omega)) (by omega) (by omega) (by omega)));refine ⟨(rwW d bo1 bcap1 bo2 bcap2 bo3 bcap3),rfl,?_,?_⟩
 ·exact OwnT.finb (F.weaken (Nat.le_refl _) (by omega)) (b:=w.heap.size+1) (by omega) (by omega) 0 (rwW d bo1 bcap1 bo2 bcap2 bo3 bcap3) _ rfl
 ·exact HB.out.trans (zaC (by omega) (rwW d bo1 bcap1 bo2 bcap2 bo3 bcap3) 0)
set_option maxRecDepth 20000 in
theorem zet (d:WorldD) (s:Int) (cs:List Value) (hi:Nat) (w:World) (h:zae.rd w hi d cs) (hhi:hi≤w.heap.size) (hsz:za1 d≤1048576) (hs:-9223372036854775808≤s∧s≤9223372036854775807) :
 Calls Tryz.prog 7 #[.agg cs.toArray,.int .i64 s] w (zdu (RaiseAns d s) w):=by
 obtain ⟨v0,v1,v2,v3,v4,v5,v6,v7,v8,vp0,vl0,vq0,vp1,vl1,vq1,vp2,vl2,vq2,v9,v10,vb,rfl⟩:=zem h;have HRD:=hid h;have HSZ:=hid hsz;have Hs:=hid hs;clear h hsz hs;have T0:=zay w (rwV v0 v1 v2 v3 v4 v5 v6 v7 v8 vp0 vl0 vq0 vp1 vl1 vq1 vp2 vl2 vq2 v9 v10 vb).toArray rwZ.toArray 34 36
 go_enter Tryz.func7,Tryz.ntmps7
 go_wp2_with (refine zau 34 (.tmp 2) rfl rfl (w.heap.size) rfl (T0.b1) Tryz.underlying34 zco rfl ?_)
 refine (zel d _ hi _ (zae.rd_below HRD.out T0.bel hhi) (Nat.le_trans hhi T0.bel.size) (zc7 HSZ.out)).mono ?_;rintro e w1 ⟨x,rfl,hx,b1⟩;have HT1:=hid (T0.call b1);have HX:=hid hx;have z1:w.heap.size+1<w1.heap.size:=HT1.out.b2.lt;clear b1 T0 hx
 by_cases hx0:x=0
 case neg=>
  have hne:(x != 0)=true:=by simp [hx0]
  go_wp2_with (refine za2 36 _ _ rfl rfl (w.heap.size+1) rfl (cs:=(.int .i64 x::rwY)) rfl (HT1.out.b2) zaS rfl rfl (zcy _ (zcS HX.out) w) ?_;intro w9 X9 C9 z9)
  refine zb1 Tryz.results7 rfl X9 Tryz.underlying36 zaS rfl rfl ?_;exact zbU (zcS HX.out) HT1.out.bel C9 (.inl ⟨x,hx0,HX.out,rfl⟩)
 subst hx0;obtain ⟨t,ht⟩:=exB (InP s (-1) 1000000000);have HT:=hid ht;have CI:=fun w'=>zaL (show (-1:Int)≤1000000000 by decide) ht w';clear ht
 go_wp2_with fail
 refine (CI _).mono ?_;rintro e w1' ⟨rfl,e1⟩;obtain rfl:=e1.symm;clear CI
 cases t with
 | false=>
  go_wp2_with (refine za2 36 _ _ rfl rfl (w.heap.size+1) rfl (cs:=(.int .i64 3::rwY)) rfl (HT1.out.b2) zaS rfl rfl (zcy _ (by decide) w) ?_;intro w9 X9 C9 z9)
  refine zb1 Tryz.results7 rfl X9 Tryz.underlying36 zaS rfl rfl ?_;exact zbU (by decide) HT1.out.bel C9 (.inr ⟨HX.out,.inl ⟨fun h=>(by have:=HT.out.2 h;cases this),rfl⟩⟩)
 | true=>
 have c14:w1.cell? ⟨w.heap.size,14,none⟩=some (.bool vb):=HT1.out.b1.cell 14;have HV:=hid (zhj HRD.out)
 cases vb with
 | false=>
  go_wp2_with (refine za2 36 _ _ rfl rfl (w.heap.size+1) rfl (cs:=(.int .i64 1::rwY)) rfl (HT1.out.b2) zaS rfl rfl (zcy _ (by decide) w) ?_;intro w9 X9 C9 z9)
  refine zb1 Tryz.results7 rfl X9 Tryz.underlying36 zaS rfl rfl ?_;exact zbU (by decide) HT1.out.bel C9 (.inr ⟨HX.out,.inr ⟨HT.out.1 (by simp),.inl ⟨HV.out.symm,rfl⟩⟩⟩)
 | true=>
 go_wp2_with (refine zau 34 (.tmp 2) rfl rfl (w.heap.size) rfl (HT1.out.b1) Tryz.underlying34 zco rfl ?_)
 refine (zfe _ d hi _ (zae.rd_below HRD.out HT1.out.bel hhi) (Nat.le_trans hhi HT1.out.bel.size) HSZ.out).mono ?_;rintro e w2 ⟨c2,rfl,o2,b2⟩;obtain ⟨u0,u1,u2,u3,u4,u5,u6,u7,u8,up0,ul0,uq0,up1,ul1,uq1,up2,ul2,uq2,u9,u10,ub,rfl⟩:=zen o2;have z2:w1.heap.size≤w2.heap.size:=b2.size
 go_upto_region 9 with (refine zbd 34 6 (.tmp 22) _ _ 15 rfl rfl rfl rfl rfl rfl rfl rfl zg6 rfl rfl o2.one ?_)
 have bA:=bAl w2 (.cells (rwV u0 u1 u2 u3 u4 u5 u6 u7 u8 up0 ul0 uq0 up1 ul1 uq1 up2 ul2 uq2 u9 u10 ub).toArray 34);have X3:=zaF w2 (rwV u0 u1 u2 u3 u4 u5 u6 u7 u8 up0 ul0 uq0 up1 ul1 uq1 up2 ul2 uq2 u9 u10 ub).toArray 34;obtain ⟨W3,hW3⟩:∃ x,x=w2.alloc (.cells (rwV u0 u1 u2 u3 u4 u5 u6 u7 u8 up0 ul0 uq0 up1 ul1 uq1 up2 ul2 uq2 u9 u10 ub).toArray 34):=⟨_,rfl⟩;rw [← hW3] at bA X3 ⊢;have T3:=(HT1.out.call b2).call bA;have O3:=o2.call bA;have z3:w2.heap.size<W3.heap.size:=X3.lt;clear bA hW3 o2 b2;have y0:W3.cell? ⟨w2.heap.size,14,none⟩=some (.bool ub):=X3.cell 14;have yf0:W3.frozen? ⟨w2.heap.size,14,none⟩=false:=X3.frozen 14;have X3_0:Box (W3.setCell ⟨w2.heap.size,14,none⟩ (.bool false)) w2.heap.size (rwV u0 u1 u2 u3 u4 u5 u6 u7 u8 up0 ul0 uq0 up1 ul1 uq1 up2 ul2 uq2 u9 u10 false).toArray 34:=X3.setc 14 (.bool false);have y1:(W3.setCell ⟨w2.heap.size,14,none⟩ (.bool false)).cell? ⟨w2.heap.size,12,none⟩=some (.int .i64 u9):=X3_0.cell 12;have yf1:(W3.setCell ⟨w2.heap.size,14,none⟩ (.bool false)).frozen? ⟨w2.heap.size,12,none⟩=false:=X3_0.frozen 12;have X3_1:Box ((W3.setCell ⟨w2.heap.size,14,none⟩ (.bool false)).setCell ⟨w2.heap.size,12,none⟩ (.int .i64 0)) w2.heap.size (rwV u0 u1 u2 u3 u4 u5 u6 u7 u8 up0 ul0 uq0 up1 ul1 uq1 up2 ul2 uq2 0 u10 false).toArray 34:=X3_0.setc 12 (.int .i64 0);have y2:((W3.setCell ⟨w2.heap.size,14,none⟩ (.bool false)).setCell ⟨w2.heap.size,12,none⟩ (.int .i64 0)).cell? ⟨w2.heap.size,13,none⟩=some (.int .i64 u10):=X3_1.cell 13;have yf2:((W3.setCell ⟨w2.heap.size,14,none⟩ (.bool false)).setCell ⟨w2.heap.size,12,none⟩ (.int .i64 0)).frozen? ⟨w2.heap.size,13,none⟩=false:=X3_1.frozen 13;have X3_2:Box (((W3.setCell ⟨w2.heap.size,14,none⟩ (.bool false)).setCell ⟨w2.heap.size,12,none⟩ (.int .i64 0)).setCell ⟨w2.heap.size,13,none⟩ (.int .i64 s)) w2.heap.size (rwV u0 u1 u2 u3 u4 u5 u6 u7 u8 up0 ul0 uq0 up1 ul1 uq1 up2 ul2 uq2 0 s false).toArray 34:=X3_1.setc 13 (.int .i64 s)
 have CC:ChgL [w2.heap.size] W3 (((W3.setCell ⟨w2.heap.size,14,none⟩ (.bool false)).setCell ⟨w2.heap.size,12,none⟩ (.int .i64 0)).setCell ⟨w2.heap.size,13,none⟩ (.int .i64 s)):=(((ChgL.refl _ _).st _ 14 (.bool false) (by simp)).st _ 12 (.int .i64 0) (by simp)).st _ 13 (.int .i64 s) (by simp);have T5:=T3.chgl CC (by omega);have O5:=(ze5 s Hs.out O3).chgk CC (fun b hb=>by simp at hb;omega);have HB:=hid T5.bel;have z5:=CC.size
 go_wp2_with (first | (refine zau 34 (.tmp 6) rfl rfl (w2.heap.size) rfl (X3_2) Tryz.underlying34 zco rfl ?_) | (refine za2 36 _ _ rfl rfl (w.heap.size+1) rfl (cs:=(.int .i64 0::rwV u0 u1 u2 u3 u4 u5 u6 u7 u8 up0 ul0 uq0 up1 ul1 uq1 up2 ul2 uq2 0 s false)) rfl (T5.b2) zaS rfl rfl ((zcP 0 (by decide) O5).one) ?_;intro w9 X9 C9 z9))
 refine zb1 Tryz.results7 rfl X9 Tryz.underlying36 zaS rfl rfl ?_;exact zdV (by decide) T5.bel C9 O5 (by omega) (by omega) (.inr ⟨HX.out,.inr ⟨HT.out.1 (by simp),.inr ⟨HV.out.symm,rfl⟩⟩⟩)
end Go.Proofs.YtccmhgeigkmicaaGreat
