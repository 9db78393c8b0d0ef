/- Which item comes next: the one of the least Seq among those that fit, the first of those. -/
import Derived.Test.YtmehgpcmoejfcaaGreatZPnextdao
set_option linter.unusedVariables false
set_option linter.unusedSimpArgs false
set_option maxHeartbeats 16000000
namespace Go.Proofs.YtmehgpcmoejfcaaGreat
open Go.RowKit
def NdB (c:Nat→Prop) (sq:Nat→Int) (z:Int):Prop:=(z=-1∧∀ j,¬ c j)∨∃ k:Nat,z=(k:Int)∧c k∧∀ j,c j→j=k∨sq k<sq j∨(sq k=sq j∧k<j)
theorem NdB.one {c:Nat→Prop} {sq:Nat→Int} {y z:Int} (h:NdB c sq y) (k:NdB c sq z):y=z:=by
 rcases h with ⟨rfl,h⟩ | ⟨a,rfl,ha,h⟩<;>rcases k with ⟨rfl,k⟩ | ⟨b,rfl,hb,k⟩
 ·rfl
 ·exact absurd hb (h b)
 ·exact absurd ha (k a)
 ·rcases h b hb with e | e | ⟨e1,e2⟩<;>rcases k a ha with f | f | ⟨f1,f2⟩<;>omega
def NdU (c:Nat→Prop) (sq:Nat→Int) (n:Nat) (z:Int):Prop:=(z=-1∧∀ j,j<n→¬ c j)∨∃ k:Nat,k<n∧z=(k:Int)∧c k∧∀ j,j<n→c j→j=k∨sq k<sq j∨(sq k=sq j∧k<j)
theorem NdU.nil (c:Nat→Prop) (sq:Nat→Int):NdU c sq 0 (-1):=.inl ⟨rfl,fun j hj=>by omega⟩
theorem NdU.skip {c:Nat→Prop} {sq:Nat→Int} {n:Nat} {z:Int} (h:NdU c sq n z) (hc:¬ c n):NdU c sq (n+1) z:=by
 rcases h with ⟨rfl,h⟩ | ⟨k,hk,rfl,ck,h⟩
 ·exact .inl ⟨rfl,fun j hj=>by
   by_cases e:j=n
   ·rw [e];exact hc
   ·exact h j (by omega)⟩
 ·exact .inr ⟨k,by omega,rfl,ck,fun j hj cj=>by
   by_cases e:j=n
   ·exact absurd (e ▸ cj) hc
   ·exact h j (by omega) cj⟩
theorem NdU.first {c:Nat→Prop} {sq:Nat→Int} {n:Nat} (h:NdU c sq n (-1)) (hc:c n):NdU c sq (n+1) (n:Int):=by
 rcases h with ⟨_,h⟩ | ⟨k,_,e,_⟩
 ·exact .inr ⟨n,by omega,rfl,hc,fun j hj cj=>by
   by_cases e:j=n
   ·exact .inl e
   ·exact absurd cj (h j (by omega))⟩
 ·omega
theorem NdU.less {c:Nat→Prop} {sq:Nat→Int} {n k:Nat} (h:NdU c sq n (k:Int)) (hc:c n) (hl:sq n<sq k):NdU c sq (n+1) (n:Int):=by
 rcases h with ⟨e,_⟩ | ⟨k',hk,e,ck,h⟩
 ·omega
 ·obtain rfl:k=k':=by omega
  exact .inr ⟨n,by omega,rfl,hc,fun j hj cj=>by
   by_cases e:j=n
   ·exact .inl e
   ·rcases h j (by omega) cj with f | f | ⟨f,_⟩
    ·rw [f];exact .inr (.inl hl)
    ·exact .inr (.inl (by omega))
    ·exact .inr (.inl (by omega))⟩
theorem NdU.more {c:Nat→Prop} {sq:Nat→Int} {n k:Nat} (h:NdU c sq n (k:Int)) (hl:¬ sq n<sq k):NdU c sq (n+1) (k:Int):=by
 rcases h with ⟨e,_⟩ | ⟨k',hk,e,ck,h⟩
 ·omega
 ·obtain rfl:k=k':=by omega
  exact .inr ⟨k,by omega,rfl,ck,fun j hj cj=>by
   by_cases e:j=n
   ·rw [e]
    by_cases f:sq k=sq n
    ·exact .inr (.inr ⟨f,by omega⟩)
    ·exact .inr (.inl (by omega))
   ·exact h j (by omega) cj⟩
theorem NdU.all {c:Nat→Prop} {sq:Nat→Int} {n:Nat} {z:Int} (h:NdU c sq n z) (hc:∀ j,c j→j<n):NdB c sq z:=by
 rcases h with ⟨rfl,h⟩ | ⟨k,hk,rfl,ck,h⟩
 ·exact .inl ⟨rfl,fun j cj=>h j (hc j cj) cj⟩
 ·exact .inr ⟨k,rfl,ck,fun j cj=>h j (hc j cj) cj⟩
theorem zlh {c c0:Nat→Prop} {sq:Nat→Int} {n i:Nat} {f q:Nat→Nat} (hi:i<n) (hf:∀ a b,a<b→b<n→f a<f b) (hc:∀ j,c j↔∃ a,a<n∧f a=j∧c0 j)
 (hq:∀ a,a<n→∃ b,b<n∧q b=a) (hqn:∀ a,a<n→q a<n) (hs:∀ a b,a<b→b<n→sq (f (q a))<sq (f (q b))∨(sq (f (q a))=sq (f (q b))∧q a<q b))
 (hfit:c0 (f (q i))) (hno:∀ a,a<i→¬ c0 (f (q a))):NdB c sq ((f (q i):Nat):Int):=by
 refine .inr ⟨f (q i),rfl,(hc _).2 ⟨q i,hqn i hi,rfl,hfit⟩,fun j cj=>?_⟩;obtain ⟨a,ha,rfl,h0⟩:=(hc j).1 cj;obtain ⟨b,hb,rfl⟩:=hq a ha
 by_cases e:b=i
 ·exact .inl (by rw [e])
 ·by_cases e2:b<i
  ·exact absurd h0 (hno b e2)
  ·rcases hs i b (by omega) hb with h | ⟨h1,h2⟩
   ·exact .inr (.inl h)
   ·exact .inr (.inr ⟨h1,hf _ _ h2 ha⟩)
theorem zmA {c c0:Nat→Prop} {sq:Nat→Int} {n:Nat} {f q:Nat→Nat} (hc:∀ j,c j↔∃ a,a<n∧f a=j∧c0 j) (hq:∀ a,a<n→∃ b,b<n∧q b=a) (hno:∀ a,a<n→¬ c0 (f (q a))):NdB c sq (-1):=by
 refine .inl ⟨rfl,fun j cj=>?_⟩;obtain ⟨a,ha,rfl,h0⟩:=(hc j).1 cj;obtain ⟨b,hb,rfl⟩:=hq a ha;exact hno b hb h0
end Go.Proofs.YtmehgpcmoejfcaaGreat
namespace Go.Proofs.YtmehgpcmoejfcaaGreat
open Go.RowKit F256
end Go.Proofs.YtmehgpcmoejfcaaGreat
namespace Go.Proofs.YtmehgpcmoejfcaaGreat
def zcz (p:Nat→Bool) (n:Nat):List Nat:=(List.range n).filter p
theorem zcA (p:Nat→Bool) (n:Nat):zcz p (n+1)=zcz p n++(if p n then [n] else []):=by
 unfold zcz;rw [List.range_succ,List.filter_append]
 cases h:p n<;>simp [h]
theorem zli (p:Nat→Bool) (n:Nat):(zcz p n).length≤n:=by
 have:=List.length_filter_le p (List.range n);unfold zcz
 simpa using this
def ziD (p:Nat→Bool) (n:Nat):Nat→Nat:=fun m=>(zcz p n).getD m 0
theorem zkb {p:Nat→Bool} {n m:Nat} (h:m<(zcz p n).length):ziD p (n+1) m=ziD p n m:=by
 unfold ziD;rw [zcA,List.getD_eq_getElem?_getD,List.getD_eq_getElem?_getD,List.getElem?_append_left h]
theorem zkc {p:Nat→Bool} {n:Nat} (h:p n=true):ziD p (n+1) (zcz p n).length=n:=by
 unfold ziD;rw [zcA,List.getD_eq_getElem?_getD,List.getElem?_append_right (Nat.le_refl _),Nat.sub_self,if_pos h];rfl
theorem zhC {p:Nat→Bool} {n:Nat} (h:p n=false):zcz p (n+1)=zcz p n:=by rw [zcA,if_neg (by simp [h])];simp
end Go.Proofs.YtmehgpcmoejfcaaGreat
namespace Go.Proofs.YtmehgpcmoejfcaaGreat
open Go.RowKit F256
theorem zgw {p:Nat→Bool} {k:Nat} (hp:p k=true):∀ n,k<n→ziD p n (zcz p k).length=k∧(zcz p k).length<(zcz p n).length
 | 0,h=>by omega
 | n+1,h=>by
  by_cases c:k=n
  ·subst c
   exact ⟨zkc hp,by rw [zcA,if_pos hp];simp⟩
  ·obtain ⟨h1,h2⟩:=zgw hp n (by omega)
   exact ⟨(zkb h2).trans h1,by rw [zcA,List.length_append];omega⟩
end Go.Proofs.YtmehgpcmoejfcaaGreat
namespace Go.Proofs.YtmehgpcmoejfcaaGreat
open Go.RowKit F256
theorem el_I:ElInfo layI 25 2 8 [.int .i64 0]:=⟨by decide,rfl,Tryz.underlying25,by kernel_rfl,by decide⟩
theorem zmB:zeK layI:=zbP _ _ _
theorem zja {w:World} {lo n:Nat} {v:Value} {x:Nat→Int} {ce:Nat→List Value} (h:View layI 2 w lo 0 v n x ce):RdI w w.heap.size v n x:=by
 obtain ⟨ao,cap,hv,hm,hc⟩:=h.rd (Nat.zero_le _);refine ⟨ao,cap,by simpa using hv,hm,fun h0=>?_⟩;obtain ⟨b,off,e1,e2,e3⟩:=hc h0;refine ⟨b,off,e1,e2,fun i hi=>?_⟩;obtain ⟨cs,⟨rfl,_⟩,hcell⟩:=e3 i hi;have:=hcell 0 (show 0<1 by decide);rw [show layI.sz=1 from rfl,Nat.mul_one,Nat.add_zero] at this;exact this
theorem zjb {w:World} {hi m cap:Nat} {f:Nat→Int} {ao:Option Addr} (h:zam.rd w hi (m,f) [.slice ao m cap]):Src layI w 0 ao m f (fun i=>[.int .i64 (f i)])∧(ao=none→cap=0∨m=0):=by
 obtain ⟨v,hv,⟨⟨ao',cap',hv',_,hc⟩,_⟩,hb⟩:=h
 obtain rfl:v=.slice ao m cap:=by simpa using hv.symm
 simp only [Value.slice.injEq,true_and] at hv'
 obtain ⟨rfl,rfl⟩:=hv';refine ⟨⟨fun h0=>?_,fun j hj=>⟨rfl,hb j⟩⟩,fun e=>?_⟩
 ·obtain ⟨b,off,e1,e2,e3⟩:=hc h0
  refine ⟨b,off,e1,fun j hj k hk=>?_⟩
  obtain rfl:k=0:=by have:k<1:=hk;omega
  rw [show layI.sz=1 from rfl,Nat.mul_one,Nat.add_zero,e3 j hj];rfl
 ·by_cases h0:m=0
  ·exact .inr h0
  ·obtain ⟨b,off,e1,_⟩:=hc h0
   rw [e] at e1
   cases e1
theorem ziE (W:World) (r:Int) (hr:-9223372036854775808≤r∧r≤9223372036854775807):Src layI (W.alloc (.cells #[.int .i64 r] 2)) 0 (some ⟨W.heap.size,0,none⟩) 1 (fun _=>r) (fun _=>[.int .i64 r]):=
 zel (b:=W.heap.size) (fun k hk=>by
  obtain rfl:k=0:=by have:k<1:=hk;omega
  exact (zan W #[.int .i64 r] 2).cell 0) ⟨rfl,hr⟩
theorem zgx {n m:Nat} {x y:Nat→Int} {r:Int}:HasP (n+m) (cat2 x n y) r↔HasP n x r∨HasP m y r:=by
 constructor
 ·rintro ⟨i,hi,e⟩
  by_cases c:i<n
  ·rw [zbn _ _ c] at e
   exact .inl ⟨i,c,e⟩
  ·obtain ⟨j,rfl⟩:∃ j,i=n+j:=⟨i-n,by omega⟩
   rw [zbJ] at e;exact .inr ⟨j,by omega,e⟩
 ·rintro (⟨i,hi,e⟩ | ⟨j,hj,e⟩)
  ·exact ⟨i,by omega,by rw [zbn _ _ hi];exact e⟩
  ·exact ⟨n+j,by omega,by rw [zbJ];exact e⟩
structure Gth (w2 wr:World) (p:Nat) (u:Value) (n:Nat) (y:Nat→Int) (cy:Nat→List Value):Prop where
 vw:View layI 2 wr p 0 u n y cy
 ch:ChgL [p] w2 wr
 ap:∀ b,u.ownBlock=some b→b=p∨w2.heap.size≤b
theorem Gth.next {w2 W W':World} {p n:Nat} {u:Value} {y:Nat→Int} {cy:Nat→List Value} (h:Gth w2 W p u n y cy) (b:Below W.heap.size W W'):Gth w2 W' p u n y cy:=⟨h.vw.below b (Nat.zero_le _),h.ch.trans (ChgL.of_below b),h.ap⟩
theorem Gth.app {w2 W:World} {p n:Nat} {u:Value} {y:Nat→Int} {cy:Nat→List Value} (h:Gth w2 W p u n y cy) (hp:p≤W.heap.size) {ao:Option Addr} {m:Nat} (c:Nat) {f:Nat→Int} {cf:Nat→List Value} (hs:Src layI W 0 ao m f cf) (hc0:ao=none→c=0∨m=0) (hn:n+m≤10000000) :
 ∃ u' W',(Builtin.append_ #[25,25] 25 #[u,.slice ao m c]).run Tryz.prog W=.ok u' W'∧Gth w2 W' p u' (n+m) (cat2 y n f) (cat2 cy n cf):=by
 obtain ⟨v',w',hrun,V,gr,bl,loc⟩:=ziy el_I zmB 25 h.vw c hs hp (Nat.zero_le _) hn hc0;refine ⟨v',w',hrun,V,⟨bl.os.trans h.ch.os,bl.tape.trans h.ch.tape,bl.output.trans h.ch.output,Nat.le_trans h.ch.size bl.size,fun b hb hbp=>?_⟩,fun b hb=>?_⟩
 ·refine (gr.block b (Nat.lt_of_lt_of_le hb h.ch.size) (fun e=>?_)).trans (h.ch.block b hb hbp)
  rcases h.ap b e.symm with rfl | h2
  ·exact hbp (by simp)
  ·omega
 ·rcases loc with e | e
  ·rw [e] at hb
   exact h.ap b hb
  ·rw [e] at hb
   cases hb
   exact .inr h.ch.size
def zb6 (s:Nat→Int) (nm:ByteArray):Int:=(zbm nm nm.size:Int)%s 0
def U1 (s:Nat→Int) (x:Nat→RecD) (m:List Nat) (g:Int) (k:Nat) (r:Int):Prop:=∃ j,j<k∧zb6 s (x (m.getD j 0)).name=g∧HasP (x (m.getD j 0)).rows.1 (x (m.getD j 0)).rows.2 r
def U2 (x:Nat→RecD) (g:Int) (k:Nat) (r:Int):Prop:=∃ i,i<k∧(((x i).kind=2∧(x i).group=g)∨(x i).kind=4)∧(x i).row=r
theorem U1.zero (s:Nat→Int) (x:Nat→RecD) (m:List Nat) (g r:Int):¬ U1 s x m g 0 r:=fun ⟨j,h,_⟩=>by omega
theorem U1.succ (s:Nat→Int) (x:Nat→RecD) (m:List Nat) (g:Int) (k:Nat) (r:Int):U1 s x m g (k+1) r↔U1 s x m g k r∨(zb6 s (x (m.getD k 0)).name=g∧HasP (x (m.getD k 0)).rows.1 (x (m.getD k 0)).rows.2 r):=by
 constructor
 ·rintro ⟨j,hj,h⟩
  by_cases e:j=k
  ·subst e;exact .inr h
  ·exact .inl ⟨j,by omega,h⟩
 ·rintro (⟨j,hj,h⟩ | h)
  ·exact ⟨j,by omega,h⟩
  ·exact ⟨k,by omega,h⟩
theorem U2.zero (x:Nat→RecD) (g r:Int):¬ U2 x g 0 r:=fun ⟨j,h,_⟩=>by omega
theorem U2.succ (x:Nat→RecD) (g:Int) (k:Nat) (r:Int):U2 x g (k+1) r↔U2 x g k r∨((((x k).kind=2∧(x k).group=g)∨(x k).kind=4)∧(x k).row=r):=by
 constructor
 ·rintro ⟨j,hj,h⟩
  by_cases e:j=k
  ·subst e;exact .inr h
  ·exact .inl ⟨j,by omega,h⟩
 ·rintro (⟨j,hj,h⟩ | h)
  ·exact ⟨j,by omega,h⟩
  ·exact ⟨k,by omega,h⟩
open Classical in
noncomputable def zdS (s:Nat→Int) (x:Nat→RecD) (N:Nat) (m:List Nat) (g:Int):Nat→Bool:=fun k=>decide (¬ (U1 s x m g m.length (k:Int)∨U2 x g N (k:Int)))
theorem zjc (s:Nat→Int) (x:Nat→RecD) (N:Nat) (m:List Nat) (g:Int) (k:Nat):zdS s x N m g k=true↔¬ (U1 s x m g m.length (k:Int)∨U2 x g N (k:Int)):=by unfold zdS;simp only [decide_eq_true_eq]
noncomputable def zeO (s:Nat→Int) (x:Nat→RecD) (N:Nat) (m:List Nat) (g:Int) (R:Nat):Nat→Int:=fun i=>(ziD (zdS s x N m g) R i:Int)
theorem zlj {s:Nat→Int} (hok:zat s) {r:RecD} (h:zbc s r) (hk:r.kind=1):r.rows.1≤3:=by
 have hb:=okB hok
 rcases h with ⟨_,h⟩ | ⟨h,_⟩ | ⟨h,_⟩ | ⟨h,_⟩
 ·rcases h with ⟨_,_,h⟩ | ⟨_,_,h3,h⟩
  ·omega
  ·rcases h with ⟨_,_,h⟩ | ⟨_,h,_⟩
   ·omega
   ·have hq:(0:Int)<s 2*4:=by omega
    have:=Int.ediv_lt_of_lt_mul hq (show r.length+s 2*4-1<4*(s 2*4) by omega);omega
 ·omega
 ·omega
 ·omega
theorem zlk {s:Nat→Int} {r:RecD} (h:RecAns s r 0):zcD r:=by
 rcases h with ⟨_,h⟩ | ⟨_,h⟩
 ·cases h
 rcases h with ⟨_,h⟩ | ⟨_,h⟩
 ·cases h
 rcases h with ⟨_,h⟩ | ⟨_,h⟩
 ·cases h
 rcases h with ⟨_,h⟩ | ⟨h,_⟩
 ·cases h
 ·exact h
theorem zb7 {n:Nat} {args:Array Value} {w:World} {R:Ending→World→Prop} (h:Calls Tryz.prog n args w R):Calls Tryz.prog n (args++#[]) w R:=by rw [Array.append_empty];exact h
theorem zdu:Tryz.prog.follows Departure.mixedOrders=true:=by kernel_rfl
theorem zcm {cs:List Value} (h:cs.length=9):(Tryz.prog.info? 34).map (·.size)=some cs.length:=by rw [h];kernel_rfl
set_option maxRecDepth 20000 in
theorem zkd (s:Nat→Int) (hok:zat s) (v:Value) (N:Nat) (x:Nat→RecD) (g:Int) (hi:Nat) (w:World) (h:(zab.slice 52).rd w hi (N,x) [v]) (hhi:hi≤w.heap.size) (hNb:N≤800000) (hkd:∀ i,i<N→(x i).kind=1→zbd (x i).name∧(x i).rows.1≤3) :
 Calls Tryz.prog 47 #[zak s,v,.int .i64 g] w (fun e w'=>∃ m v',e=.returned v'∧Live x N m∧OwnI w' w.heap.size w'.heap.size v' (zcz (zdS s x N m g) (s 4).toNat).length (zeO s x N m g (s 4).toNat)∧Below w.heap.size w w'):=by
 obtain ⟨ao0,cap0,ev,hrest⟩:=h
 obtain rfl:v=.slice ao0 N cap0:=by simpa using ev
 have HRS:Hid (∀ w',Below w.heap.size w w'→(zab.slice 52).rd w' hi (N,x) [.slice ao0 N cap0]):=fun w' hb=>Lay.rd_below _ ⟨ao0,cap0,ev,hrest⟩ hb hhi;have HKD:=hid hkd;have HOK:=hid hok;have hsb:=okB hok;obtain ⟨R,hR⟩:∃ R:Nat,s 4=(R:Int):=⟨(s 4).toNat,by omega⟩
 have hR6:R≤6:=by omega
 have HR:=hid hR
 have hRt:(s 4).toNat=R:=by rw [hR];rfl
 rw [hRt];obtain ⟨cS,hcS,hlS⟩:∃ c:List Value,zak s=.agg c.toArray∧c.length=9:=⟨(rwS s),rfl,rfl⟩;have HCS:=hid hcS
 have HC4:Hid (cS[4]?=some (.int .i64 (R:Int))):=by
  have e:(Value.agg cS.toArray)=.agg (rwS s).toArray:=hcS.symm
  have e2:cS=(rwS s):=by simpa using e
  rw [e2,← hR];rfl
 rw [hcS];have T0:=zaL w cS.toArray 34;have bL:Below (w.alloc (.cells cS.toArray 34)).heap.size (w.alloc (.cells cS.toArray 34)) ((w.alloc (.cells cS.toArray 34)).alloc (.cells #[] 2)):=(Below.refl _ _).alloc (Nat.le_refl _) _;have V0:=View.lit0 (E:=layI) (t:=2) (fun _=>(0:Int)) (fun _=>[]) (w.alloc (.cells cS.toArray 34)) 0;have T1:=T0.call bL
 have e0:(w.alloc (.cells cS.toArray 34)).heap.size=w.heap.size+1:=by simp
 have e1:((w.alloc (.cells cS.toArray 34)).alloc (.cells #[] 2)).heap.size=w.heap.size+2:=by simp
 rw [e0] at V0;have CL:=zj8 (.slice ao0 N cap0) N x hi ((w.alloc (.cells cS.toArray 34)).alloc (.cells #[] 2)) (HRS.out _ T1.bel) (Nat.le_trans hhi T1.bel.size) hNb;clear ev hrest hkd hok hR hRt hcS
 go_enter Tryz.func47,Tryz.ntmps47
 go_wp2_with fail
 refine CL.mono ?_;rintro e w2 ⟨v2,m,cm,lo2,rfl,hLM,hlo2,VM,b2⟩;have HLM:=hid hLM;have T2:=T1.call b2;have HT2:=hid T2;rw [e1] at hlo2
 have z2:w.heap.size+2≤w2.heap.size:=by
  have h1:=b2.size;omega
 have V2:=V0.below b2 (Nat.zero_le _);obtain ⟨M,hM⟩:∃ M,M=m.length:=⟨_,rfl⟩;have HM:=hid hM
 have hMN:M≤800000:=by
  have:=(zes (fun _=>0) N m hLM.nodup (fun i hi=>hLM.lt hi)).2;omega
 rw [← hM] at VM;have HVM:=hid VM
 have HKM:Hid (∀ k,k<M→zbd (x (m.getD k 0)).name∧(x (m.getD k 0)).rows.1≤3):=fun k hk=>by
  have hkm:k<m.length:=by rw [← hM];exact hk
  have hmm:=(hLM.1 (m.getD k 0)).1 (by rw [List.getD_eq_getElem?_getD,List.getElem?_eq_getElem hkm];exact List.getElem_mem hkm);exact HKD.out _ hmm.1 hmm.2.1
 obtain ⟨aM,cM,hvM⟩:=VM.form;subst hvM;have HV2:=hid V2;have HBW2:=hid T2.bel;have HG0:Hid (Gth w2 w2 (w.heap.size+1) (.slice (some ⟨w.heap.size+1,0,none⟩) 0 0) 0 (fun _=>(0:Int)) (fun _=>[])):=⟨V2,ChgL.refl _ _,fun b hb=>.inl (by simpa [Value.ownBlock] using hb.symm)⟩;clear CL hLM VM hM T0 T1 T2 bL V0 b2 V2 e0 e1;go_wp2
 go_loopw [7,9] (fun u i wr=>∃ (k n:Nat) (y:Nat→Int) (cy:Nat→List Value),k≤M∧i=.int .i64 k∧n≤3*k∧Gth w2 wr (w.heap.size+1) u n y cy∧(∀ r,HasP n y r↔U1 s x m g k r)) (fun _ i _=>M-(intOf i).toNat)
 case atStart=>exact ⟨0,0,_,_,Nat.zero_le _,rfl,by omega,HG0.out,fun r=>⟨fun ⟨i,hi,_⟩=>by omega,fun h=>absurd h (U1.zero s x m g r)⟩⟩
 case round=>
  obtain ⟨k,n,y,cy,hk,rfl,hn3,hG,hU⟩:=hrel;have HG:=hid hG;have HU:=hid hU;have zr:w2.heap.size≤wr.heap.size:=hG.ch.size;have bW:Below w.heap.size w2 wr:=hG.ch.bel (fun b hb=>by simp at hb;omega) (by omega);have HBW:=hid (HBW2.out.trans bW);have XS:Box wr w.heap.size cS.toArray 34:=HT2.out.b1.chgl hG.ch (by simp);have HXS:=hid XS;have VMr:=HVM.out.kept (w':=wr) (fun b hb=>hG.ch.block b (by have:=HVM.out.row.lt b hb;omega) (by have:=HVM.out.row.lt b hb;simp;omega)) (bW.mono (by omega));obtain ⟨au,cau,hu⟩:=hG.vw.form;subst hu
  by_cases hlt:k<M
  ·obtain ⟨gM,cM',hgM⟩:=VMr.form0 (by omega)
   have hgM2:=hgM
   obtain ⟨rfl,rfl⟩:aM=some ⟨gM,0,none⟩∧cM=cM':=by simpa using hgM2
   have rg:=VMr.range hlt;obtain ⟨r,hr⟩:∃ r,r=x (m.getD k 0):=⟨_,rfl⟩;have HRR:=hid hr;have hkm:=HKM.out k hlt;rw [← hr] at hkm;have hsz8:r.name.size≤8:=hkm.1.2.1;obtain ⟨ao6,cap6,ao7,cap7,ao8,cap8,hce,h6,-⟩:=zaF (VMr.each k hlt);have y2:wr.cell? ⟨gM,k*9+2,none⟩=some (.string r.name):=rg 2 _ (by rw [hce,hr];rfl);have y6:wr.cell? ⟨gM,k*9+6,none⟩=some (.slice ao6 r.rows.1 cap6):=rg 6 _ (by rw [hce,hr];rfl)
   have h6':zam.rd wr hi (r.rows.1,r.rows.2) [.slice ao6 r.rows.1 cap6]:=by rw [hr];exact h6
   have H6:=hid h6';have hgMl:gM<wr.heap.size:=block_lt_of_cell y2;have CH0:=ze5 s r.name hsz8 (by omega) (by omega) wr.drew;rw [HCS.out] at CH0;obtain ⟨hv,hhv⟩:∃ h,h=zb6 s r.name:=⟨_,rfl⟩;have HHV:=hid hhv;rw [show (zbm r.name r.name.size:Int)%s 0=hv from hhv.symm] at CH0;have CH:=zb7 CH0
   have i1:(0:Int)≤(k:Int):=by omega
   have i2:(k:Int)<(M:Int):=by omega
   have rS:wr.drew.rangeAt w.heap.size 0 cS∧wr.drew.cell? ⟨gM,k*9+2,none⟩=some (.string r.name):=⟨zmd XS,y2⟩;clear VMr hgM hgM2 rg hce h6 h6' CH0 hr hhv hG hU bW XS hkm
   go_upto_region 6 with fail
   refine zai 6 (fun w'=>w'.rangeAt w.heap.size 0 cS∧w'.cell? ⟨gM,k*9+2,none⟩=some (.string r.name)) zdu rS (fun hHeld=>?_);refine zac (i:=0) (oi:=_) 16 rfl (by kernel_rfl) (fun _ _ _ h=>h) (yieldsIf_load_mid (by kernel_rfl) 34 (.tmp 3) rfl w.heap.size (0) (by simp [Act.eval,Act.put]) cS _ (fun w h=>h.1) Tryz.underlying34 rfl (zcm hlS)) (by assumption) ?_
   try simp only [Act.put,SL]
   refine zmS 1 rfl ?_
   try simp only [Act.put,SL]
   refine zmS 2 rfl ?_
   try simp only [Act.put,SL]
   refine zmS 3 rfl ?_
   try simp only [Act.put,SL]
   refine zmS 4 rfl ?_
   try simp only [Act.put,SL]
   refine zmT 5 rfl ?_
   try simp only [Act.put,SL]
   refine zmS 7 rfl ?_
   try simp only [Act.put,SL]
   refine zaj (i:=6) (o:=_) rfl (by kernel_rfl) (by kernel_rfl) (fun KC hKC=>?_);refine zaH (by kernel_rfl) (.func 48) 48 #[] _ _ rfl (by simp [Act.eval,Act.put]) #[.agg cS.toArray,.string r.name] (by simp [Act.eval,Act.put]) Tryz.func48 (by kernel_rfl) (by kernel_rfl) CH ?_;rintro e w9 ⟨rfl,b9d⟩;refine ⟨_,rfl,?_⟩;refine hKC _ _ ?_;clear hKC KC
   try simp only [Act.put,SL]
   refine zmD 8 (v:=?_) rfl ?_ ?_
   rotate_left
   ·intro w' hSw;go_simp;try with_reducible rfl
   try simp only [Act.put,SL]
   refine zaf (by kernel_rfl) ?_ _;have b9:Below wr.heap.size wr w9:=(show Below wr.heap.size wr wr.drew from ⟨rfl,rfl,rfl,Nat.le_refl _,fun _ _=>rfl⟩).trans b9d;have G9:=HG.out.next b9;have z9:wr.heap.size≤w9.heap.size:=b9.size;have y6':w9.cell? ⟨gM,k*9+6,none⟩=some (.slice ao6 r.rows.1 cap6):=(b9.cell (p:=⟨gM,k*9+6,none⟩) hgMl).trans y6;have H69:zam.rd w9 hi (r.rows.1,r.rows.2) [.slice ao6 r.rows.1 cap6]:=zam.rd_below H6.out b9 (by omega);have HG9:=hid G9;clear b9d CH hHeld rS y2 y6 G9
   by_cases hh:hv=g
   ·have dh:(hv==g)=true:=by simp [hh]
    have HH:Hid (zb6 s (x (m.getD k 0)).name=g):=by
     show zb6 s (x (m.getD k 0)).name=g
     rw [← HRR.out,← HHV.out];exact hh
    obtain ⟨hsrc,hc0⟩:=zjb H69
    have hr3:r.rows.1≤3:=by have:=(HKM.out k hlt).2;rw [← HRR.out] at this;exact this
    obtain ⟨u',W',hrun,hG'⟩:=HG9.out.app (by omega) cap6 hsrc hc0 (by omega);have HG':=hid hG';obtain ⟨au',cau',hu'⟩:=hG'.vw.form;have HUF:=hid hu';clear hsrc hc0 hG' hu' H69 hh
    go_wp2_with (at_builtin;refine zbX rfl (.tmp 31) (.tmp 36) rfl ?_ ?_ hrun ?_;(simp [Act.eval,Act.put]);(simp [Act.eval,Act.put]))
    clear hrun;go_wp2
    go_roundw
    case rel=>exact ⟨k+1,n+r.rows.1,_,_,by omega,by go_num,by omega,HG'.out,fun q=>by rw [zgx,HU.out,U1.succ,← HRR.out];exact ⟨fun h=>h.elim .inl (fun h=>.inr ⟨by rw [HRR.out];exact HH.out,h⟩),fun h=>h.elim .inl (fun h=>.inr h.2)⟩⟩
    case measure=>simp [intOf];omega
   ·have dh:(hv==g)=false:=by simp [hh]
    have HH:Hid (¬ zb6 s (x (m.getD k 0)).name=g):=by
     show ¬ zb6 s (x (m.getD k 0)).name=g
     rw [← HRR.out,← HHV.out];exact hh
    clear hh H69 y6';go_wp2
    go_roundw
    case rel=>exact ⟨k+1,n,y,cy,by omega,by go_num,by omega,HG9.out,fun q=>by rw [HU.out,U1.succ];exact ⟨.inl,fun h=>h.elim id (fun h=>absurd h.1 HH.out)⟩⟩
    case measure=>simp [intOf];omega
  ·obtain rfl:k=M:=by omega
   clear VMr XS bW hG hU
   have HU0:Hid (∀ r,HasP n y r↔U1 s x m g k r∨U2 x g 0 r):=fun r=>by rw [HU.out];exact ⟨.inl,fun h=>h.elim id (fun h=>absurd h (U2.zero x g r))⟩
   have HGa:=hid HG;go_wp2
   go_loopw [7,10] (fun u i wr=>∃ (q n:Nat) (y:Nat→Int) (cy:Nat→List Value),q≤N∧i=.int .i64 q∧n≤3*k+q∧Gth w2 wr (w.heap.size+1) u n y cy∧(∀ r,HasP n y r↔U1 s x m g k r∨U2 x g q r)) (fun _ i _=>N-(intOf i).toNat)
   case atStart=>exact ⟨0,n,y,cy,Nat.zero_le _,rfl,by omega,HGa.out,HU0.out⟩
   case round=>
    clear HU0 HGa HU HG HBW HXS zr hn3 hlt hk;obtain ⟨q,n,y,cy,hq,rfl,hn3,hG,hU⟩:=hrel;have HG:=hid hG;have HU:=hid hU;have zr:w2.heap.size≤wr.heap.size:=hG.ch.size;have bW:Below w.heap.size w2 wr:=hG.ch.bel (fun b hb=>by simp at hb;omega) (by omega);have HBW:=hid (HBW2.out.trans bW);have HXS:Hid (Box wr w.heap.size cS.toArray 34):=HT2.out.b1.chgl hG.ch (by simp);obtain ⟨au,cau,hu⟩:=hG.vw.form;subst hu;have hrs:=HRS.out wr HBW.out;clear hG hU bW
    by_cases hlt:q<N
    ·obtain ⟨cz,hS,-⟩:=zi1 hrs
     obtain ⟨b,off,hrb,hcell⟩:=hS.1 (by omega);subst hrb;obtain ⟨r,hr⟩:∃ r,r=x q:=⟨_,rfl⟩;have HRR:=hid hr;have rdq:=hS.2 q hlt;rw [← hr] at rdq;obtain ⟨ao6,cap6,ao7,cap7,ao8,cap8,hce,-,-,-,k0,k1,k2,k3,k4,k5⟩:=zaF rdq;have c0:=hcell q hlt;rw [hce] at c0
     have y0:wr.cell? ⟨b,off+q*9,none⟩=some (.int .i64 r.kind):=by have:=c0 0 (by decide);exact this
     have y4:wr.cell? ⟨b,off+q*9+4,none⟩=some (.int .i64 r.group):=by have:=c0 4 (by decide);exact this
     have y5:wr.cell? ⟨b,off+q*9+5,none⟩=some (.int .i64 r.row):=by have:=c0 5 (by decide);exact this
     have i1:(0:Int)≤(q:Int):=by omega
     have i2:(q:Int)<(N:Int):=by omega
     have bA:=bAl wr (.cells #[.int .i64 r.row] 2);obtain ⟨u',W',hrun,hG'⟩:=(HG.out.next bA).app (by have:=bA.size;omega) 1 (ziE wr r.row k5) (fun e=>by cases e) (by omega);have HG':=hid hG';obtain ⟨au',cau',hu'⟩:=hG'.vw.form;have HUF:=hid hu';have HONE:Hid (∀ z,HasP 1 (fun _=>r.row) z↔r.row=z):=fun z=>⟨fun ⟨_,_,e⟩=>e,fun e=>⟨0,by omega,e⟩⟩;clear hrs hS hcell rdq hce c0 hr k0 k1 k2 k3 k4 k5 hG' hu' bA
     have yes:((r.kind=2∧r.group=g)∨r.kind=4)→∀ z,HasP (n+1) (cat2 y n (fun _=>r.row)) z↔U1 s x m g k z∨U2 x g (q+1) z:=fun hc z=>by
      rw [zgx,HU.out,HONE.out,U2.succ,← HRR.out];exact ⟨fun h=>h.elim (fun h=>h.elim .inl (fun h=>.inr (.inl h))) (fun h=>.inr (.inr ⟨hc,h⟩)),fun h=>h.elim (fun h=>.inl (.inl h)) (fun h=>h.elim (fun h=>.inl (.inr h)) (fun h=>.inr h.2))⟩
     have no:¬ ((r.kind=2∧r.group=g)∨r.kind=4)→∀ z,HasP n y z↔U1 s x m g k z∨U2 x g (q+1) z:=fun hc z=>by
      rw [HU.out,U2.succ,← HRR.out];exact ⟨fun h=>h.elim .inl (fun h=>.inr (.inl h)),fun h=>h.elim .inl (fun h=>h.elim .inr (fun h=>absurd h.1 hc))⟩
     have HYES:=hid yes;have HNO:=hid no;clear yes no
     by_cases c1:r.kind=2
     ·have d1:(r.kind==2)=true:=by simp [c1]
      have d4:(r.kind==4)=false:=by simp [c1]
      have HC1:=hid c1;clear c1
      by_cases c2:r.group=g
      ·have d2:(r.group==g)=true:=by simp [c2]
       have HC2:=hid c2;clear c2 d4
       go_wp2_with (at_builtin;refine zbX rfl (.tmp 67) (.tmp 73) rfl ?_ ?_ hrun ?_;(simp [Act.eval,Act.put]);(simp [Act.eval,Act.put]))
       clear hrun;go_wp2
       go_roundw
       case rel=>exact ⟨q+1,n+1,_,_,by omega,by go_num,by omega,HG'.out,HYES.out (.inl ⟨HC1.out,HC2.out⟩)⟩
       case measure=>simp [intOf];omega
      ·have d2:(r.group==g)=false:=by simp [c2]
       have HN4:Hid (¬ ((r.kind=2∧r.group=g)∨r.kind=4)):=fun h=>h.elim (fun h=>c2 h.2) (fun h=>by have:=HC1.out;omega);clear c2 hrun;go_wp2
       go_roundw
       case rel=>exact ⟨q+1,n,y,cy,by omega,by go_num,by omega,HG.out,HNO.out HN4.out⟩
       case measure=>simp [intOf];omega
     ·have d1:(r.kind==2)=false:=by simp [c1]
      have HC1:=hid c1;clear c1
      by_cases c4:r.kind=4
      ·have d4:(r.kind==4)=true:=by simp [c4]
       have HC4':=hid c4;clear c4
       go_wp2_with (at_builtin;refine zbX rfl (.tmp 67) (.tmp 73) rfl ?_ ?_ hrun ?_;(simp [Act.eval,Act.put]);(simp [Act.eval,Act.put]))
       clear hrun;go_wp2
       go_roundw
       case rel=>exact ⟨q+1,n+1,_,_,by omega,by go_num,by omega,HG'.out,HYES.out (.inr HC4'.out)⟩
       case measure=>simp [intOf];omega
      ·have d4:(r.kind==4)=false:=by simp [c4]
       have HN4:Hid (¬ ((r.kind=2∧r.group=g)∨r.kind=4)):=fun h=>h.elim (fun h=>HC1.out h.1) c4;clear c4 hrun;go_wp2
       go_roundw
       case rel=>exact ⟨q+1,n,y,cy,by omega,by go_num,by omega,HG.out,HNO.out HN4.out⟩
       case measure=>simp [intOf];omega
    ·obtain rfl:q=N:=by omega
     obtain ⟨w3,hw3⟩:∃ z,z=wr:=⟨_,rfl⟩;rw [← hw3] at HG HXS HBW zr ⊢;clear hrs hlt hw3;have hRD:=zja HG.out.vw;have HRD:=hid hRD;have I0:=zgC w3 (zeO s x q m g R);have bL:=bAl w3 (.cells #[] 2)
     have HUN:Hid (∀ z,HasP n y z↔U1 s x m g m.length z∨U2 x g q z):=by
      have:=HU.out;rw [HM.out] at this;exact this
     clear hRD HG HU;go_wp2
     go_loopw [11,12] (fun vo i wr=>∃ j:Nat,j≤R∧i=.int .i64 j∧OwnI wr w3.heap.size wr.heap.size vo (zcz (zdS s x q m g) j).length (zeO s x q m g R)∧Below w3.heap.size w3 wr) (fun _ i _=>R-(intOf i).toNat)
     case atStart=>exact ⟨0,Nat.zero_le _,rfl,I0,bL⟩
     case round=>
      clear I0 bL;obtain ⟨j,hj,rfl,hI,bw⟩:=hrel;obtain ⟨wx,rfl⟩:∃ y,y=wr:=⟨_,rfl⟩;obtain ⟨c,hc⟩:∃ c,c=(zcz (zdS s x q m g) j).length:=⟨_,rfl⟩;have HC:=hid hc;rw [← hc] at hI
      have hck:c≤j:=by rw [hc];exact zli _ _
      obtain ⟨aoo,capo,hvo⟩:=hI.slice;subst hvo;have HI5:=hid hI;have HBX:=hid bw;have zx:w3.heap.size≤wx.heap.size:=bw.size
      have x4:wx.cell? ⟨w.heap.size,4,none⟩=some (.int .i64 (R:Int)):=by
       have h1:=(HXS.out.below bw HXS.out.lt).cell 4;rw [h1]
       simpa using HC4.out
      have RDx:=HRD.out.below bw (Nat.le_refl _);clear hI hc bw
      by_cases hlt:j<R
      ·obtain ⟨t,ht⟩:=exB (HasP n y (j:Int))
       have CT:=zbB (zg3 (.slice au n cau) n y w3.heap.size (j:Int) wx RDx) ht
       have t1:(j:Int)<(R:Int):=by omega
       have HW:Hid (zdS s x q m g j=!t):=by
        show zdS s x q m g j=!t
        have h1:=zjc s x q m g j;rw [← HUN.out] at h1
        cases t with
        | true=>
         cases hf:zdS s x q m g j with
         | false=>rfl
         | true=>exact absurd (ht.1 rfl) (h1.1 hf)
        | false=>exact h1.2 (fun h=>by have:=ht.2 h;cases this)
       clear ht RDx
       go_wp2_with fail
       refine CT.mono ?_;rintro e w5 ⟨rfl,b5⟩;have z5:wx.heap.size≤w5.heap.size:=b5.size;have HI6:Hid (OwnI w5 w3.heap.size w5.heap.size (.slice aoo c capo) c (zeO s x q m g R)):=(HI5.out.below b5 (Nat.le_refl _)).mono z5;have HB5:=hid (HBX.out.trans (b5.mono zx));clear b5 CT x4
       cases t with
       | true=>
        go_wp2
        go_roundw
        case rel=>exact ⟨j+1,by omega,by go_num,by rw [zhC HW.out,← HC.out];exact HI6.out,HB5.out⟩
        case measure=>simp [intOf];omega
       | false=>
        have HF:Hid (zeO s x q m g R c=(j:Int)):=by
         show zeO s x q m g R c=(j:Int)
         have:=(zgw (p:=zdS s x q m g) HW.out R hlt).1;unfold zeO;rw [HC.out,this]
        go_wp2_with (at_builtin;refine zfF rfl (.tmp 86) (.tmp 88) rfl w3.heap.size w5.heap.size (.slice aoo c capo) c (zeO s x q m g R) ?_ ?_ w5.heap.size 1 ?_ ?_ (by omega) ?_ ?_;(simp [Act.eval]);exact HI6.out.alloc _;(simp [Act.eval]);(rw [HF.out];simp);(simp;omega);intro v7 w7 o7 b7)
        have b8:Below w3.heap.size w5 w7:=((Below.refl w3.heap.size w5).alloc (by omega) _).trans b7;have HB7:=hid (HB5.out.trans b8);have HI7:=hid o7;clear o7 b7 b8 HI6;go_wp2
        go_roundw
        case rel=>exact ⟨j+1,by omega,by go_num,by
         have e:(zcz (zdS s x q m g) (j+1)).length=c+1:=by rw [zcA,if_pos (show zdS s x q m g j=true from HW.out),List.length_append,← HC.out];rfl
         rw [e];exact HI7.out,HB7.out⟩
        case measure=>simp [intOf];omega
      ·obtain rfl:j=R:=by omega
       have HO:Hid (OwnI wx w.heap.size wx.heap.size (.slice aoo c capo) c (zeO s x q m g j)):=HI5.out.weaken (by have:=HBW.out.size;omega) (Nat.le_refl _);have HBZ:=hid (HBW.out.trans (HBX.out.mono HBW.out.size));clear RDx hlt;go_wp2;go_ret;exact ⟨m,_,rfl,HLM.out,by rw [← HC.out];exact HO.out,HBZ.out⟩
end Go.Proofs.YtmehgpcmoejfcaaGreat
namespace Go.Proofs.YtmehgpcmoejfcaaGreat
open Go.RowKit F256
open Go.Maps (Keyed)
def DonP (x:Nat→RecD) (N:Nat) (q g:Int):Prop:=∃ j,j<N∧(x j).kind=3∧(x j).seq=q∧(x j).group=g
noncomputable def und (s:Nat→Int) (g:Int) (x:Nat→RecD) (N:Nat):Nat→Bool:=fun i=>@decide ((x i).kind=2∧((x i).group=g∨¬ InP g 0 (s 0-1))∧¬ DonP x N (x i).seq g) (Classical.propDecidable _)
theorem zlW {k:Int} (cs:List Value) (h1:InP k 1 4) (h2:k≠2):∀ w,(Instr.typeAssert (entV k cs) 159 164 true).run Tryz.prog w=.ok (.tuple #[.agg #[.int .i64 0,.int .i64 0,.string ByteArray.empty,.int .i64 0,.int .i64 0,.int .i64 0,.slice none 0 0,.slice none 0 0,.slice none 0 0],.bool false]) w:=fun w=>by
 obtain ⟨q1,q2⟩:=h1
 have hc:k=1∨k=3∨k=4:=by omega
 unfold entV entT
 rcases hc with rfl | rfl | rfl
 ·exact ta01 _ w
 ·exact ta21 _ w
 ·exact ta31 _ w
theorem zmC (cs:List Value):entV 2 cs=.iface 164 (.agg cs.toArray):=by
 unfold entV entT
 simp
end Go.Proofs.YtmehgpcmoejfcaaGreat
namespace Go.Proofs.YtmehgpcmoejfcaaGreat
open Go.RowKit F256
theorem zfE (s:Nat→Int) (b:ByteArray) (hb:b.size≤1048576) (w:World) :
 Calls Tryz.prog 103 #[zak s,.string b] w fun e w'=>∃ x c,e=.returned (intR c x)∧zmL s b x c∧Below w.heap.size w w':=by
 unfold zak
 go_enter Tryz.func103,Tryz.ntmps103
 go_wp2_with fail
 refine (zcj s _).mono ?_;rintro e w1 ⟨x,rfl,hx,B1'⟩;obtain ⟨X1,X2,B1,z1⟩:=zkH B1';obtain ⟨x0,x1,x2,x3,x4,x5,x6,x7,x8⟩:=box9 X1;obtain ⟨y0,y1,y2,y3⟩:=zdU X2;have HX:=hid X2;clear B1' X1 X2
 rcases hx with ⟨rfl,hx⟩ | ⟨rfl,hx⟩
 ·have HN:=hid hx
  clear hx;go_wp2;exact bodyPost_ret (v:=intR 3 0) (by simp [results,Tryz.results103,go_sem,intR,y0,y1]) rfl ⟨0,3,rfl,.inl ⟨HN.out,rfl,rfl⟩,(B1.setCell (Nat.le_succ _) _).setCell (Nat.le_succ _) _⟩
 ·have HO:=hid hx
  clear hx
  go_wp2_with fail
  refine (zeG b hb _).mono ?_;rintro e w2 ⟨x,rfl,hx,hw⟩;obtain rfl:=hw.symm
  rcases hx with ⟨rfl,hx⟩ | ⟨rfl,hx⟩
  ·have HN:=hid hx
   clear hx;go_wp2;exact bodyPost_ret (v:=intR 5 0) (by simp [results,Tryz.results103,go_sem,intR,y0,y1]) rfl ⟨0,5,rfl,.inr (.inl ⟨HO.out,HN.out,rfl,rfl⟩),(B1.setCell (Nat.le_succ _) _).setCell (Nat.le_succ _) _⟩
  ·have HN:=hid hx
   clear hx
   have hg:1≤s 0:=by have:=HO.out.1;unfold Shp3 at this;omega
   have hg2:s 0≤1000:=by have:=HO.out.1;unfold Shp3 at this;omega
   have hb8:b.size≤8:=HN.out.2.1;have HM0:Hid (∀ m:Int,m=(zbm b b.size:Int)%s 0→zmL s b m 0):=fun m hm=>.inr (.inr ⟨HO.out,HN.out,rfl,hm⟩);obtain ⟨a0,h0⟩:∃ a,a=s 0:=⟨_,rfl⟩;rw [← h0] at hg hg2 HM0 x0 ⊢;clear h0 HX;go_wp2
   go_loop [7,23] (fun n i=>∃ k:Nat,k≤b.size∧n=.int .i64 (zbm b k:Int)∧i=.int .i64 k) (fun n i=>b.size-(intOf i).toNat)
   case atStart=>exact ⟨0,Nat.zero_le _,rfl,rfl⟩
   case round=>
    obtain ⟨k,hk,rfl,rfl⟩:=hrel;have hs1:=zfK b k
    by_cases hlt:k<b.size
    ·have hik:=zcp b k hlt
     have hz0:=zdN b k;have HS:Hid (zbm b (k+1)=zbm b k+zaI b k):=rfl;obtain ⟨z,hz⟩:∃ z,z=zaI b k:=⟨_,rfl⟩;rw [← hz] at hik HS hz0;clear hz;obtain ⟨m,hm⟩:∃ m,m=zbm b k:=⟨_,rfl⟩;rw [← hm] at hs1 HS ⊢;clear hm;go_wp2
     go_round
     case rel=>exact ⟨k+1,by omega,by rw [HS.out];go_num,by go_num⟩
     case measure=>simp [intOf];omega
    ·obtain rfl:k=b.size:=by omega
     obtain ⟨m,hm⟩:∃ m,m=zbm b b.size:=⟨_,rfl⟩;rw [← hm] at hs1 ⊢;have HM:=hid hm;clear hm;go_wp2;exact bodyPost_ret (v:=intR 0 ((m:Int)%a0)) (by simp [results,Tryz.results103,go_sem,intR,y0,y1]) rfl ⟨(m:Int)%a0,0,rfl,HM0.out _ (by rw [HM.out]),(B1.setCell (Nat.le_succ _) _).setCell (Nat.le_succ _) _⟩
theorem zll {w:World} {lo B:Nat} {s:Nat→Int} {m k:Nat} {x:Nat→RecD} {ce:Nat→List Value} {v:Value} {b1 b2 b3 b4 b5:Nat} (h:Ldg w lo B s m k x ce v b1 b2 b3 b4 b5):w.rangeAt B 0 [.int .i64 (s 0),.int .i64 (s 1),.int .i64 (s 2),.int .i64 (s 3),.int .i64 (s 4),.int .i64 (s 5),.int .i64 (s 6),.int .i64 (s 7),.int .i64 (s 8)]:=fun j v hv=>by
 rw [Nat.zero_add];have hj:j<9:=(List.getElem?_eq_some_iff.1 hv).1;refine (h.box.cell j).trans ?_;rw [← hv]
 match j,hj with
 | 0,_=>rfl
 | 1,_=>rfl
 | 2,_=>rfl
 | 3,_=>rfl
 | 4,_=>rfl
 | 5,_=>rfl
 | 6,_=>rfl
 | 7,_=>rfl
 | 8,_=>rfl
theorem zmg (c z:Int) (w':World):(Instr.field 99 (.agg #[.int .i64 c,.int .i64 z]) 1).run Tryz.prog w'=.ok (.int .i64 z) w':=by kernel_rfl
theorem zjd {s:Nat→Int} {b:ByteArray} (hok:zat s) (hn:zbd b) (w:World):Calls Tryz.prog 103 #[zak s,.string b] w fun e w'=>e=.returned (.agg #[.int .i64 0,.int .i64 (zb6 s b)])∧Below w.heap.size w w':=
 (zfE s b (Nat.le_trans hn.2.1 (by decide)) w).mono fun e w' ⟨z,c,h1,h2,h3⟩=>by
  rcases h2 with ⟨h,_⟩ | ⟨_,h,_⟩ | ⟨_,_,rfl,rfl⟩
  ·exact absurd hok h
  ·exact absurd hn h
  ·exact ⟨h1,h3⟩
theorem zlm {k:Int} (cs:List Value) (h1:InP k 1 4) (h2:k≠4):∀ w,(Instr.typeAssert (entV k cs) 159 165 true).run Tryz.prog w=.ok (.tuple #[.agg #[.int .i64 0,.int .i64 0,.string ByteArray.empty,.int .i64 0,.int .i64 0,.int .i64 0,.slice none 0 0,.slice none 0 0,.slice none 0 0],.bool false]) w:=fun w=>by
 obtain ⟨q1,q2⟩:=h1
 have hc:k=1∨k=2∨k=3:=by omega
 unfold entV entT
 rcases hc with rfl | rfl | rfl
 ·exact ta03 _ w
 ·exact ta13 _ w
 ·exact ta23 _ w
theorem zlX (cs:List Value):entV 4 cs=.iface 165 (.agg cs.toArray):=by
 unfold entV entT
 simp
set_option maxRecDepth 20000 in
theorem zgy {w:World} {lo B hi:Nat} {s:Nat→Int} {N:Nat} {x:Nat→RecD} {ce:Nat→List Value} {v:Value} {b1 b2 b3 b4 b5:Nat} (h:Ldg w lo B s N N x ce v b1 b2 b3 b4 b5) (hok:zat s) (hN:N≤800000) (hhi:hi≤w.heap.size) (hr:∀ i,i<N→zab.rd w hi (x i) (ce i)) (hkl:∀ i,i<N→(x i).kind=1→((x i).length<0↔(x i).length=-1)) (hkd:∀ i,i<N→(x i).kind=1→zbd (x i).name∧(x i).rows.1≤3) (hk4:∀ i,i<N→InP (x i).kind 1 4) (g:Int) :
 Calls Tryz.prog 98 #[.pointer (some ⟨B,0,none⟩),.int .i64 g] w (fun e w'=>∃ m u n y,e=.returned u∧Live x N m∧RdI w' w'.heap.size u n y∧(∀ r,HasP n y r↔U1 s x m g m.length r∨U2 x g N r)∧Below w.heap.size w w'):=by
 have HL:=hid h;have HOK:=hid hok;have HR:=hid hr;have HKD:=hid hkd;have HK4:=hid hk4;have CI:=zhB h (by omega) hhi hr hkl;obtain ⟨ao,cap,hv⟩:=zbH h.row;subst hv;obtain ⟨cS,hcS,hlS⟩:∃ c:List Value,c=(rwS s)∧c.length=9:=⟨_,rfl,rfl⟩;have HCS:=hid hcS;clear h hok hr hkl hkd hk4 hcS
 go_enter Tryz.func98,Tryz.ntmps98
 go_wp2_with fail
 refine CI.mono ?_;rintro e w2 ⟨v2,cm,m,rfl,hLM,VM,bb2⟩;have HLM:=hid hLM;have z2:w.heap.size≤w2.heap.size:=bb2.size;have HB2:=hid bb2;obtain ⟨M,hM⟩:∃ M,M=m.length:=⟨_,rfl⟩;have HM:=hid hM
 have hMN:M≤800000:=by
  have:=(zes (fun _=>0) N m hLM.nodup (fun i hi=>hLM.lt hi)).2;omega
 rw [← hM] at VM;have HVM:=hid VM
 have HKM:Hid (∀ k,k<M→zbd (x (m.getD k 0)).name∧(x (m.getD k 0)).rows.1≤3):=fun k hk=>by
  have hkm:k<m.length:=by rw [← hM];exact hk
  have hmm:=(hLM.1 (m.getD k 0)).1 (by rw [List.getD_eq_getElem?_getD,List.getElem?_eq_getElem hkm];exact List.getElem_mem hkm);exact HKD.out _ hmm.1 hmm.2.1
 have HL2:Hid (Ldg w2 lo B s N N x ce (.slice ao N cap) b1 b2 b3 b4 b5):=HL.out.keepAll (fun b hb=>bb2.block b hb);obtain ⟨aM,cM,hvM⟩:=VM.form;subst hvM;have HG0:Hid (Gth w2 w2 w2.heap.size (.slice none 0 0) 0 (fun _=>(0:Int)) (fun _=>[])):=⟨View.nil _ _ _ _ _,ChgL.refl _ _,fun b hb=>by cases hb⟩;clear CI hLM VM hM bb2;go_wp2
 go_loopw [5,15] (fun u i wr=>∃ (k n:Nat) (y:Nat→Int) (cy:Nat→List Value),k≤M∧i=.int .i64 k∧n≤3*k∧Gth w2 wr w2.heap.size u n y cy∧(∀ r,HasP n y r↔U1 s x m g k r)) (fun _ i _=>M-(intOf i).toNat)
 case atStart=>exact ⟨0,0,_,_,Nat.zero_le _,rfl,by omega,HG0.out,fun r=>⟨fun ⟨i,hi,_⟩=>by omega,fun h=>absurd h (U1.zero s x m g r)⟩⟩
 case round=>
  obtain ⟨k,n,y,cy,hk,rfl,hn3,hG,hU⟩:=hrel;have HG:=hid hG;have HU:=hid hU;have zr:w2.heap.size≤wr.heap.size:=hG.ch.size;have bW:Below w2.heap.size w2 wr:=hG.ch.bel (fun b hb=>by simp at hb;omega) (Nat.le_refl _);have HBW:=hid bW;obtain ⟨au,cau,hu⟩:=hG.vw.form;subst hu
  by_cases hlt:k<M
  ·have VMr:=HVM.out.below bW (by omega)
   obtain ⟨gM,cM',hgM⟩:=VMr.form0 (by omega);have hgM2:=hgM
   obtain ⟨rfl,rfl⟩:aM=some ⟨gM,0,none⟩∧cM=cM':=by simpa using hgM2
   have rg:=VMr.range hlt;obtain ⟨r,hr⟩:∃ r,r=x (m.getD k 0):=⟨_,rfl⟩;have HRR:=hid hr;have hkm:=HKM.out k hlt;rw [← hr] at hkm;obtain ⟨cR,hcR⟩:∃ c,c=cm k:=⟨_,rfl⟩;have rdk:=VMr.each k hlt;rw [← hcR,← hr] at rdk;rw [← hcR] at rg;have rg9:wr.rangeAt gM (k*9) cR:=rg;have hcl:cR.length=9:=zab.rd_len rdk;have hone:=zdG rdk;obtain ⟨ao6,cap6,ao7,cap7,ao8,cap8,hce,h6,-⟩:=zaF rdk;have bA:=bAl wr (.cells cR.toArray 52);have XA:=zan wr cR.toArray 52;obtain ⟨W,hW⟩:∃ y,y=wr.alloc (.cells cR.toArray 52):=⟨_,rfl⟩;rw [← hW] at bA XA
   have y2:W.cell? ⟨wr.heap.size,2,none⟩=some (.string r.name):=by rw [XA.cell 2,hce];rfl
   have y6:W.cell? ⟨wr.heap.size,6,none⟩=some (.slice ao6 r.rows.1 cap6):=by rw [XA.cell 6,hce];rfl
   have zW:wr.heap.size<W.heap.size:=XA.lt;have H6:Hid (zam.rd W hi (r.rows.1,r.rows.2) [.slice ao6 r.rows.1 cap6]):=zam.rd_below h6 bA (by omega);have GW:=hid (HG.out.next bA);have LW:=HL2.out.keepAll (fun b hb=>(bW.trans (bA.mono zr)).block b hb);have CH0:=zjd HOK.out hkm.1 W.drew;rw [show zak s=.agg cS.toArray by rw [HCS.out];rfl] at CH0;obtain ⟨hv,hhv⟩:∃ h,h=zb6 s r.name:=⟨_,rfl⟩;have HHV:=hid hhv;rw [← hhv] at CH0;have CH:=zb7 CH0;have rS:W.drew.rangeAt B 0 cS∧W.drew.cell? ⟨wr.heap.size,2,none⟩=some (.string r.name):=⟨by rw [HCS.out];show W.rangeAt B 0 _;exact zll LW,y2⟩;have fN:=zmg
   have i1:(0:Int)≤(k:Int):=by omega
   have i2:(k:Int)<(M:Int):=by omega
   have hr3:r.rows.1≤3:=hkm.2;clear VMr hgM hgM2 rg hce h6 CH0 hr hhv hG hU bW bA XA hkm LW rdk hcR
   go_upto_region 5 with (first | (refine wpList_load_mid rfl 52 (.tmp 17) rfl gM (k*9) (by simp [Act.eval,Act.put]) cR _ rg9 Tryz.underlying52 rfl (zae hcl) ?_) | (refine zaB 52 7 (.tmp 18) cR _ 9 rfl rfl rfl rfl rfl rfl (by simp [Act.eval,Act.put]) (by simp [Act.eval,Act.put]) zbt rfl hcl hone ?_;rw [← hW];clear hW))
   refine zai 6 (fun w'=>w'.rangeAt B 0 cS∧w'.cell? ⟨wr.heap.size,2,none⟩=some (.string r.name)) zdu rS (fun hHeld=>?_);refine zmS 0 rfl ?_
   try simp only [Act.put,SL]
   refine zmS 1 rfl ?_
   try simp only [Act.put,SL]
   refine zmS 2 rfl ?_
   try simp only [Act.put,SL]
   refine zac (i:=3) (oi:=_) 16 rfl (by kernel_rfl) (fun _ _ _ h=>h) (yieldsIf_load_mid (by kernel_rfl) 34 (.tmp 21) rfl B (0) (by simp [Act.eval,Act.put]) cS _ (fun w h=>h.1) Tryz.underlying34 rfl (zcm hlS)) (by assumption) ?_
   try simp only [Act.put,SL]
   refine zmS 4 rfl ?_
   try simp only [Act.put,SL]
   refine zmT 5 rfl ?_
   try simp only [Act.put,SL]
   refine zmS 8 rfl ?_
   try simp only [Act.put,SL]
   refine zaj (i:=6) (o:=_) rfl (by kernel_rfl) (by kernel_rfl) (fun KC hKC=>?_);refine zaH (by kernel_rfl) (.func 103) 103 #[] _ _ rfl (by simp [Act.eval,Act.put]) #[.agg cS.toArray,.string r.name] (by simp [Act.eval,Act.put]) Tryz.func103 (by kernel_rfl) (by kernel_rfl) CH ?_;rintro e w9 ⟨rfl,b9d⟩;refine ⟨_,rfl,?_⟩;refine hKC _ _ ?_;clear hKC KC
   try simp only [Act.put,SL]
   refine zmD 7 (v:=?_) rfl ?_ ?_
   rotate_left
   ·intro w' hSw;go_simp;try with_reducible rfl
   try simp only [Act.put,SL]
   refine zmD 9 (v:=?_) rfl ?_ ?_
   rotate_left
   ·intro w' hSw;go_simp;try with_reducible rfl
   try simp only [Act.put,SL]
   refine zaf (by kernel_rfl) ?_ _;have b9:Below W.heap.size W w9:=(show Below W.heap.size W W.drew from ⟨rfl,rfl,rfl,Nat.le_refl _,fun _ _=>rfl⟩).trans b9d;have HG9:=hid (GW.out.next b9);have z9:W.heap.size≤w9.heap.size:=b9.size;have y6':w9.cell? ⟨wr.heap.size,6,none⟩=some (.slice ao6 r.rows.1 cap6):=(b9.cell (p:=⟨wr.heap.size,6,none⟩) zW).trans y6;have H69:zam.rd w9 hi (r.rows.1,r.rows.2) [.slice ao6 r.rows.1 cap6]:=zam.rd_below H6.out b9 (by omega);clear b9d CH hHeld rS y2 y6 fN
   by_cases hh:hv=g
   ·have dh:(hv==g)=true:=by simp [hh]
    have HH:Hid (zb6 s (x (m.getD k 0)).name=g):=by
     show zb6 s (x (m.getD k 0)).name=g
     rw [← HRR.out,← HHV.out];exact hh
    obtain ⟨hsrc,hc0⟩:=zjb H69;obtain ⟨u',W',hrun,hG'⟩:=HG9.out.app (by omega) cap6 hsrc hc0 (by omega);have HG':=hid hG';obtain ⟨au',cau',hu'⟩:=hG'.vw.form;have HUF:=hid hu';clear hsrc hc0 hG' hu' H69 hh
    go_wp2_with (at_builtin;refine zbX rfl (.tmp 29) (.tmp 31) rfl ?_ ?_ hrun ?_;(simp [Act.eval,Act.put]);(simp [Act.eval,Act.put]))
    clear hrun;go_wp2
    go_roundw
    case rel=>exact ⟨k+1,n+r.rows.1,_,_,by omega,by go_num,by omega,HG'.out,fun q=>by rw [zgx,HU.out,U1.succ,← HRR.out];exact ⟨fun h=>h.elim .inl (fun h=>.inr ⟨by rw [HRR.out];exact HH.out,h⟩),fun h=>h.elim .inl (fun h=>.inr h.2)⟩⟩
    case measure=>simp [intOf];omega
   ·have dh:(hv==g)=false:=by simp [hh]
    have HH:Hid (¬ zb6 s (x (m.getD k 0)).name=g):=by
     show ¬ zb6 s (x (m.getD k 0)).name=g
     rw [← HRR.out,← HHV.out];exact hh
    clear hh H69 y6';go_wp2
    go_roundw
    case rel=>exact ⟨k+1,n,y,cy,by omega,by go_num,by omega,HG9.out,fun q=>by rw [HU.out,U1.succ];exact ⟨.inl,fun h=>h.elim id (fun h=>absurd h.1 HH.out)⟩⟩
    case measure=>simp [intOf];omega
  ·obtain rfl:k=M:=by omega
   have HU0:Hid (∀ r,HasP n y r↔U1 s x m g k r∨U2 x g 0 r):=fun r=>by rw [HU.out];exact ⟨.inl,fun h=>h.elim id (fun h=>absurd h (U2.zero x g r))⟩
   have HGa:=hid HG;have Lr:=HL2.out.keepAll (fun b hb=>bW.block b hb);have x9:wr.cell? ⟨B,9,none⟩=some (.slice ao N cap):=Lr.box.cell 9;clear hG hU bW Lr;go_wp2
   go_loopw [5,39] (fun u i wr=>∃ (q n:Nat) (y:Nat→Int) (cy:Nat→List Value),q≤N∧i=.int .i64 q∧n≤3*k+q∧Gth w2 wr w2.heap.size u n y cy∧(∀ r,HasP n y r↔U1 s x m g k r∨U2 x g q r)) (fun _ i _=>N-(intOf i).toNat)
   case atStart=>exact ⟨0,n,y,cy,Nat.zero_le _,rfl,by omega,HGa.out,HU0.out⟩
   case round=>
    clear HU0 HGa HU HG HBW zr hn3 hlt hk x9;obtain ⟨q,n,y,cy,hq,rfl,hn3,hG,hU⟩:=hrel;have HG:=hid hG;have HU:=hid hU;have zr:w2.heap.size≤wr.heap.size:=hG.ch.size;have bW:Below w2.heap.size w2 wr:=hG.ch.bel (fun b hb=>by simp at hb;omega) (Nat.le_refl _);have HBW:=hid bW;obtain ⟨au,cau,hu⟩:=hG.vw.form;subst hu
    by_cases hlt:q<N
    ·have Lr:=HL2.out.keepAll (fun b hb'=>bW.block b hb')
     obtain ⟨ge,cge,cur,hge,p1,p2,p3,p4,p5,p6⟩:∃ g0 cap0 cur,(Value.slice ao N cap)=.slice (some ⟨g0,0,none⟩) N cap0∧lo≤g0∧wr.heap[g0]?=some (.cells cur 159 (0,0))∧N≤cap0∧cap0≤maxLen∧cur.size=cap0*1∧cur.toList.take (N*1)=entL x ce N:=by
      rcases Lr.row.2 with ⟨_,e⟩ | h
      ·omega
      ·exact h
     have hga:ao=some ⟨ge,0,none⟩:=by cases hge;rfl
     have hcg:cap=cge:=by cases hge;rfl
     subst hga;subst hcg
     have ye:wr.cell? ⟨ge,q,none⟩=some (entV (x q).kind (ce q)):=by
      have e1:cur.toList[q]?=some (entV (x q).kind (ce q)):=by
       have:(cur.toList.take (N*1))[q]?=some (entV (x q).kind (ce q)):=by
        rw [p6];unfold entL;rw [List.getElem?_map,List.getElem?_range hlt];rfl
       rw [List.getElem?_take,if_pos (by omega)] at this;exact this
      rw [cell_of_row wr ge q cur _ _ p2]
      simpa using e1
     have t1:(q:Int)<(N:Int):=by omega
     have i1:(0:Int)≤(q:Int):=by omega
     obtain ⟨ao6,cap6,ao7,cap7,ao8,cap8,ec,-,-,-,k0,k1,k2,k3,k4,k5⟩:=zaF (HR.out q hlt);obtain ⟨r,hrr⟩:∃ r,r=x q:=⟨_,rfl⟩;have HRR:=hid hrr;have hk14:=HK4.out q hlt;rw [← hrr] at ye k5 hk14 ec;have HONE:Hid (∀ z,HasP 1 (fun _=>r.row) z↔r.row=z):=fun z=>⟨fun ⟨_,_,e⟩=>e,fun e=>⟨0,by omega,e⟩⟩
     have HYES:Hid (((r.kind=2∧r.group=g)∨r.kind=4)→∀ z,HasP (n+1) (cat2 y n (fun _=>r.row)) z↔U1 s x m g k z∨U2 x g (q+1) z):=fun hc z=>by
      rw [zgx,HU.out,HONE.out,U2.succ,← HRR.out];exact ⟨fun h=>h.elim (fun h=>h.elim .inl (fun h=>.inr (.inl h))) (fun h=>.inr (.inr ⟨hc,h⟩)),fun h=>h.elim (fun h=>.inl (.inl h)) (fun h=>h.elim (fun h=>.inl (.inr h)) (fun h=>.inr h.2))⟩
     have HNO:Hid (¬ ((r.kind=2∧r.group=g)∨r.kind=4)→∀ z,HasP n y z↔U1 s x m g k z∨U2 x g (q+1) z):=fun hc z=>by
      rw [HU.out,U2.succ,← HRR.out];exact ⟨fun h=>h.elim .inl (fun h=>.inr (.inl h)),fun h=>h.elim .inl (fun h=>h.elim .inr (fun h=>absurd h.1 hc))⟩
     clear hG hU bW hge p1 p2 p3 p4 p5 p6 Lr hrr k0 k1 k2 k3 k4
     by_cases hk2:r.kind=2
     ·have TA:=ta11
      rw [hk2,zmC,ec,show ((rwR r ao6 cap6 ao7 cap7 ao8 cap8):List Value).toArray=(rwR r ao6 cap6 ao7 cap7 ao8 cap8).toArray from rfl] at ye;have HC1:=hid hk2;clear ec hk2 hk14
      go_upto_region 14 with fail
      have bA:=bAl wr (.cells (rwR r ao6 cap6 ao7 cap7 ao8 cap8).toArray 164);have X6:=zan wr (rwR r ao6 cap6 ao7 cap7 ao8 cap8).toArray 164;obtain ⟨W6,hW6⟩:∃ y,y=wr.alloc (.cells (rwR r ao6 cap6 ao7 cap7 ao8 cap8).toArray 164):=⟨_,rfl⟩;rw [← hW6] at bA X6 ⊢;have y4:W6.cell? ⟨wr.heap.size,4,none⟩=some (.int .i64 r.group):=X6.cell 4;have y5:W6.cell? ⟨wr.heap.size,5,none⟩=some (.int .i64 r.row):=X6.cell 5;have HG6:=hid (HG.out.next bA);have z6:wr.heap.size<W6.heap.size:=X6.lt;clear hW6 bA X6 TA ye
      by_cases c2:r.group=g
      ·have d2:(r.group==g)=true:=by simp [c2]
       have HC2:=hid c2;clear c2;have bS:=bAl W6 (.cells #[.int .i64 r.row] 2);obtain ⟨u',W',hrun,hG'⟩:=(HG6.out.next bS).app (by have:=bS.size;omega) 1 (ziE W6 r.row k5) (fun e=>by cases e) (by omega);have HG':=hid hG';obtain ⟨au',cau',hu'⟩:=hG'.vw.form;have HUF:=hid hu';clear hG' hu' bS
       go_wp2_with (at_builtin;refine zbX rfl (.tmp 53) (.tmp 58) rfl ?_ ?_ hrun ?_;(simp [Act.eval,Act.put]);(simp [Act.eval,Act.put]))
       clear hrun;go_wp2
       go_roundw
       case rel=>exact ⟨q+1,n+1,_,_,by omega,by go_num,by omega,HG'.out,HYES.out (.inl ⟨HC1.out,HC2.out⟩)⟩
       case measure=>simp [intOf];omega
      ·have d2:(r.group==g)=false:=by simp [c2]
       have HN4:Hid (¬ ((r.kind=2∧r.group=g)∨r.kind=4)):=fun h=>h.elim (fun h=>c2 h.2) (fun h=>by have:=HC1.out;omega);clear c2;go_wp2
       go_roundw
       case rel=>exact ⟨q+1,n,y,cy,by omega,by go_num,by omega,HG6.out,HNO.out HN4.out⟩
       case measure=>simp [intOf];omega
     ·by_cases hk4':r.kind=4
      ·have TA1:=ta31
       have TA:=ta33;rw [hk4',zlX,ec,show ((rwR r ao6 cap6 ao7 cap7 ao8 cap8):List Value).toArray=(rwR r ao6 cap6 ao7 cap7 ao8 cap8).toArray from rfl] at ye;have HC4:=hid hk4';clear ec hk2 hk4' hk14
       go_upto_region 18 with fail
       have bA:=bAl wr (.cells (rwR r ao6 cap6 ao7 cap7 ao8 cap8).toArray 165);have X6:=zan wr (rwR r ao6 cap6 ao7 cap7 ao8 cap8).toArray 165;obtain ⟨W6,hW6⟩:∃ y,y=wr.alloc (.cells (rwR r ao6 cap6 ao7 cap7 ao8 cap8).toArray 165):=⟨_,rfl⟩;rw [← hW6] at bA X6 ⊢;have y5:W6.cell? ⟨wr.heap.size,5,none⟩=some (.int .i64 r.row):=X6.cell 5;have HG6:=hid (HG.out.next bA);have z6:wr.heap.size<W6.heap.size:=X6.lt;clear hW6 bA X6 TA TA1 ye;have bS:=bAl W6 (.cells #[.int .i64 r.row] 2);obtain ⟨u',W',hrun,hG'⟩:=(HG6.out.next bS).app (by have:=bS.size;omega) 1 (ziE W6 r.row k5) (fun e=>by cases e) (by omega);have HG':=hid hG';obtain ⟨au',cau',hu'⟩:=hG'.vw.form;have HUF:=hid hu';clear hG' hu' bS
       go_wp2_with (at_builtin;refine zbX rfl (.tmp 63) (.tmp 68) rfl ?_ ?_ hrun ?_;(simp [Act.eval,Act.put]);(simp [Act.eval,Act.put]))
       clear hrun;go_wp2
       go_roundw
       case rel=>exact ⟨q+1,n+1,_,_,by omega,by go_num,by omega,HG'.out,HYES.out (.inr HC4.out)⟩
       case measure=>simp [intOf];omega
      ·have TA1:=zlW (ce q) hk14 hk2
       have TA2:=zlm (ce q) hk14 hk4';have HN4:Hid (¬ ((r.kind=2∧r.group=g)∨r.kind=4)):=fun h=>h.elim (fun h=>hk2 h.1) hk4';obtain ⟨ev,hev⟩:∃ ev,ev=entV r.kind (ce q):=⟨_,rfl⟩;rw [← hev] at ye TA1 TA2;clear hev hk2 hk4' hk14 ec;go_wp2
       go_roundw
       case rel=>exact ⟨q+1,n,y,cy,by omega,by go_num,by omega,HG.out,HNO.out HN4.out⟩
       case measure=>simp [intOf];omega
    ·obtain rfl:q=N:=by omega
     have HRD:=hid (zja HG.out.vw)
     have HUN:Hid (∀ z,HasP n y z↔U1 s x m g m.length z∨U2 x g q z):=by
      have:=HU.out;rw [HM.out] at this;exact this
     have HBZ:=hid (HB2.out.trans (bW.mono z2));clear hG hU bW;go_wp2;go_ret;exact ⟨m,_,n,y,rfl,HLM.out,HRD.out,HUN.out,HBZ.out⟩
end Go.Proofs.YtmehgpcmoejfcaaGreat
