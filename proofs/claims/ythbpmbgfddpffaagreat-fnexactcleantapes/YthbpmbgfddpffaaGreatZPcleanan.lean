/- What is done, and what is still to be done, at a group. -/
import Derived.Test.YthbpmbgfddpffaaGreatZPcleanam
set_option linter.unusedVariables false
set_option linter.unusedSimpArgs false
set_option maxHeartbeats 16000000
namespace Go.Proofs.YthbpmbgfddpffaaGreat
open Go.RowKit F256
open Go.Maps (Keyed)
theorem zik (p:Nat→Prop) (key:Nat→Value) (y:Value):∀ k,0<cN p key y k↔∃ j,j<k∧p j∧key j=y
 | 0=>⟨fun h=>by simp [cN] at h,fun ⟨j,h,_⟩=>by omega⟩
 | k+1=>by
  have ih:=zik p key y k;unfold cN
  by_cases c:p k∧key k=y
  ·rw [if_pos c]
   exact ⟨fun _=>⟨k,by omega,c⟩,fun _=>by omega⟩
  ·rw [if_neg c,Nat.add_zero,ih]
   constructor
   ·rintro ⟨j,h1,h2⟩
    exact ⟨j,by omega,h2⟩
   ·rintro ⟨j,h1,h2⟩
    exact ⟨j,by
     by_cases e:j=k
     ·subst e;exact absurd h2 c
     ·omega,h2⟩
def DonP (x:Nat→RecD) (N:Nat) (q g:Int):Prop:=∃ j,j<N∧(x j).kind=3∧(x j).seq=q∧(x j).group=g
theorem znE (x:Nat→RecD) (N:Nat) (q g:Int):0<cN (fun i=>(x i).kind=3) (fun i=>.agg #[.int .i64 (x i).seq,.int .i64 (x i).group]) (.agg #[.int .i64 q,.int .i64 g]) N↔DonP x N q g:=by
 rw [zik]
 constructor
 ·rintro ⟨j,h1,h2,h3⟩
  simp only [Value.agg.injEq,Array.mk.injEq,List.cons.injEq,Value.int.injEq,true_and,and_true] at h3
  exact ⟨j,h1,h2,h3.1,h3.2⟩
 ·rintro ⟨j,h1,h2,h3,h4⟩
  exact ⟨j,h1,h2,by rw [h3,h4]⟩
theorem zgB {w:World} {lo B:Nat} {s:Nat→Int} {m N:Nat} {x:Nat→RecD} {ce:Nat→List Value} {v:Value} {b1 b2 b3 b4 b5:Nat} (h:Ldg w lo B s m N x ce v b1 b2 b3 b4 b5) (q g:Int) (hq:-9223372036854775808≤q∧q≤9223372036854775807) (hg:-9223372036854775808≤g∧g≤9223372036854775807) :
 Calls Tryz.prog 137 #[.pointer (some ⟨B,0,none⟩),.int .i64 q,.int .i64 g] w (zba (DonP x N q g) w):=by
 obtain ⟨kl,hkl⟩:=zgx hq hg;have hlook:=h.m3.look zlV Tryz.underlying141 (zdJ _) hkl;rw [show donF x N (.agg #[.int .i64 q,.int .i64 g])=cntF (fun i=>(x i).kind=3) (fun i=>.agg #[.int .i64 (x i).seq,.int .i64 (x i).group]) N (.agg #[.int .i64 q,.int .i64 g]) from rfl,zcS] at hlook;obtain ⟨c,hc⟩:∃ c,c=cN (fun i=>(x i).kind=3) (fun i=>.agg #[.int .i64 (x i).seq,.int .i64 (x i).group]) (.agg #[.int .i64 q,.int .i64 g]) N:=⟨_,rfl⟩
 have HC:Hid (0<c↔DonP x N q g):=by
  show 0<c↔DonP x N q g
  rw [hc];exact znE x N q g
 rw [← hc] at hlook;have d4:w.cell? ⟨B,12,none⟩=some (.map (some b3)):=h.box.cell 12;clear hc hkl h
 by_cases hc0:0<c
 ·have HP:=hid (HC.out.1 hc0)
  have t1:(0:Int)<(c:Int):=by omega
  clear HC
  go_enter Tryz.func137,Tryz.ntmps137
  go_wp2;go_ret;exact ⟨true,rfl,⟨fun _=>HP.out,fun _=>rfl⟩,Below.refl _ _⟩
 ·have HP:Hid (¬ DonP x N q g):=fun h=>hc0 (HC.out.2 h)
  obtain rfl:c=0:=by omega
  clear HC
  go_enter Tryz.func137,Tryz.ntmps137
  go_wp2;go_ret;exact ⟨false,rfl,⟨(fun h=>by cases h),fun h=>absurd h HP.out⟩,Below.refl _ _⟩
noncomputable def und (s:Nat→Int) (g:Int) (x:Nat→RecD) (N:Nat):Nat→Bool:=fun i=>@decide ((x i).kind=2∧((x i).group=g∨¬ InP g 0 (s 0-1))∧¬ DonP x N (x i).seq g) (Classical.propDecidable _)
theorem zdM {p:Nat→Bool} {k:Nat} (hp:p k=true):∀ n,k<n→zck p n (zbU p k).length=k∧(zbU p k).length<(zbU p n).length
 | 0,h=>by omega
 | n+1,h=>by
  by_cases c:k=n
  ·subst c
   exact ⟨zkX hp,by rw [zc1,if_pos hp];simp⟩
  ·obtain ⟨h1,h2⟩:=zdM hp n (by omega)
   exact ⟨(zkW h2).trans h1,by rw [zc1,List.length_append];omega⟩
end Go.Proofs.YthbpmbgfddpffaaGreat
namespace Go.Proofs.YthbpmbgfddpffaaGreat
open Go.RowKit F256
def zdo (n:Nat) (y:Nat→RecD):Int:=if n=0 then 0 else (y (n-1)).seq
def zoh (n:Nat) (y:Nat→RecD):Int:=IntKind.i64.wrap (zdo n y+1)
set_option maxRecDepth 20000 in
theorem zl2 (v:Value) (n:Nat) (y:Nat→RecD) (hi:Nat) (w:World) (h:(zab.slice 85).rd w hi (n,y) [v]) (hn:n≤1000000000) :
 Calls Tryz.prog 70 #[v] w (fun e w'=>e=.returned (.int .i64 (zdo n y))∧w'=w):=by
 obtain ⟨ao,cap,e,hmm,hc⟩:=h
 obtain rfl:v=.slice ao n cap:=by simpa using e
 have hc':n≠0→∃ b off,ao=some ⟨b,off,none⟩∧b<hi∧∀ i,i<n→∃ ce,zab.rd w hi (y i) ce∧∀ j,j<zab.sz→w.cell? ⟨b,off+(i*zab.sz+j),none⟩=ce[j]?:=hc;clear e hmm hc
 by_cases h0:n=0
 ·subst h0
  have e1:zdo 0 y=0:=rfl;rw [e1];clear hc' e1
  go_enter Tryz.func70,Tryz.ntmps70
  go_wp2;go_ret;exact ⟨rfl,rfl⟩
 ·obtain ⟨b,off,rfl,hb,hel⟩:=hc' h0
  obtain ⟨m,rfl⟩:∃ m,n=m+1:=⟨n-1,by omega⟩;obtain ⟨ce,hr,hcell⟩:=hel m (by omega);obtain ⟨a6,ak6,a7,ak7,a8,ak8,rfl,-⟩:=zaD hr
  have s1:w.cell? ⟨b,off+m*9+1,none⟩=some (.int .i64 (y m).seq):=by have:=hcell 1 (by decide);rw [← Nat.add_assoc] at this;exact this
  have e1:zdo (m+1) y=(y m).seq:=rfl;rw [e1]
  have wP:IntKind.i64.wrap (((m+1:Nat):Int)-1)=(m:Int):=by rw [IntKind.wrap_i64];omega
  have wA:IntKind.i64.wrap (m:Int)=(m:Int):=by rw [IntKind.wrap_i64];omega
  have i1:(0:Int)≤(m:Int):=by omega
  have i2:(m:Int)<((m+1:Nat):Int):=by omega
  have i3:m<m+1:=by omega
  clear hc' hel hr hcell e1
  go_enter Tryz.func70,Tryz.ntmps70
  go_wp2;go_ret;exact ⟨rfl,rfl⟩
set_option maxRecDepth 20000 in
theorem zfT (v:Value) (n:Nat) (y:Nat→RecD) (hi:Nat) (w:World) (h:(zab.slice 85).rd w hi (n,y) [v]) (hn:n≤1000000000) :
 Calls Tryz.prog 92 #[v] w (fun e w'=>e=.returned (.int .i64 (zdo n y))∧w'=w):=by
 obtain ⟨ao,cap,e,hmm,hc⟩:=h
 obtain rfl:v=.slice ao n cap:=by simpa using e
 have hc':n≠0→∃ b off,ao=some ⟨b,off,none⟩∧b<hi∧∀ i,i<n→∃ ce,zab.rd w hi (y i) ce∧∀ j,j<zab.sz→w.cell? ⟨b,off+(i*zab.sz+j),none⟩=ce[j]?:=hc;clear e hmm hc
 by_cases h0:n=0
 ·subst h0
  have e1:zdo 0 y=0:=rfl;rw [e1];clear hc' e1
  go_enter Tryz.func92,Tryz.ntmps92
  go_wp2;go_ret;exact ⟨rfl,rfl⟩
 ·obtain ⟨b,off,rfl,hb,hel⟩:=hc' h0
  obtain ⟨m,rfl⟩:∃ m,n=m+1:=⟨n-1,by omega⟩;obtain ⟨ce,hr,hcell⟩:=hel m (by omega);obtain ⟨a6,ak6,a7,ak7,a8,ak8,rfl,-⟩:=zaD hr
  have s1:w.cell? ⟨b,off+m*9+1,none⟩=some (.int .i64 (y m).seq):=by have:=hcell 1 (by decide);rw [← Nat.add_assoc] at this;exact this
  have e1:zdo (m+1) y=(y m).seq:=rfl;rw [e1]
  have wP:IntKind.i64.wrap (((m+1:Nat):Int)-1)=(m:Int):=by rw [IntKind.wrap_i64];omega
  have wA:IntKind.i64.wrap (m:Int)=(m:Int):=by rw [IntKind.wrap_i64];omega
  have i1:(0:Int)≤(m:Int):=by omega
  have i2:(m:Int)<((m+1:Nat):Int):=by omega
  have i3:m<m+1:=by omega
  clear hc' hel hr hcell e1
  go_enter Tryz.func92,Tryz.ntmps92
  go_wp2;go_ret;exact ⟨rfl,rfl⟩
def SptP (s:Nat→Int) (x:Nat→RecD) (N i:Nat):Prop:=
 ((x i).kind=1∧zcA (itm x (x i).name) N≠(i:Int)) ∨
 ((x i).kind=2∧DonP x N (x i).seq (x i).group∧∀ g,s 0≤g→g<s 0+s 1→DonP x N (x i).seq g) ∨
 ((x i).kind=3∧¬ ∃ j,j<N∧(x j).kind=2∧(x j).seq=(x i).seq) ∨
 ((x i).kind=4∧∃ j,j<N∧(((x j).kind=3∧(x j).seq=(x i).seq)∨((x j).kind=4∧(x j).group=(x i).group∧(x j).row=(x i).row∧(x i).seq<(x j).seq)))
theorem spt1 {s:Nat→Int} {x:Nat→RecD} {N i:Nat} (h:(x i).kind=1):SptP s x N i↔zcA (itm x (x i).name) N≠(i:Int):=
 ⟨fun h'=>by
  rcases h' with ⟨_,q⟩ | ⟨k,_⟩ | ⟨k,_⟩ | ⟨k,_⟩
  ·exact q
  all_goals (rw [h] at k;exact absurd k (by decide)),fun q=>.inl ⟨h,q⟩⟩
theorem spt2 {s:Nat→Int} {x:Nat→RecD} {N i:Nat} (h:(x i).kind=2):SptP s x N i↔(DonP x N (x i).seq (x i).group∧∀ g,s 0≤g→g<s 0+s 1→DonP x N (x i).seq g):=
 ⟨fun h'=>by
  rcases h' with ⟨k,_⟩ | ⟨_,q⟩ | ⟨k,_⟩ | ⟨k,_⟩
  ·rw [h] at k;exact absurd k (by decide)
  ·exact q
  all_goals (rw [h] at k;exact absurd k (by decide)),fun q=>.inr (.inl ⟨h,q⟩)⟩
theorem spt3 {s:Nat→Int} {x:Nat→RecD} {N i:Nat} (h:(x i).kind=3):SptP s x N i↔¬ ∃ j,j<N∧(x j).kind=2∧(x j).seq=(x i).seq:=
 ⟨fun h'=>by
  rcases h' with ⟨k,_⟩ | ⟨k,_⟩ | ⟨_,q⟩ | ⟨k,_⟩
  ·rw [h] at k;exact absurd k (by decide)
  ·rw [h] at k;exact absurd k (by decide)
  ·exact q
  ·rw [h] at k;exact absurd k (by decide),fun q=>.inr (.inr (.inl ⟨h,q⟩))⟩
theorem spt4 {s:Nat→Int} {x:Nat→RecD} {N i:Nat} (h:(x i).kind=4):SptP s x N i↔∃ j,j<N∧(((x j).kind=3∧(x j).seq=(x i).seq)∨((x j).kind=4∧(x j).group=(x i).group∧(x j).row=(x i).row∧(x i).seq<(x j).seq)):=
 ⟨fun h'=>by
  rcases h' with ⟨k,_⟩ | ⟨k,_⟩ | ⟨k,_⟩ | ⟨_,q⟩
  ·rw [h] at k;exact absurd k (by decide)
  ·rw [h] at k;exact absurd k (by decide)
  ·rw [h] at k;exact absurd k (by decide)
  ·exact q,fun q=>.inr (.inr (.inr ⟨h,q⟩))⟩
def SpaP (s:Nat→Int) (x:Nat→RecD) (N i:Nat):Prop:=(x i).seq<zdo N x∧∀ k,k<N→(x k).kind=(x i).kind→(x k).seq=(x i).seq→SptP s x N k
noncomputable def spa (s:Nat→Int) (x:Nat→RecD) (N i:Nat):Bool:=@decide (SpaP s x N i) (Classical.propDecidable _)
theorem zl3 (s:Nat→Int) (x:Nat→RecD) (N i:Nat):spa s x N i=true↔SpaP s x N i:=by unfold spa;exact @decide_eq_true_iff _ (Classical.propDecidable _)
theorem zl4 {s:Nat→Int} {x:Nat→RecD} {N i:Nat} (h:¬ SpaP s x N i):spa s x N i=false:=Bool.eq_false_iff.2 (fun e=>h ((zl3 s x N i).1 e))
structure Csd (x:Nat→RecD) (N:Nat):Prop where
 up:∀ i j,i<j→j<N→(x i).seq≤(x j).seq
 one:∀ i j,i<N→j<N→SameR (x i) (x j)→i=j
theorem Cnt.csd {x0:Nat→RecD} {M:Nat} {l:List Nat} (h:Cnt x0 M l):Csd (fun i=>x0 (l.getD i 0)) l.length:=by
 have hp:=List.pairwise_iff_getElem.1 h.srt
 have hg:∀ i (hi:i<l.length),l.getD i 0=l[i]:=fun i hi=>by rw [List.getD_eq_getElem?_getD,List.getElem?_eq_getElem hi];rfl
 refine ⟨fun i j hij hj=>?_,fun i j hi hj hs=>?_⟩
 ·have h1:=hp i j (by omega) hj hij
  show (x0 (l.getD i 0)).seq≤(x0 (l.getD j 0)).seq
  rw [hg i (by omega),hg j hj]
  rcases h1 with h1 | ⟨h1,_⟩
  ·rcases zdG.1 h1 with h | ⟨h,_⟩<;>omega
  ·have:=(zdc.1 h1).1;omega
 ·have key:∀ i j,i<j→j<l.length→¬ SameR (x0 (l.getD i 0)) (x0 (l.getD j 0)):=fun i j hij hj hs=>by
   rw [hg i (by omega),hg j hj] at hs
   rcases hp i j (by omega) hj hij with h1 | ⟨_,h2⟩
   ·rw [hs.num] at h1;omega
   ·exact ((h.mem _).1 (List.getElem_mem hj)).2 _ h2 hs
  rcases Nat.lt_trichotomy i j with c | c | c
  ·exact absurd hs (key i j c hj)
  ·exact c
  ·exact absurd hs.symm (key j i c hi)
def shp (x:Nat→RecD) (g r:Int) (i:Nat):Prop:=(x i).kind=4∧(x i).group=g∧(x i).row=r
theorem zl5 (x:Nat→RecD) (g r:Int):∀ N,(zcA (shp x g r) N=-1→shaF x N (.agg #[.int .i64 g,.int .i64 r])=none)∧∀ i:Nat,zcA (shp x g r) N=(i:Int)→shaF x N (.agg #[.int .i64 g,.int .i64 r])=some (.int .i64 (x i).seq)
 | 0=>⟨fun _=>rfl,fun i h=>by unfold zcA at h;omega⟩
 | N+1=>by
  have ih:=zl5 x g r N
  by_cases hk:(x N).kind=4
  ·have e1:shaF x (N+1)=putF (shaF x N) (.agg #[.int .i64 (x N).group,.int .i64 (x N).row]) (.int .i64 (x N).seq):=zev hk
   by_cases hg:(x N).group=g∧(x N).row=r
   ·have e2:zcA (shp x g r) (N+1)=(N:Int):=zdK ⟨hk,hg⟩
    rw [e1,hg.1,hg.2,zdI,e2];refine ⟨fun h=>by omega,fun i hi=>?_⟩
    obtain rfl:N=i:=by omega
    rfl
   ·have e2:zcA (shp x g r) (N+1)=zcA (shp x g r) N:=zb6 (fun h=>hg h.2)
    rw [e1,e2,zdV]
    ·exact ih
    ·intro e
     apply hg
     simp at e
     exact ⟨e.1.symm,e.2.symm⟩
  ·have e1:shaF x (N+1)=shaF x N:=zb4 hk
   have e2:zcA (shp x g r) (N+1)=zcA (shp x g r) N:=zb6 (fun h=>hk h.1);rw [e1,e2];exact ih
theorem ze9 {p:Nat→Prop}:∀ {N i:Nat},i<N→p i→(i:Int)≤zcA p N
 | N+1,i,hi,hp=>by
  by_cases c:p N
  ·rw [zdK c];omega
  ·rw [zb6 c]
   exact ze9 (by
    by_cases e:i=N
    ·subst e;exact absurd hp c
    ·omega) hp
theorem znF {x:Nat→RecD} {N:Nat} (hC:Csd x N) {i:Nat} (hi:i<N) (hk:(x i).kind=4):∃ j,j<N∧shaF x N (.agg #[.int .i64 (x i).group,.int .i64 (x i).row])=some (.int .i64 (x j).seq)∧((x i).seq<(x j).seq↔∃ j,j<N∧(x j).kind=4∧(x j).group=(x i).group∧(x j).row=(x i).row∧(x i).seq<(x j).seq):=by
 have hge:=ze9 (p:=shp x (x i).group (x i).row) hi ⟨hk,rfl,rfl⟩
 rcases zd8 (shp x (x i).group (x i).row) N with e | ⟨j,hj,e,hp⟩
 ·omega
 ·refine ⟨j,hj,(zl5 x _ _ N).2 j e,fun h=>⟨j,hj,hp.1,hp.2.1,hp.2.2,h⟩,fun ⟨k,hk,k1,k2,k3,k4⟩=>?_⟩
  have:=ze9 (p:=shp x (x i).group (x i).row) hk ⟨k1,k2,k3⟩
  by_cases c:k=j
  ·subst c;exact k4
  ·have:=hC.up k j (by omega) hj;omega
theorem znG {x:Nat→RecD} {N:Nat} (hC:Csd x N) (ce:Nat→List Value) {i:Nat} (hi:i<N) (hk:(x i).kind=1):∃ j,j<N∧newF x ce N (.string (x i).name)=some (.agg (ce j).toArray)∧(SameR (x i) (x j)↔zcA (itm x (x i).name) N=(i:Int)):=by
 have hge:=ze9 (p:=itm x (x i).name) hi ⟨hk,rfl⟩
 rcases zd8 (itm x (x i).name) N with e | ⟨j,hj,e,hp⟩
 ·omega
 ·refine ⟨j,hj,(zlZ x ce _ N).2 j e,fun h=>?_,fun h=>?_⟩
  ·rw [hC.one i j hi hj h];rw [← hC.one i j hi hj h] at e ⊢;exact e
  ·obtain rfl:j=i:=by omega
   exact ⟨rfl,rfl,rfl,rfl,rfl,rfl,⟨rfl,fun _ _=>rfl⟩,⟨rfl,fun _ _=>rfl⟩,⟨rfl,fun _ _=>rfl⟩⟩
theorem znH (x:Nat→RecD) (N:Nat) (q:Int):0<cN (fun i=>(x i).kind=2) (fun i=>.int .i64 (x i).seq) (.int .i64 q) N↔∃ j,j<N∧(x j).kind=2∧(x j).seq=q:=by
 rw [zik];exact ⟨fun ⟨j,a,b,c⟩=>⟨j,a,b,by simpa using c⟩,fun ⟨j,a,b,c⟩=>⟨j,a,b,by rw [c]⟩⟩
theorem znI (x:Nat→RecD) (N:Nat) (q:Int):0<cN (fun i=>(x i).kind=3) (fun i=>.int .i64 (x i).seq) (.int .i64 q) N↔∃ j,j<N∧(x j).kind=3∧(x j).seq=q:=by
 rw [zik];exact ⟨fun ⟨j,a,b,c⟩=>⟨j,a,b,by simpa using c⟩,fun ⟨j,a,b,c⟩=>⟨j,a,b,by rw [c]⟩⟩
theorem zoi {x:Nat→RecD} {N:Nat} (hC:Csd x N) {i:Nat} (hi:i<N):(x i).seq≤zdo N x:=by
 unfold zdo;rw [if_neg (by omega)]
 by_cases c:i=N-1
 ·rw [c];exact Int.le_refl _
 ·exact hC.up i (N-1) (by omega) (by omega)
set_option maxRecDepth 100000 in
theorem zil {w:World} {lo B hi:Nat} {s:Nat→Int} {N:Nat} {x:Nat→RecD} {ce:Nat→List Value} {v:Value} {b1 b2 b3 b4 b5:Nat} (h:Ldg w lo B s N N x ce (v) b1 b2 b3 b4 b5) (hok:zap s) (q:Int) (hq:-9223372036854775808≤q∧q≤9223372036854775807) :
 Calls Tryz.prog 138 #[.pointer (some ⟨B,0,none⟩),.int .i64 q] w (zba (∀ g,s 0≤g→g<s 0+s 1→DonP x N q g) w):=by
 have HL:=hid h;have HOK:=hid hok;have hsb:=okB hok;have x_0:w.cell? ⟨B,0,none⟩=some (.int .i64 (s 0)):=h.box.cell 0;clear h hok
 go_enter Tryz.func138,Tryz.ntmps138
 go_wp2
 go_loopw [5] (fun z wr=>∃ k:Nat,(k:Int)≤s 1∧z=.int .i64 (s 0+k)∧(∀ t:Nat,t<k→DonP x N q (s 0+t))∧Below w.heap.size w wr) (fun z _=>(s 0+s 1-intOf z).toNat)
 case atStart=>exact ⟨0,by omega,by simp,fun t ht=>by omega,Below.refl _ _⟩
 case round=>
  clear x_0;obtain ⟨k,hk,rfl,hall,hb⟩:=hrel;obtain ⟨wx,rfl⟩:∃ y,y=wr:=⟨_,rfl⟩;have HALL:=hid hall;have HB:=hid hb;have zx:=hb.size;have Lr:=HL.out.keepAll (fun b hb'=>hb.block b hb');have HLr:=hid Lr;have x_0:wx.cell? ⟨B,0,none⟩=some (.int .i64 (s 0)):=Lr.box.cell 0;have x_1:wx.cell? ⟨B,1,none⟩=some (.int .i64 (s 1)):=Lr.box.cell 1;have x_2:wx.cell? ⟨B,2,none⟩=some (.int .i64 (s 2)):=Lr.box.cell 2;have x_3:wx.cell? ⟨B,3,none⟩=some (.int .i64 (s 3)):=Lr.box.cell 3;have x_4:wx.cell? ⟨B,4,none⟩=some (.int .i64 (s 4)):=Lr.box.cell 4;have x_5:wx.cell? ⟨B,5,none⟩=some (.int .i64 (s 5)):=Lr.box.cell 5;have x_6:wx.cell? ⟨B,6,none⟩=some (.int .i64 (s 6)):=Lr.box.cell 6;have x_7:wx.cell? ⟨B,7,none⟩=some (.int .i64 (s 7)):=Lr.box.cell 7;have x_8:wx.cell? ⟨B,8,none⟩=some (.int .i64 (s 8)):=Lr.box.cell 8;have CG:=zbC s HOK.out wx;unfold zal at CG;clear hall hb Lr
  by_cases hlt:(k:Int)<s 1
  ·have t1:s 0+(k:Int)<s 0+s 1:=by omega
   go_wp2_with fail
   refine CG.mono ?_;rintro e w5 ⟨rfl,b5⟩;have L5:=HLr.out.keepAll (fun b hb'=>b5.block b hb');have z5:=b5.size;have CD:=zgB L5 q (s 0+k) hq (by omega);have HB5:=hid (HB.out.trans (b5.mono zx));clear CG b5 L5 x_0 x_1 x_2 x_3 x_4 x_5 x_6 x_7 x_8
   go_wp2_with fail
   refine CD.mono ?_;rintro e w6 ⟨td,rfl,htd,b6⟩;have HTD:=hid htd;have HB6:Hid (Below w.heap.size w w6):=HB5.out.trans (b6.mono (by omega));clear CD htd b6
   cases td with
   | false=>
    go_wp2;go_ret;exact ⟨false,rfl,⟨(fun h=>by cases h),fun h=>absurd (HTD.out.2 (h (s 0+k) (by omega) t1)) (by simp)⟩,HB6.out⟩
   | true=>
    have zi:IntKind.i64.wrap (s 0+(k:Int)+1)=s 0+((k+1:Nat):Int):=by rw [IntKind.wrap_i64];omega
    go_wp2
    go_roundw
    case rel=>exact ⟨k+1,by omega,by first | rfl | simp [zi] | (rw [zi]),fun t ht=>by
     by_cases c:t=k
     ·subst c;exact HTD.out.1 (by simp)
     ·exact HALL.out t (by omega),HB6.out⟩
    case measure=>simp [intOf,zi];omega
  ·have t1:decide (s 0+(k:Int)<s 0+s 1)=false:=by simp;omega
   have HDN:Hid (∀ g,s 0≤g→g<s 0+s 1→DonP x N q g):=fun g h1 h2=>by
    have:=HALL.out (g-s 0).toNat (by omega);rw [show s 0+((g-s 0).toNat:Int)=g by omega] at this;exact this
   go_wp2_with fail
   refine CG.mono ?_;rintro e w5 ⟨rfl,b5⟩;have HB5:=hid (HB.out.trans (b5.mono zx));clear CG b5 x_0 x_1 x_2 x_3 x_4 x_5 x_6 x_7 x_8;go_wp2;go_ret;exact ⟨true,rfl,⟨fun _=>HDN.out,fun _=>rfl⟩,HB5.out⟩
theorem zmU (cs:List Value):entV 1 cs=.iface 185 (.agg cs.toArray):=by
 unfold entV entT
 simp
theorem zmV (cs:List Value):entV 2 cs=.iface 186 (.agg cs.toArray):=by
 unfold entV entT
 simp
theorem zmW (cs:List Value):entV 3 cs=.iface 187 (.agg cs.toArray):=by
 unfold entV entT
 simp
theorem zl6 (cs:List Value):entV 4 cs=.iface 190 (.agg cs.toArray):=by
 unfold entV entT
 simp
set_option maxRecDepth 100000 in
theorem zim {w:World} {lo B hi:Nat} {s:Nat→Int} {N:Nat} {x:Nat→RecD} {ce:Nat→List Value} {v:Value} {b1 b2 b3 b4 b5:Nat} (h:Ldg w lo B s N N x ce (v) b1 b2 b3 b4 b5) (hok:zap s) (hC:Csd x N) (hhi:hi≤w.heap.size) (hr:∀ i,i<N→zab.rd w hi (x i) (ce i)) {i:Nat} (hi':i<N) (hk:(x i).kind=1) :
 Calls Tryz.prog 91 #[.pointer (some ⟨B,0,none⟩),entV (x i).kind (ce i)] w (zba (SptP s x N i) w):=by
 have HL:=hid h;have HOK:=hid hok;have HCS:=hid hC;have HK:=hid hk;have HI:=hid hi';have HR:=hid hr;obtain ⟨ao6,cap6,ao7,cap7,ao8,cap8,ec,-,-,-,k0,k1,k2,k3,k4,k5⟩:=zaD (hr i hi');rw [hk,zmU,ec,show ([.int .i64 (x i).kind,.int .i64 (x i).seq,.string (x i).name,.int .i64 (x i).length,.int .i64 (x i).group,.int .i64 (x i).row,.slice ao6 (x i).rows.1 cap6,.slice ao7 (x i).data.1 cap7,.slice ao8 (x i).delta.1 cap8]:List Value).toArray=#[.int .i64 (x i).kind,.int .i64 (x i).seq,.string (x i).name,.int .i64 (x i).length,.int .i64 (x i).group,.int .i64 (x i).row,.slice ao6 (x i).rows.1 cap6,.slice ao7 (x i).data.1 cap7,.slice ao8 (x i).delta.1 cap8] from rfl];obtain ⟨r,hrr⟩:∃ r,r=x i:=⟨_,rfl⟩;have HRR:=hid hrr;rw [← hrr] at ec k1 k2 k4 k5 ⊢;have HEC:=hid ec;obtain ⟨j,hj,hnew,hsame⟩:=znG HCS.out ce HI.out hk;obtain ⟨t,ht⟩:=exB (SameR (x i) (x j));have HT:=hid (ht.trans hsame);obtain ⟨bo6,bap6,bo7,bap7,bo8,bap8,eq,-,-,-,-,-,-,-,-,-⟩:=zaD (hr j hj);obtain ⟨q,hq⟩:∃ q,q=x j:=⟨_,rfl⟩;rw [← hq] at eq;rw [← hrr] at hnew;rw [eq] at hnew;obtain ⟨kl,hkl⟩:=zlW k2
 have hri:zab.rd w hi r [.int .i64 r.kind,.int .i64 r.seq,.string r.name,.int .i64 r.length,.int .i64 r.group,.int .i64 r.row,.slice ao6 r.rows.1 cap6,.slice ao7 r.data.1 cap7,.slice ao8 r.delta.1 cap8]:=by rw [← ec,hrr];exact hr i hi'
 have hrj:zab.rd w hi q [.int .i64 q.kind,.int .i64 q.seq,.string q.name,.int .i64 q.length,.int .i64 q.group,.int .i64 q.row,.slice bo6 q.rows.1 bap6,.slice bo7 q.data.1 bap7,.slice bo8 q.delta.1 bap8]:=by rw [← eq,hq];exact hr j hj
 rw [← hrr,← hq] at ht;have HT2:=hid ht;have HRI:=hid hri;have HRJ:=hid hrj
 have HLK:Hid (∀ w',Below w.heap.size w w'→(Instr.lookup 139 (.map (some b1)) (.string r.name) false).run Tryz.prog w'=.ok (.agg #[.int .i64 q.kind,.int .i64 q.seq,.string q.name,.int .i64 q.length,.int .i64 q.group,.int .i64 q.row,.slice bo6 q.rows.1 bap6,.slice bo7 q.data.1 bap7,.slice bo8 q.delta.1 bap8]) w'):=fun w' hb=>by
  have h1:=(HL.out.keepAll (fun b hb'=>hb.block b hb')).m1.look keyS Tryz.underlying139 (zof _) hkl;rw [hnew] at h1;exact h1
 have f1:∀ w,(Instr.field 185 (.agg #[.int .i64 q.kind,.int .i64 q.seq,.string q.name,.int .i64 q.length,.int .i64 q.group,.int .i64 q.row,.slice bo6 q.rows.1 bap6,.slice bo7 q.data.1 bap7,.slice bo8 q.delta.1 bap8]) 0).run Tryz.prog w=.ok (.agg #[.int .i64 q.kind,.int .i64 q.seq,.string q.name,.int .i64 q.length,.int .i64 q.group,.int .i64 q.row,.slice bo6 q.rows.1 bap6,.slice bo7 q.data.1 bap7,.slice bo8 q.delta.1 bap8]) w:=fun w=>by kernel_rfl
 have f2:∀ w,(Instr.field 183 (.agg #[.int .i64 q.kind,.int .i64 q.seq,.string q.name,.int .i64 q.length,.int .i64 q.group,.int .i64 q.row,.slice bo6 q.rows.1 bap6,.slice bo7 q.data.1 bap7,.slice bo8 q.delta.1 bap8]) 0).run Tryz.prog w=.ok (.agg #[.int .i64 q.kind,.int .i64 q.seq,.string q.name,.int .i64 q.length,.int .i64 q.group,.int .i64 q.row,.slice bo6 q.rows.1 bap6,.slice bo7 q.data.1 bap7,.slice bo8 q.delta.1 bap8]) w:=fun w=>by kernel_rfl
 have TA0:=ta00;clear h hok hC hr hi' hk hrr ec k0 k3 k1 k2 k4 k5 ht hsame hnew hkl hj eq hq hri hrj
 go_enter Tryz.func91,Tryz.ntmps91
 go_upto_region 4 with fail
 have X6:=zaq w #[.int .i64 r.kind,.int .i64 r.seq,.string r.name,.int .i64 r.length,.int .i64 r.group,.int .i64 r.row,.slice ao6 r.rows.1 cap6,.slice ao7 r.data.1 cap7,.slice ao8 r.delta.1 cap8] 185;have b6:=bAl w (.cells #[.int .i64 r.kind,.int .i64 r.seq,.string r.name,.int .i64 r.length,.int .i64 r.group,.int .i64 r.row,.slice ao6 r.rows.1 cap6,.slice ao7 r.data.1 cap7,.slice ao8 r.delta.1 cap8] 185);obtain ⟨W6,hW6⟩:∃ y,y=w.alloc (.cells #[.int .i64 r.kind,.int .i64 r.seq,.string r.name,.int .i64 r.length,.int .i64 r.group,.int .i64 r.row,.slice ao6 r.rows.1 cap6,.slice ao7 r.data.1 cap7,.slice ao8 r.delta.1 cap8] 185):=⟨_,rfl⟩;rw [← hW6] at X6 b6 ⊢;have L6:=HL.out.keepAll (fun b hb'=>b6.block b hb');have z6:w.heap.size<W6.heap.size:=X6.lt;have HB6:=hid b6;have HL6:=hid L6;have x_10:W6.cell? ⟨B,10,none⟩=some (.map (some b1)):=L6.box.cell 10;have xk_10:=cell_regrown x_10;have y_0:W6.cell? ⟨w.heap.size,0,none⟩=some (.int .i64 r.kind):=X6.cell 0;have yk_0:=cell_regrown y_0;have y_1:W6.cell? ⟨w.heap.size,1,none⟩=some (.int .i64 r.seq):=X6.cell 1;have yk_1:=cell_regrown y_1;have y_2:W6.cell? ⟨w.heap.size,2,none⟩=some (.string r.name):=X6.cell 2;have yk_2:=cell_regrown y_2;have y_3:W6.cell? ⟨w.heap.size,3,none⟩=some (.int .i64 r.length):=X6.cell 3;have yk_3:=cell_regrown y_3;have y_4:W6.cell? ⟨w.heap.size,4,none⟩=some (.int .i64 r.group):=X6.cell 4;have yk_4:=cell_regrown y_4;have y_5:W6.cell? ⟨w.heap.size,5,none⟩=some (.int .i64 r.row):=X6.cell 5;have yk_5:=cell_regrown y_5;have y_6:W6.cell? ⟨w.heap.size,6,none⟩=some (.slice ao6 r.rows.1 cap6):=X6.cell 6;have yk_6:=cell_regrown y_6;have y_7:W6.cell? ⟨w.heap.size,7,none⟩=some (.slice ao7 r.data.1 cap7):=X6.cell 7;have yk_7:=cell_regrown y_7;have y_8:W6.cell? ⟨w.heap.size,8,none⟩=some (.slice ao8 r.delta.1 cap8):=X6.cell 8;have yk_8:=cell_regrown y_8;have lHLK:=HLK.out W6 b6;have lHLKk:=fun d os=>HLK.out _ (b6.trans ((below_regrown W6 d os).mono (Nat.le_of_lt z6)));have cS:=zaP (W:=W6) (fun w' hb'=>zbv (zeW r q _ _ hi hi w' (zab.rd_below HRI.out (b6.trans (hb'.mono (Nat.le_of_lt z6))) hhi) (zab.rd_below HRJ.out (b6.trans (hb'.mono (Nat.le_of_lt z6))) hhi) (by have:=hb'.size;omega) (by have:=hb'.size;omega)) HT2.out);clear TA0 hW6 X6 b6 L6;refine WQ.region (by kernel_rfl) (by kernel_rfl) ?_
 repeat (first | (apply WQ.skip;(case hw=>rfl);intro K hK;go_simp;apply hK;clear hK K) | (apply WQ.want;(case hw=>rfl);intro K hK;go_simp;first | (apply hK;clear hK K) | (apply Exists.intro;apply And.intro;(case left=>intro p;(first | (go_at_call 136;exact cS _ _)));apply hK;clear hK K)))
 refine WQ.nil ?_;intro w7 hw7;have HB7:Hid (Below w.heap.size w w7):=HB6.out.trans ((zaF hw7).mono (Nat.le_of_lt z6));clear hw7 x_10 xk_10 y_0 yk_0 y_1 yk_1 y_2 yk_2 y_3 yk_3 y_4 yk_4 y_5 yk_5 y_6 yk_6 y_7 yk_7 y_8 yk_8 lHLK lHLKk cS f1 f2;go_wp2;go_ret;exact ⟨!t,rfl,by rw [spt1 HK.out];have:=HT.out;cases t<;>simp_all,HB7.out⟩
set_option maxRecDepth 100000 in
theorem zin {w:World} {lo B hi:Nat} {s:Nat→Int} {N:Nat} {x:Nat→RecD} {ce:Nat→List Value} {v:Value} {b1 b2 b3 b4 b5:Nat} (h:Ldg w lo B s N N x ce (v) b1 b2 b3 b4 b5) (hok:zap s) (hC:Csd x N) (hhi:hi≤w.heap.size) (hr:∀ i,i<N→zab.rd w hi (x i) (ce i)) {i:Nat} (hi':i<N) (hk:(x i).kind=2) :
 Calls Tryz.prog 91 #[.pointer (some ⟨B,0,none⟩),entV (x i).kind (ce i)] w (zba (SptP s x N i) w):=by
 have HL:=hid h;have HOK:=hid hok;have HCS:=hid hC;have HK:=hid hk;have HI:=hid hi';have HR:=hid hr;obtain ⟨ao6,cap6,ao7,cap7,ao8,cap8,ec,-,-,-,k0,k1,k2,k3,k4,k5⟩:=zaD (hr i hi');rw [hk,zmV,ec,show ([.int .i64 (x i).kind,.int .i64 (x i).seq,.string (x i).name,.int .i64 (x i).length,.int .i64 (x i).group,.int .i64 (x i).row,.slice ao6 (x i).rows.1 cap6,.slice ao7 (x i).data.1 cap7,.slice ao8 (x i).delta.1 cap8]:List Value).toArray=#[.int .i64 (x i).kind,.int .i64 (x i).seq,.string (x i).name,.int .i64 (x i).length,.int .i64 (x i).group,.int .i64 (x i).row,.slice ao6 (x i).rows.1 cap6,.slice ao7 (x i).data.1 cap7,.slice ao8 (x i).delta.1 cap8] from rfl];obtain ⟨r,hrr⟩:∃ r,r=x i:=⟨_,rfl⟩;have HRR:=hid hrr;rw [← hrr] at ec k1 k2 k4 k5 ⊢;have HEC:=hid ec;obtain ⟨td,htd⟩:=exB (DonP x N r.seq r.group);obtain ⟨tp,htp⟩:=exB (∀ g,s 0≤g→g<s 0+s 1→DonP x N r.seq g);have HTD:=hid htd;have HTP:=hid htp;have HQ1:=hid k1;have HQ4:=hid k4;have TA0:=ta10;have TA1:=ta11;clear h hok hC hr hi' hk hrr ec k0 k3 k1 k2 k4 k5 htd htp
 go_enter Tryz.func91,Tryz.ntmps91
 go_upto_region 7 with fail
 have X6:=zaq w (rwR r ao6 cap6 ao7 cap7 ao8 cap8).toArray 186;have b6:=bAl w (.cells (rwR r ao6 cap6 ao7 cap7 ao8 cap8).toArray 186);obtain ⟨W6,hW6⟩:∃ y,y=w.alloc (.cells (rwR r ao6 cap6 ao7 cap7 ao8 cap8).toArray 186):=⟨_,rfl⟩;rw [← hW6] at X6 b6 ⊢;have L6:=HL.out.keepAll (fun b hb'=>b6.block b hb');have z6:w.heap.size<W6.heap.size:=X6.lt;have HB6:=hid b6;have HL6:=hid L6;have y_0:W6.cell? ⟨w.heap.size,0,none⟩=some (.int .i64 r.kind):=X6.cell 0;have yk_0:=cell_regrown y_0;have y_1:W6.cell? ⟨w.heap.size,1,none⟩=some (.int .i64 r.seq):=X6.cell 1;have yk_1:=cell_regrown y_1;have y_2:W6.cell? ⟨w.heap.size,2,none⟩=some (.string r.name):=X6.cell 2;have yk_2:=cell_regrown y_2;have y_3:W6.cell? ⟨w.heap.size,3,none⟩=some (.int .i64 r.length):=X6.cell 3;have yk_3:=cell_regrown y_3;have y_4:W6.cell? ⟨w.heap.size,4,none⟩=some (.int .i64 r.group):=X6.cell 4;have yk_4:=cell_regrown y_4;have y_5:W6.cell? ⟨w.heap.size,5,none⟩=some (.int .i64 r.row):=X6.cell 5;have yk_5:=cell_regrown y_5;have y_6:W6.cell? ⟨w.heap.size,6,none⟩=some (.slice ao6 r.rows.1 cap6):=X6.cell 6;have yk_6:=cell_regrown y_6;have y_7:W6.cell? ⟨w.heap.size,7,none⟩=some (.slice ao7 r.data.1 cap7):=X6.cell 7;have yk_7:=cell_regrown y_7;have y_8:W6.cell? ⟨w.heap.size,8,none⟩=some (.slice ao8 r.delta.1 cap8):=X6.cell 8;have yk_8:=cell_regrown y_8;have CD:=zbv (zgB HL6.out r.seq r.group HQ1.out HQ4.out) HTD.out;have HX6:=hid X6;clear TA0 TA1 hW6 X6 b6 L6
 go_wp2_with fail
 refine CD.mono ?_;rintro e w7 ⟨rfl,b7⟩;have HB7:=hid (HB6.out.trans (b7.mono (Nat.le_of_lt z6)));have CP:=zbv (zil (hi:=hi) (HL6.out.keepAll (fun b hb2=>b7.block b hb2)) HOK.out r.seq HQ1.out) HTP.out;have u_1:w7.cell? ⟨w.heap.size,1,none⟩=some (.int .i64 r.seq):=(HX6.out.below b7 (by omega)).cell 1;have z7:=b7.size;clear CD b7  y_0 yk_0 y_1 yk_1 y_2 yk_2 y_3 yk_3 y_4 yk_4 y_5 yk_5 y_6 yk_6 y_7 yk_7 y_8 yk_8
 cases td with
 | false=>
  go_wp2;go_ret;exact ⟨false,rfl,⟨(fun h=>by cases h),fun h=>by rw [spt2 HK.out,← HRR.out] at h;have:=HTD.out.2 h.1;cases this⟩,HB7.out⟩
 | true=>
  go_wp2_with fail
  refine CP.mono ?_;rintro e w8 ⟨rfl,b8⟩;have HB8:Hid (Below w.heap.size w w8):=HB7.out.trans (b8.mono (by omega));clear CP b8 u_1;go_wp2;go_ret
  exact ⟨tp,rfl,by
   rw [spt2 HK.out,← HRR.out]
   exact ⟨fun h=>⟨HTD.out.1 (by simp),HTP.out.1 h⟩,fun h=>HTP.out.2 h.2⟩,HB8.out⟩
set_option maxRecDepth 100000 in
theorem zio {w:World} {lo B hi:Nat} {s:Nat→Int} {N:Nat} {x:Nat→RecD} {ce:Nat→List Value} {v:Value} {b1 b2 b3 b4 b5:Nat} (h:Ldg w lo B s N N x ce (v) b1 b2 b3 b4 b5) (hok:zap s) (hC:Csd x N) (hhi:hi≤w.heap.size) (hr:∀ i,i<N→zab.rd w hi (x i) (ce i)) {i:Nat} (hi':i<N) (hk:(x i).kind=3) :
 Calls Tryz.prog 91 #[.pointer (some ⟨B,0,none⟩),entV (x i).kind (ce i)] w (zba (SptP s x N i) w):=by
 have HL:=hid h;have HOK:=hid hok;have HCS:=hid hC;have HK:=hid hk;have HI:=hid hi';have HR:=hid hr;obtain ⟨ao6,cap6,ao7,cap7,ao8,cap8,ec,-,-,-,k0,k1,k2,k3,k4,k5⟩:=zaD (hr i hi');rw [hk,zmW,ec,show ([.int .i64 (x i).kind,.int .i64 (x i).seq,.string (x i).name,.int .i64 (x i).length,.int .i64 (x i).group,.int .i64 (x i).row,.slice ao6 (x i).rows.1 cap6,.slice ao7 (x i).data.1 cap7,.slice ao8 (x i).delta.1 cap8]:List Value).toArray=#[.int .i64 (x i).kind,.int .i64 (x i).seq,.string (x i).name,.int .i64 (x i).length,.int .i64 (x i).group,.int .i64 (x i).row,.slice ao6 (x i).rows.1 cap6,.slice ao7 (x i).data.1 cap7,.slice ao8 (x i).delta.1 cap8] from rfl];obtain ⟨r,hrr⟩:∃ r,r=x i:=⟨_,rfl⟩;have HRR:=hid hrr;rw [← hrr] at ec k1 k2 k4 k5 ⊢;have HEC:=hid ec;obtain ⟨kl,hkl⟩:=zhb k1;obtain ⟨c,hc⟩:∃ c,c=cN (fun i=>(x i).kind=2) (fun i=>.int .i64 (x i).seq) (.int .i64 r.seq) N:=⟨_,rfl⟩
 have HC:Hid (0<c↔∃ j,j<N∧(x j).kind=2∧(x j).seq=r.seq):=by
  show 0<c↔_
  rw [hc];exact znH x N r.seq
 have HLK:Hid (∀ w',Below w.heap.size w w'→(Instr.lookup 140 (.map (some b2)) (.int .i64 r.seq) false).run Tryz.prog w'=.ok (.int .i64 (c:Int)) w'):=fun w' hb=>by
  have h1:=(HL.out.keepAll (fun b hb'=>hb.block b hb')).m2.look keyI Tryz.underlying140 (zdJ _) hkl;rw [show movF x N (.int .i64 r.seq)=cntF (fun i=>(x i).kind=2) (fun i=>.int .i64 (x i).seq) N (.int .i64 r.seq) from rfl,zcS,← hc] at h1;exact h1
 have TA0:=ta20;have TA1:=ta21;have TA2:=ta22;clear h hok hC hr hi' hk hrr ec k0 k3 k1 k2 k4 k5 hkl hc
 go_enter Tryz.func91,Tryz.ntmps91
 go_upto_region 10 with fail
 have X6:=zaq w (rwR r ao6 cap6 ao7 cap7 ao8 cap8).toArray 187;have b6:=bAl w (.cells (rwR r ao6 cap6 ao7 cap7 ao8 cap8).toArray 187);obtain ⟨W6,hW6⟩:∃ y,y=w.alloc (.cells (rwR r ao6 cap6 ao7 cap7 ao8 cap8).toArray 187):=⟨_,rfl⟩;rw [← hW6] at X6 b6 ⊢;have L6:=HL.out.keepAll (fun b hb'=>b6.block b hb');have z6:w.heap.size<W6.heap.size:=X6.lt;have HB6:=hid b6;have HL6:=hid L6;have x_11:W6.cell? ⟨B,11,none⟩=some (.map (some b2)):=L6.box.cell 11;have xk_11:=cell_regrown x_11;have y_0:W6.cell? ⟨w.heap.size,0,none⟩=some (.int .i64 r.kind):=X6.cell 0;have yk_0:=cell_regrown y_0;have y_1:W6.cell? ⟨w.heap.size,1,none⟩=some (.int .i64 r.seq):=X6.cell 1;have yk_1:=cell_regrown y_1;have y_2:W6.cell? ⟨w.heap.size,2,none⟩=some (.string r.name):=X6.cell 2;have yk_2:=cell_regrown y_2;have y_3:W6.cell? ⟨w.heap.size,3,none⟩=some (.int .i64 r.length):=X6.cell 3;have yk_3:=cell_regrown y_3;have y_4:W6.cell? ⟨w.heap.size,4,none⟩=some (.int .i64 r.group):=X6.cell 4;have yk_4:=cell_regrown y_4;have y_5:W6.cell? ⟨w.heap.size,5,none⟩=some (.int .i64 r.row):=X6.cell 5;have yk_5:=cell_regrown y_5;have y_6:W6.cell? ⟨w.heap.size,6,none⟩=some (.slice ao6 r.rows.1 cap6):=X6.cell 6;have yk_6:=cell_regrown y_6;have y_7:W6.cell? ⟨w.heap.size,7,none⟩=some (.slice ao7 r.data.1 cap7):=X6.cell 7;have yk_7:=cell_regrown y_7;have y_8:W6.cell? ⟨w.heap.size,8,none⟩=some (.slice ao8 r.delta.1 cap8):=X6.cell 8;have yk_8:=cell_regrown y_8;have lHLK:=HLK.out W6 b6;have lHLKk:=fun d os=>HLK.out _ (b6.trans ((below_regrown W6 d os).mono (Nat.le_of_lt z6)));clear TA0 TA1 TA2 hW6 X6 b6 L6
 by_cases hc0:0<c
 ·have HP:=hid hc0
  have hd:((c:Int)==0)=false:=by simp;omega
  clear hc0;refine WQ.region (by kernel_rfl) (by kernel_rfl) ?_
  repeat (first | (apply WQ.skip;(case hw=>rfl);intro K hK;go_simp;apply hK;clear hK K) | (apply WQ.want;(case hw=>rfl);intro K hK;go_simp;first | (apply hK;clear hK K) | (apply Exists.intro;apply And.intro;(case left=>intro p;(first | fail));apply hK;clear hK K)))
  refine WQ.nil ?_;intro w7 hw7;have HB7:Hid (Below w.heap.size w w7):=HB6.out.trans ((zaF hw7).mono (Nat.le_of_lt z6));clear hw7 x_11 xk_11 y_0 yk_0 y_1 yk_1 y_2 yk_2 y_3 yk_3 y_4 yk_4 y_5 yk_5 y_6 yk_6 y_7 yk_7 y_8 yk_8 lHLK lHLKk;go_wp2;go_ret;exact ⟨false,rfl,⟨(fun h=>by cases h),fun h=>by rw [spt3 HK.out,← HRR.out] at h;exact absurd (HC.out.1 HP.out) h⟩,HB7.out⟩
 ·have HP:=hid hc0
  obtain rfl:c=0:=by omega
  clear hc0;refine WQ.region (by kernel_rfl) (by kernel_rfl) ?_
  repeat (first | (apply WQ.skip;(case hw=>rfl);intro K hK;go_simp;apply hK;clear hK K) | (apply WQ.want;(case hw=>rfl);intro K hK;go_simp;first | (apply hK;clear hK K) | (apply Exists.intro;apply And.intro;(case left=>intro p;(first | fail));apply hK;clear hK K)))
  refine WQ.nil ?_;intro w7 hw7;have HB7:Hid (Below w.heap.size w w7):=HB6.out.trans ((zaF hw7).mono (Nat.le_of_lt z6));clear hw7 x_11 xk_11 y_0 yk_0 y_1 yk_1 y_2 yk_2 y_3 yk_3 y_4 yk_4 y_5 yk_5 y_6 yk_6 y_7 yk_7 y_8 yk_8 lHLK lHLKk;go_wp2;go_ret;exact ⟨true,rfl,⟨fun _=>by rw [spt3 HK.out,← HRR.out];exact fun h=>HP.out (HC.out.2 h),fun _=>rfl⟩,HB7.out⟩
set_option maxRecDepth 100000 in
theorem zhg {w:World} {lo B hi:Nat} {s:Nat→Int} {N:Nat} {x:Nat→RecD} {ce:Nat→List Value} {v:Value} {b1 b2 b3 b4 b5:Nat} (h:Ldg w lo B s N N x ce (v) b1 b2 b3 b4 b5) (hok:zap s) (hC:Csd x N) (hhi:hi≤w.heap.size) (hr:∀ i,i<N→zab.rd w hi (x i) (ce i)) {i:Nat} (hi':i<N) (hk:(x i).kind=4) :
 Calls Tryz.prog 91 #[.pointer (some ⟨B,0,none⟩),entV (x i).kind (ce i)] w (zba (SptP s x N i) w):=by
 have HL:=hid h;have HOK:=hid hok;have HCS:=hid hC;have HK:=hid hk;have HI:=hid hi';have HR:=hid hr;obtain ⟨ao6,cap6,ao7,cap7,ao8,cap8,ec,-,-,-,k0,k1,k2,k3,k4,k5⟩:=zaD (hr i hi');rw [hk,zl6,ec,show ([.int .i64 (x i).kind,.int .i64 (x i).seq,.string (x i).name,.int .i64 (x i).length,.int .i64 (x i).group,.int .i64 (x i).row,.slice ao6 (x i).rows.1 cap6,.slice ao7 (x i).data.1 cap7,.slice ao8 (x i).delta.1 cap8]:List Value).toArray=#[.int .i64 (x i).kind,.int .i64 (x i).seq,.string (x i).name,.int .i64 (x i).length,.int .i64 (x i).group,.int .i64 (x i).row,.slice ao6 (x i).rows.1 cap6,.slice ao7 (x i).data.1 cap7,.slice ao8 (x i).delta.1 cap8] from rfl];obtain ⟨r,hrr⟩:∃ r,r=x i:=⟨_,rfl⟩;have HRR:=hid hrr;rw [← hrr] at ec k1 k2 k4 k5 ⊢;have HEC:=hid ec;obtain ⟨kl,hkl⟩:=zhb k1;obtain ⟨kp,hkp⟩:=zfN k4 k5;obtain ⟨c,hc⟩:∃ c,c=cN (fun i=>(x i).kind=3) (fun i=>.int .i64 (x i).seq) (.int .i64 r.seq) N:=⟨_,rfl⟩
 have HC:Hid (0<c↔∃ j,j<N∧(x j).kind=3∧(x j).seq=r.seq):=by
  show 0<c↔_
  rw [hc];exact znI x N r.seq
 obtain ⟨j,hj,hsh,hlt⟩:=znF HCS.out HI.out hk;obtain ⟨qs,hqs⟩:∃ qs,qs=(x j).seq:=⟨_,rfl⟩;rw [← hqs,← hrr] at hsh hlt;have HLT:=hid hlt
 have HLK:Hid (∀ w',Below w.heap.size w w'→(Instr.lookup 140 (.map (some b4)) (.int .i64 r.seq) false).run Tryz.prog w'=.ok (.int .i64 (c:Int)) w'):=fun w' hb=>by
  have h1:=(HL.out.keepAll (fun b hb'=>hb.block b hb')).m4.look keyI Tryz.underlying140 (zdJ _) hkl;rw [show endF x N (.int .i64 r.seq)=cntF (fun i=>(x i).kind=3) (fun i=>.int .i64 (x i).seq) N (.int .i64 r.seq) from rfl,zcS,← hc] at h1;exact h1
 have HLP:Hid (∀ w',Below w.heap.size w w'→(Instr.lookup 142 (.map (some b5)) (.agg #[.int .i64 r.group,.int .i64 r.row]) false).run Tryz.prog w'=.ok (.int .i64 qs) w'):=fun w' hb=>by
  have h1:=(HL.out.keepAll (fun b hb'=>hb.block b hb')).m5.look zj3 Tryz.underlying142 (zdJ _) hkp;rw [hsh] at h1;exact h1
 have TA0:=ta30;have TA1:=ta31;have TA2:=ta32;have TA3:=ta33;clear h hok hC hr hi' hk hrr ec k0 k3 k1 k2 k4 k5 hkl hc hkp hj hsh hlt hqs
 go_enter Tryz.func91,Tryz.ntmps91
 go_upto_region 13 with fail
 have X6:=zaq w (rwR r ao6 cap6 ao7 cap7 ao8 cap8).toArray 190;have b6:=bAl w (.cells (rwR r ao6 cap6 ao7 cap7 ao8 cap8).toArray 190);obtain ⟨W6,hW6⟩:∃ y,y=w.alloc (.cells (rwR r ao6 cap6 ao7 cap7 ao8 cap8).toArray 190):=⟨_,rfl⟩;rw [← hW6] at X6 b6 ⊢;have L6:=HL.out.keepAll (fun b hb'=>b6.block b hb');have z6:w.heap.size<W6.heap.size:=X6.lt;have HB6:=hid b6;have HL6:=hid L6;have x_13:W6.cell? ⟨B,13,none⟩=some (.map (some b4)):=L6.box.cell 13;have xk_13:=cell_regrown x_13;have x_14:W6.cell? ⟨B,14,none⟩=some (.map (some b5)):=L6.box.cell 14;have xk_14:=cell_regrown x_14;have y_0:W6.cell? ⟨w.heap.size,0,none⟩=some (.int .i64 r.kind):=X6.cell 0;have yk_0:=cell_regrown y_0;have y_1:W6.cell? ⟨w.heap.size,1,none⟩=some (.int .i64 r.seq):=X6.cell 1;have yk_1:=cell_regrown y_1;have y_2:W6.cell? ⟨w.heap.size,2,none⟩=some (.string r.name):=X6.cell 2;have yk_2:=cell_regrown y_2;have y_3:W6.cell? ⟨w.heap.size,3,none⟩=some (.int .i64 r.length):=X6.cell 3;have yk_3:=cell_regrown y_3;have y_4:W6.cell? ⟨w.heap.size,4,none⟩=some (.int .i64 r.group):=X6.cell 4;have yk_4:=cell_regrown y_4;have y_5:W6.cell? ⟨w.heap.size,5,none⟩=some (.int .i64 r.row):=X6.cell 5;have yk_5:=cell_regrown y_5;have y_6:W6.cell? ⟨w.heap.size,6,none⟩=some (.slice ao6 r.rows.1 cap6):=X6.cell 6;have yk_6:=cell_regrown y_6;have y_7:W6.cell? ⟨w.heap.size,7,none⟩=some (.slice ao7 r.data.1 cap7):=X6.cell 7;have yk_7:=cell_regrown y_7;have y_8:W6.cell? ⟨w.heap.size,8,none⟩=some (.slice ao8 r.delta.1 cap8):=X6.cell 8;have yk_8:=cell_regrown y_8;have lHLK:=HLK.out W6 b6;have lHLKk:=fun d os=>HLK.out _ (b6.trans ((below_regrown W6 d os).mono (Nat.le_of_lt z6)));have lHLP:=HLP.out W6 b6;have lHLPk:=fun d os=>HLP.out _ (b6.trans ((below_regrown W6 d os).mono (Nat.le_of_lt z6)));clear TA0 TA1 TA2 TA3 hW6 X6 b6 L6
 by_cases hc0:0<c
 ·have HP:=hid hc0
  have t1:(0:Int)<(c:Int):=by omega
  have t2:decide ((0:Int)<(c:Int))=true:=decide_eq_true t1;have t3:decide (0<c)=true:=decide_eq_true hc0;refine WQ.region (by kernel_rfl) (by kernel_rfl) ?_
  repeat (first | (apply WQ.skip;(case hw=>rfl);intro K hK;go_simp;apply hK;clear hK K) | (apply WQ.want;(case hw=>rfl);intro K hK;go_simp;first | (apply hK;clear hK K) | (apply Exists.intro;apply And.intro;(case left=>intro p;(first | fail));apply hK;clear hK K)))
  refine WQ.nil ?_;intro w7 hw7;have HB7:Hid (Below w.heap.size w w7):=HB6.out.trans ((zaF hw7).mono (Nat.le_of_lt z6));clear hw7 x_13 xk_13 x_14 xk_14 y_0 yk_0 y_1 yk_1 y_2 yk_2 y_3 yk_3 y_4 yk_4 y_5 yk_5 y_6 yk_6 y_7 yk_7 y_8 yk_8 lHLK lHLKk lHLP lHLPk;go_wp2;go_ret;exact ⟨true,rfl,⟨fun _=>by rw [spt4 HK.out,← HRR.out];obtain ⟨a,a1,a2⟩:=HC.out.1 HP.out;exact ⟨a,a1,.inl a2⟩,fun _=>rfl⟩,HB7.out⟩
 ·have HP:=hid hc0
  obtain rfl:c=0:=by omega
  clear hc0
  by_cases hq:r.seq<qs
  ·have HQ:=hid hq
   refine WQ.region (by kernel_rfl) (by kernel_rfl) ?_
   repeat (first | (apply WQ.skip;(case hw=>rfl);intro K hK;go_simp;apply hK;clear hK K) | (apply WQ.want;(case hw=>rfl);intro K hK;go_simp;first | (apply hK;clear hK K) | (apply Exists.intro;apply And.intro;(case left=>intro p;(first | fail));apply hK;clear hK K)))
   refine WQ.nil ?_;intro w7 hw7;have HB7:Hid (Below w.heap.size w w7):=HB6.out.trans ((zaF hw7).mono (Nat.le_of_lt z6));clear hw7 x_13 xk_13 x_14 xk_14 y_0 yk_0 y_1 yk_1 y_2 yk_2 y_3 yk_3 y_4 yk_4 y_5 yk_5 y_6 yk_6 y_7 yk_7 y_8 yk_8 lHLK lHLKk lHLP lHLPk;go_wp2;go_ret;exact ⟨true,rfl,⟨fun _=>by rw [spt4 HK.out,← HRR.out];obtain ⟨a,a1,a2⟩:=HLT.out.1 HQ.out;exact ⟨a,a1,.inr a2⟩,fun _=>rfl⟩,HB7.out⟩
  ·have HQ:=hid hq
   have hd:decide (r.seq<qs)=false:=decide_eq_false hq;refine WQ.region (by kernel_rfl) (by kernel_rfl) ?_
   repeat (first | (apply WQ.skip;(case hw=>rfl);intro K hK;go_simp;apply hK;clear hK K) | (apply WQ.want;(case hw=>rfl);intro K hK;go_simp;first | (apply hK;clear hK K) | (apply Exists.intro;apply And.intro;(case left=>intro p;(first | fail));apply hK;clear hK K)))
   refine WQ.nil ?_;intro w7 hw7;have HB7:Hid (Below w.heap.size w w7):=HB6.out.trans ((zaF hw7).mono (Nat.le_of_lt z6));clear hw7 x_13 xk_13 x_14 xk_14 y_0 yk_0 y_1 yk_1 y_2 yk_2 y_3 yk_3 y_4 yk_4 y_5 yk_5 y_6 yk_6 y_7 yk_7 y_8 yk_8 lHLK lHLKk lHLP lHLPk;go_wp2;go_ret;exact ⟨false,rfl,⟨(fun h=>by cases h),fun h=>by rw [spt4 HK.out,← HRR.out] at h;obtain ⟨a,a1,a2⟩:=h;exact a2.elim (fun a2=>absurd (HC.out.2 ⟨a,a1,a2⟩) HP.out) (fun a2=>absurd (HLT.out.2 ⟨a,a1,a2⟩) (by have:=HQ.out;omega))⟩,HB7.out⟩
theorem zju {w:World} {lo B hi:Nat} {s:Nat→Int} {N:Nat} {x:Nat→RecD} {ce:Nat→List Value} {v:Value} {b1 b2 b3 b4 b5:Nat} (h:Ldg w lo B s N N x ce (v) b1 b2 b3 b4 b5) (hok:zap s) (hC:Csd x N) (hhi:hi≤w.heap.size) (hr:∀ i,i<N→zab.rd w hi (x i) (ce i)) (hkd:∀ i,i<N→InP (x i).kind 1 4) {i:Nat} (hi':i<N) :
 Calls Tryz.prog 91 #[.pointer (some ⟨B,0,none⟩),entV (x i).kind (ce i)] w (zba (SptP s x N i) w):=by
 obtain ⟨q1,q2⟩:=hkd i hi'
 have hc:(x i).kind=1∨(x i).kind=2∨(x i).kind=3∨(x i).kind=4:=by omega
 rcases hc with hk | hk | hk | hk
 ·exact zim h hok hC hhi hr hi' hk
 ·exact zin h hok hC hhi hr hi' hk
 ·exact zio h hok hC hhi hr hi' hk
 ·exact zhg h hok hC hhi hr hi' hk
end Go.Proofs.YthbpmbgfddpffaaGreat
