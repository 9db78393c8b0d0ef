/- What is done, and what is still to be done, at a group. -/
import Derived.Test.YtajibninhikdgaaGreatZPspental
set_option linter.unusedVariables false
set_option linter.unusedSimpArgs false
set_option maxHeartbeats 16000000
namespace Go.Proofs.YtajibninhikdgaaGreat
open Go.RowKit F256
open Go.Maps (Keyed)
theorem zgU (p:Nat→Prop) (key:Nat→Value) (y:Value):∀ k,0<cN p key y k↔∃ j,j<k∧p j∧key j=y
 | 0=>⟨fun h=>by simp [cN] at h,fun ⟨j,h,_⟩=>by omega⟩
 | k+1=>by
  have ih:=zgU p key y k;unfold cN
  by_cases c:p k∧key k=y
  ·rw [if_pos c]
   exact ⟨fun _=>⟨k,by omega,c⟩,fun _=>by omega⟩
  ·rw [if_neg c,Nat.add_zero,ih]
   constructor
   ·rintro ⟨j,h1,h2⟩
    exact ⟨j,by omega,h2⟩
   ·rintro ⟨j,h1,h2⟩
    exact ⟨j,by
     by_cases e:j=k
     ·subst e;exact absurd h2 c
     ·omega,h2⟩
def DonP (x:Nat→RecD) (N:Nat) (q g:Int):Prop:=∃ j,j<N∧(x j).kind=3∧(x j).seq=q∧(x j).group=g
theorem zlr (x:Nat→RecD) (N:Nat) (q g:Int):0<cN (fun i=>(x i).kind=3) (fun i=>.agg #[.int .i64 (x i).seq,.int .i64 (x i).group]) (.agg #[.int .i64 q,.int .i64 g]) N↔DonP x N q g:=by
 rw [zgU]
 constructor
 ·rintro ⟨j,h1,h2,h3⟩
  simp only [Value.agg.injEq,Array.mk.injEq,List.cons.injEq,Value.int.injEq,true_and,and_true] at h3
  exact ⟨j,h1,h2,h3.1,h3.2⟩
 ·rintro ⟨j,h1,h2,h3,h4⟩
  exact ⟨j,h1,h2,by rw [h3,h4]⟩
theorem zfu {w:World} {lo B:Nat} {s:Nat→Int} {m N:Nat} {x:Nat→RecD} {ce:Nat→List Value} {v:Value} {b1 b2 b3 b4 b5:Nat} (h:Ldg w lo B s m N x ce v b1 b2 b3 b4 b5) (q g:Int) (hq:-9223372036854775808≤q∧q≤9223372036854775807) (hg:-9223372036854775808≤g∧g≤9223372036854775807) :
 Calls Tryz.prog 108 #[.pointer (some ⟨B,0,none⟩),.int .i64 q,.int .i64 g] w (zaT (DonP x N q g) w):=by
 obtain ⟨kl,hkl⟩:=zfm hq hg;have hlook:=h.m3.look zjL Tryz.underlying99 (zc2 _) hkl;rw [show donF x N (.agg #[.int .i64 q,.int .i64 g])=cntF (fun i=>(x i).kind=3) (fun i=>.agg #[.int .i64 (x i).seq,.int .i64 (x i).group]) N (.agg #[.int .i64 q,.int .i64 g]) from rfl,zcj] at hlook;obtain ⟨c,hc⟩:∃ c,c=cN (fun i=>(x i).kind=3) (fun i=>.agg #[.int .i64 (x i).seq,.int .i64 (x i).group]) (.agg #[.int .i64 q,.int .i64 g]) N:=⟨_,rfl⟩
 have HC:Hid (0<c↔DonP x N q g):=by
  show 0<c↔DonP x N q g
  rw [hc];exact zlr x N q g
 rw [← hc] at hlook;have d4:w.cell? ⟨B,12,none⟩=some (.map (some b3)):=h.box.cell 12;clear hc hkl h
 by_cases hc0:0<c
 ·have HP:=hid (HC.out.1 hc0)
  have t1:(0:Int)<(c:Int):=by omega
  clear HC
  go_enter Tryz.func108,Tryz.ntmps108
  go_wp2;go_ret;exact ⟨true,rfl,⟨fun _=>HP.out,fun _=>rfl⟩,Below.refl _ _⟩
 ·have HP:Hid (¬ DonP x N q g):=fun h=>hc0 (HC.out.2 h)
  obtain rfl:c=0:=by omega
  clear HC
  go_enter Tryz.func108,Tryz.ntmps108
  go_wp2;go_ret;exact ⟨false,rfl,⟨(fun h=>by cases h),fun h=>absurd h HP.out⟩,Below.refl _ _⟩
noncomputable def und (s:Nat→Int) (g:Int) (x:Nat→RecD) (N:Nat):Nat→Bool:=fun i=>@decide ((x i).kind=2∧((x i).group=g∨¬ InP g 0 (s 0-1))∧¬ DonP x N (x i).seq g) (Classical.propDecidable _)
theorem zgV {p:Nat→Bool} {k:Nat} (hp:p k=true):∀ n,k<n→zbN p n (zbl p k).length=k∧(zbl p k).length<(zbl p n).length
 | 0,h=>by omega
 | n+1,h=>by
  by_cases c:k=n
  ·subst c
   exact ⟨zja hp,by rw [zcv,if_pos hp];simp⟩
  ·obtain ⟨h1,h2⟩:=zgV hp n (by omega)
   exact ⟨(zi9 h2).trans h1,by rw [zcv,List.length_append];omega⟩
end Go.Proofs.YtajibninhikdgaaGreat
namespace Go.Proofs.YtajibninhikdgaaGreat
open Go.RowKit
section
variable {P:Program} {ops:Array Oper} {Q:Exit→Act→World→Prop} {md:Region.Mode} {S:World→Prop} {L:Nat}
end
end Go.Proofs.YtajibninhikdgaaGreat
namespace Go.Proofs.YtajibninhikdgaaGreat
open Go.RowKit F256
noncomputable def zb3 (p:Nat→Prop):Nat→Int
 | 0=>-1
 | k+1=>@ite _ (p k) (Classical.propDecidable _) (k:Int) (zb3 p k)
theorem zbE {p:Nat→Prop} {k:Nat} (h:¬ p k):zb3 p (k+1)=zb3 p k:=if_neg h
theorem zc6 {p:Nat→Prop} {k:Nat} (h:p k):zb3 p (k+1)=(k:Int):=if_pos h
theorem zdr (p:Nat→Prop):∀ k,zb3 p k=-1∨∃ i:Nat,i<k∧zb3 p k=(i:Int)∧p i
 | 0=>.inl rfl
 | k+1=>by
  by_cases h:p k
  ·exact .inr ⟨k,by omega,zc6 h,h⟩
  ·rw [zbE h]
   rcases zdr p k with e | ⟨i,h1,h2,h3⟩
   ·exact .inl e
   ·exact .inr ⟨i,by omega,h2,h3⟩
def itm (x:Nat→RecD) (nm:ByteArray) (i:Nat):Prop:=(x i).kind=1∧(x i).name=nm
theorem zj8 (x:Nat→RecD) (ce:Nat→List Value) (nm:ByteArray):∀ N,(zb3 (itm x nm) N=-1→newF x ce N (.string nm)=none)∧∀ i:Nat,zb3 (itm x nm) N=(i:Int)→newF x ce N (.string nm)=some (.agg (ce i).toArray)
 | 0=>⟨fun _=>rfl,fun i h=>by have h':(-1:Int)=(i:Int):=h;omega⟩
 | N+1=>by
  have ih:=zj8 x ce nm N;unfold newF at ih ⊢
  by_cases hk:(x N).kind=1
  ·rw [zdD hk]
   by_cases hn:(x N).name=nm
   ·rw [zc6 (show itm x nm N from ⟨hk,hn⟩),hn,zc1]
    exact ⟨fun h=>by omega,fun i h=>by
     obtain rfl:N=i:=by omega
     rfl⟩
   ·rw [zbE (fun h:itm x nm N=>hn h.2),zdh _ _ (fun h=>hn (by cases h;rfl))]
    exact ih
  ·rw [zbE (fun h:itm x nm N=>hk h.1),zbA hk]
   exact ih
set_option maxRecDepth 20000 in
theorem zgW (v:Value) (n:Nat) (x:Nat→RecD) (nm:ByteArray) (hi:Nat) (w:World) (h:(zab.slice 83).rd w hi (n,x) [v]) (hhi:hi≤w.heap.size) (hn:n≤1048576) :
 Calls Tryz.prog 90 #[v,.string nm] w (fun e w'=>e=.returned (.int .i64 (zb3 (itm x nm) n))∧Below w.heap.size w w'):=by
 obtain ⟨ao,cap,e,hmm,hc⟩:=h
 obtain rfl:v=.slice ao n cap:=by simpa using e
 have HC:=hid hc;clear e hmm hc
 go_enter Tryz.func90,Tryz.ntmps90
 go_wp2
 go_loopw [5,6] (fun a z wr=>∃ k:Nat,k≤n∧z=.int .i64 k∧a=.int .i64 (zb3 (itm x nm) k)∧Below w.heap.size w wr) (fun _ z _=>n-(intOf z).toNat)
 case atStart=>exact ⟨0,Nat.zero_le _,rfl,rfl,Below.refl _ _⟩
 case round=>
  obtain ⟨k,hk,rfl,rfl,hbl⟩:=hrel;have HB:=hid hbl;obtain ⟨at_,hat⟩:∃ a,a=zb3 (itm x nm) k:=⟨_,rfl⟩;have HAT:=hid hat;rw [← hat];clear hat
  by_cases hlt:k<n
  ·obtain ⟨b,off,rfl,hbh,hel⟩:=HC.out (by omega)
   obtain ⟨ce,hy,hcell⟩:=zau (t:=83) hel hbl hhi hbh hlt;obtain ⟨ao6,cap6,ao7,cap7,ao8,cap8,rfl,-,-,-,-⟩:=zaw hy;obtain ⟨r,hr⟩:∃ r,r=x k:=⟨_,rfl⟩;have HRR:=hid hr;rw [← hr] at hcell
   have y0:wr.cell? ⟨b,off+k*9,none⟩=some (.int .i64 r.kind):=by have:=hcell 0 (by decide);exact this
   have y2:wr.cell? ⟨b,off+k*9+2,none⟩=some (.string r.name):=by have:=hcell 2 (by decide);exact this
   have i1:(0:Int)≤(k:Int):=by omega
   have i2:(k:Int)<(n:Int):=by omega
   clear hcell hel hy hr hbl
   by_cases c1:r.kind=1
   ·have d1:(r.kind==1)=true:=by simp [c1]
    have HC1:=hid c1;clear c1
    by_cases c2:r.name=nm
    ·have d2:(r.name.toList==nm.toList)=true:=by rw [beq_iff_eq,c2]
     have d3:decide (r.name.toList=nm.toList)=true:=decide_eq_true (by rw [c2])
     have d4:r.name.toList=nm.toList:=by rw [c2]
     have HC2:=hid c2;clear c2;go_wp2
     go_roundw
     case rel=>exact ⟨k+1,by omega,by go_num,(by rw [zc6 (show itm x nm k from ⟨by rw [← HRR.out];exact HC1.out,by rw [← HRR.out];exact HC2.out⟩)]),HB.out⟩
     case measure=>simp [intOf];omega
    ·have d2:(r.name.toList==nm.toList)=false:=by rw [beq_eq_false_iff_ne];exact fun h=>c2 (toList_inj.1 h)
     have d3:decide (r.name.toList=nm.toList)=false:=decide_eq_false (fun h=>c2 (toList_inj.1 h));have d4:¬ r.name.toList=nm.toList:=fun h=>c2 (toList_inj.1 h);have HC2:=hid c2;clear c2;go_wp2
     go_roundw
     case rel=>exact ⟨k+1,by omega,by go_num,(by rw [zbE (fun h:itm x nm k=>HC2.out (by rw [HRR.out];exact h.2)),← HAT.out]),HB.out⟩
     case measure=>simp [intOf];omega
   ·have d1:(r.kind==1)=false:=by simp [c1]
    have HC1:=hid c1;clear c1;go_wp2
    go_roundw
    case rel=>exact ⟨k+1,by omega,by go_num,(by rw [zbE (fun h:itm x nm k=>HC1.out (by rw [HRR.out];exact h.1)),← HAT.out]),HB.out⟩
    case measure=>simp [intOf];omega
  ·obtain rfl:k=n:=by omega
   rw [HAT.out];go_wp2;go_ret;exact ⟨rfl,HB.out⟩
theorem zgX:(Tryz.prog.info? 83).map (·.size)=some 9:=by kernel_rfl
theorem zlV (u:World):(zeroValue 146).run Tryz.prog u=.ok (.agg #[.int .i64 0,.int .i64 0,.string ⟨#[]⟩,.int .i64 0,.int .i64 0,.int .i64 0,.slice none 0 0,.slice none 0 0,.slice none 0 0]) u:=by kernel_rfl
def zc7 (n:Nat) (y:Nat→RecD):Int:=if n=0 then 0 else (y (n-1)).seq
set_option maxRecDepth 20000 in
theorem zj9 (v:Value) (n:Nat) (y:Nat→RecD) (hi:Nat) (w:World) (h:(zab.slice 83).rd w hi (n,y) [v]) (hn:n≤1000000000) :
 Calls Tryz.prog 47 #[v] w (fun e w'=>e=.returned (.int .i64 (zc7 n y))∧w'=w):=by
 obtain ⟨ao,cap,e,hmm,hc⟩:=h
 obtain rfl:v=.slice ao n cap:=by simpa using e
 have hc':n≠0→∃ b off,ao=some ⟨b,off,none⟩∧b<hi∧∀ i,i<n→∃ ce,zab.rd w hi (y i) ce∧∀ j,j<zab.sz→w.cell? ⟨b,off+(i*zab.sz+j),none⟩=ce[j]?:=hc;clear e hmm hc
 by_cases h0:n=0
 ·subst h0
  have e1:zc7 0 y=0:=rfl;rw [e1];clear hc' e1
  go_enter Tryz.func47,Tryz.ntmps47
  go_wp2;go_ret;exact ⟨rfl,rfl⟩
 ·obtain ⟨b,off,rfl,hb,hel⟩:=hc' h0
  obtain ⟨m,rfl⟩:∃ m,n=m+1:=⟨n-1,by omega⟩;obtain ⟨ce,hr,hcell⟩:=hel m (by omega);obtain ⟨a6,ak6,a7,ak7,a8,ak8,rfl,-⟩:=zaw hr
  have s1:w.cell? ⟨b,off+m*9+1,none⟩=some (.int .i64 (y m).seq):=by have:=hcell 1 (by decide);rw [← Nat.add_assoc] at this;exact this
  have e1:zc7 (m+1) y=(y m).seq:=rfl;rw [e1]
  have wP:IntKind.i64.wrap (((m+1:Nat):Int)-1)=(m:Int):=by rw [IntKind.wrap_i64];omega
  have wA:IntKind.i64.wrap (m:Int)=(m:Int):=by rw [IntKind.wrap_i64];omega
  have i1:(0:Int)≤(m:Int):=by omega
  have i2:(m:Int)<((m+1:Nat):Int):=by omega
  have i3:m<m+1:=by omega
  clear hc' hel hr hcell e1
  go_enter Tryz.func47,Tryz.ntmps47
  go_wp2;go_ret;exact ⟨rfl,rfl⟩
set_option maxRecDepth 20000 in
theorem zeY (v:Value) (n:Nat) (y:Nat→RecD) (hi:Nat) (w:World) (h:(zab.slice 83).rd w hi (n,y) [v]) (hn:n≤1000000000) :
 Calls Tryz.prog 67 #[v] w (fun e w'=>e=.returned (.int .i64 (zc7 n y))∧w'=w):=by
 obtain ⟨ao,cap,e,hmm,hc⟩:=h
 obtain rfl:v=.slice ao n cap:=by simpa using e
 have hc':n≠0→∃ b off,ao=some ⟨b,off,none⟩∧b<hi∧∀ i,i<n→∃ ce,zab.rd w hi (y i) ce∧∀ j,j<zab.sz→w.cell? ⟨b,off+(i*zab.sz+j),none⟩=ce[j]?:=hc;clear e hmm hc
 by_cases h0:n=0
 ·subst h0
  have e1:zc7 0 y=0:=rfl;rw [e1];clear hc' e1
  go_enter Tryz.func67,Tryz.ntmps67
  go_wp2;go_ret;exact ⟨rfl,rfl⟩
 ·obtain ⟨b,off,rfl,hb,hel⟩:=hc' h0
  obtain ⟨m,rfl⟩:∃ m,n=m+1:=⟨n-1,by omega⟩;obtain ⟨ce,hr,hcell⟩:=hel m (by omega);obtain ⟨a6,ak6,a7,ak7,a8,ak8,rfl,-⟩:=zaw hr
  have s1:w.cell? ⟨b,off+m*9+1,none⟩=some (.int .i64 (y m).seq):=by have:=hcell 1 (by decide);rw [← Nat.add_assoc] at this;exact this
  have e1:zc7 (m+1) y=(y m).seq:=rfl;rw [e1]
  have wP:IntKind.i64.wrap (((m+1:Nat):Int)-1)=(m:Int):=by rw [IntKind.wrap_i64];omega
  have wA:IntKind.i64.wrap (m:Int)=(m:Int):=by rw [IntKind.wrap_i64];omega
  have i1:(0:Int)≤(m:Int):=by omega
  have i2:(m:Int)<((m+1:Nat):Int):=by omega
  have i3:m<m+1:=by omega
  clear hc' hel hr hcell e1
  go_enter Tryz.func67,Tryz.ntmps67
  go_wp2;go_ret;exact ⟨rfl,rfl⟩
def SptP (s:Nat→Int) (x:Nat→RecD) (N i:Nat):Prop:=
 ((x i).kind=1∧zb3 (itm x (x i).name) N≠(i:Int)) ∨
 ((x i).kind=2∧DonP x N (x i).seq (x i).group∧∀ g,s 0≤g→g<s 0+s 1→DonP x N (x i).seq g) ∨
 ((x i).kind=3∧¬ ∃ j,j<N∧(x j).kind=2∧(x j).seq=(x i).seq) ∨
 ((x i).kind=4∧∃ j,j<N∧(((x j).kind=3∧(x j).seq=(x i).seq)∨((x j).kind=4∧(x j).group=(x i).group∧(x j).row=(x i).row∧(x i).seq<(x j).seq)))
theorem spt1 {s:Nat→Int} {x:Nat→RecD} {N i:Nat} (h:(x i).kind=1):SptP s x N i↔zb3 (itm x (x i).name) N≠(i:Int):=
 ⟨fun h'=>by
  rcases h' with ⟨_,q⟩ | ⟨k,_⟩ | ⟨k,_⟩ | ⟨k,_⟩
  ·exact q
  all_goals (rw [h] at k;exact absurd k (by decide)),fun q=>.inl ⟨h,q⟩⟩
theorem spt2 {s:Nat→Int} {x:Nat→RecD} {N i:Nat} (h:(x i).kind=2):SptP s x N i↔(DonP x N (x i).seq (x i).group∧∀ g,s 0≤g→g<s 0+s 1→DonP x N (x i).seq g):=
 ⟨fun h'=>by
  rcases h' with ⟨k,_⟩ | ⟨_,q⟩ | ⟨k,_⟩ | ⟨k,_⟩
  ·rw [h] at k;exact absurd k (by decide)
  ·exact q
  all_goals (rw [h] at k;exact absurd k (by decide)),fun q=>.inr (.inl ⟨h,q⟩)⟩
theorem spt3 {s:Nat→Int} {x:Nat→RecD} {N i:Nat} (h:(x i).kind=3):SptP s x N i↔¬ ∃ j,j<N∧(x j).kind=2∧(x j).seq=(x i).seq:=
 ⟨fun h'=>by
  rcases h' with ⟨k,_⟩ | ⟨k,_⟩ | ⟨_,q⟩ | ⟨k,_⟩
  ·rw [h] at k;exact absurd k (by decide)
  ·rw [h] at k;exact absurd k (by decide)
  ·exact q
  ·rw [h] at k;exact absurd k (by decide),fun q=>.inr (.inr (.inl ⟨h,q⟩))⟩
theorem spt4 {s:Nat→Int} {x:Nat→RecD} {N i:Nat} (h:(x i).kind=4):SptP s x N i↔∃ j,j<N∧(((x j).kind=3∧(x j).seq=(x i).seq)∨((x j).kind=4∧(x j).group=(x i).group∧(x j).row=(x i).row∧(x i).seq<(x j).seq)):=
 ⟨fun h'=>by
  rcases h' with ⟨k,_⟩ | ⟨k,_⟩ | ⟨k,_⟩ | ⟨_,q⟩
  ·rw [h] at k;exact absurd k (by decide)
  ·rw [h] at k;exact absurd k (by decide)
  ·rw [h] at k;exact absurd k (by decide)
  ·exact q,fun q=>.inr (.inr (.inr ⟨h,q⟩))⟩
def SpaP (s:Nat→Int) (x:Nat→RecD) (N i:Nat):Prop:=(x i).seq<zc7 N x∧∀ k,k<N→(x k).kind=(x i).kind→(x k).seq=(x i).seq→SptP s x N k
noncomputable def spa (s:Nat→Int) (x:Nat→RecD) (N i:Nat):Bool:=@decide (SpaP s x N i) (Classical.propDecidable _)
theorem zka (s:Nat→Int) (x:Nat→RecD) (N i:Nat):spa s x N i=true↔SpaP s x N i:=by unfold spa;exact @decide_eq_true_iff _ (Classical.propDecidable _)
theorem zkb {s:Nat→Int} {x:Nat→RecD} {N i:Nat} (h:¬ SpaP s x N i):spa s x N i=false:=Bool.eq_false_iff.2 (fun e=>h ((zka s x N i).1 e))
structure Csd (x:Nat→RecD) (N:Nat):Prop where
 up:∀ i j,i<j→j<N→(x i).seq≤(x j).seq
 one:∀ i j,i<N→j<N→SameR (x i) (x j)→i=j
theorem Cnt.csd {x0:Nat→RecD} {M:Nat} {l:List Nat} (h:Cnt x0 M l):Csd (fun i=>x0 (l.getD i 0)) l.length:=by
 have hp:=List.pairwise_iff_getElem.1 h.srt
 have hg:∀ i (hi:i<l.length),l.getD i 0=l[i]:=fun i hi=>by rw [List.getD_eq_getElem?_getD,List.getElem?_eq_getElem hi];rfl
 refine ⟨fun i j hij hj=>?_,fun i j hi hj hs=>?_⟩
 ·have h1:=hp i j (by omega) hj hij
  show (x0 (l.getD i 0)).seq≤(x0 (l.getD j 0)).seq
  rw [hg i (by omega),hg j hj]
  rcases h1 with h1 | ⟨h1,_⟩
  ·rcases zc4.1 h1 with h | ⟨h,_⟩<;>omega
  ·have:=(zcG.1 h1).1;omega
 ·have key:∀ i j,i<j→j<l.length→¬ SameR (x0 (l.getD i 0)) (x0 (l.getD j 0)):=fun i j hij hj hs=>by
   rw [hg i (by omega),hg j hj] at hs
   rcases hp i j (by omega) hj hij with h1 | ⟨_,h2⟩
   ·rw [hs.num] at h1;omega
   ·exact ((h.mem _).1 (List.getElem_mem hj)).2 _ h2 hs
  rcases Nat.lt_trichotomy i j with c | c | c
  ·exact absurd hs (key i j c hj)
  ·exact c
  ·exact absurd hs.symm (key j i c hi)
def shp (x:Nat→RecD) (g r:Int) (i:Nat):Prop:=(x i).kind=4∧(x i).group=g∧(x i).row=r
theorem zkc (x:Nat→RecD) (g r:Int):∀ N,(zb3 (shp x g r) N=-1→shaF x N (.agg #[.int .i64 g,.int .i64 r])=none)∧∀ i:Nat,zb3 (shp x g r) N=(i:Int)→shaF x N (.agg #[.int .i64 g,.int .i64 r])=some (.int .i64 (x i).seq)
 | 0=>⟨fun _=>rfl,fun i h=>by unfold zb3 at h;omega⟩
 | N+1=>by
  have ih:=zkc x g r N
  by_cases hk:(x N).kind=4
  ·have e1:shaF x (N+1)=putF (shaF x N) (.agg #[.int .i64 (x N).group,.int .i64 (x N).row]) (.int .i64 (x N).seq):=zdD hk
   by_cases hg:(x N).group=g∧(x N).row=r
   ·have e2:zb3 (shp x g r) (N+1)=(N:Int):=zc6 ⟨hk,hg⟩
    rw [e1,hg.1,hg.2,zc1,e2];refine ⟨fun h=>by omega,fun i hi=>?_⟩
    obtain rfl:N=i:=by omega
    rfl
   ·have e2:zb3 (shp x g r) (N+1)=zb3 (shp x g r) N:=zbE (fun h=>hg h.2)
    rw [e1,e2,zdh]
    ·exact ih
    ·intro e
     apply hg
     simp at e
     exact ⟨e.1.symm,e.2.symm⟩
  ·have e1:shaF x (N+1)=shaF x N:=zbA hk
   have e2:zb3 (shp x g r) (N+1)=zb3 (shp x g r) N:=zbE (fun h=>hk h.1);rw [e1,e2];exact ih
theorem zep {p:Nat→Prop}:∀ {N i:Nat},i<N→p i→(i:Int)≤zb3 p N
 | N+1,i,hi,hp=>by
  by_cases c:p N
  ·rw [zc6 c];omega
  ·rw [zbE c]
   exact zep (by
    by_cases e:i=N
    ·subst e;exact absurd hp c
    ·omega) hp
theorem zls {x:Nat→RecD} {N:Nat} (hC:Csd x N) {i:Nat} (hi:i<N) (hk:(x i).kind=4):∃ j,j<N∧shaF x N (.agg #[.int .i64 (x i).group,.int .i64 (x i).row])=some (.int .i64 (x j).seq)∧((x i).seq<(x j).seq↔∃ j,j<N∧(x j).kind=4∧(x j).group=(x i).group∧(x j).row=(x i).row∧(x i).seq<(x j).seq):=by
 have hge:=zep (p:=shp x (x i).group (x i).row) hi ⟨hk,rfl,rfl⟩
 rcases zdr (shp x (x i).group (x i).row) N with e | ⟨j,hj,e,hp⟩
 ·omega
 ·refine ⟨j,hj,(zkc x _ _ N).2 j e,fun h=>⟨j,hj,hp.1,hp.2.1,hp.2.2,h⟩,fun ⟨k,hk,k1,k2,k3,k4⟩=>?_⟩
  have:=zep (p:=shp x (x i).group (x i).row) hk ⟨k1,k2,k3⟩
  by_cases c:k=j
  ·subst c;exact k4
  ·have:=hC.up k j (by omega) hj;omega
theorem zlt {x:Nat→RecD} {N:Nat} (hC:Csd x N) (ce:Nat→List Value) {i:Nat} (hi:i<N) (hk:(x i).kind=1):∃ j,j<N∧newF x ce N (.string (x i).name)=some (.agg (ce j).toArray)∧(SameR (x i) (x j)↔zb3 (itm x (x i).name) N=(i:Int)):=by
 have hge:=zep (p:=itm x (x i).name) hi ⟨hk,rfl⟩
 rcases zdr (itm x (x i).name) N with e | ⟨j,hj,e,hp⟩
 ·omega
 ·refine ⟨j,hj,(zj8 x ce _ N).2 j e,fun h=>?_,fun h=>?_⟩
  ·rw [hC.one i j hi hj h];rw [← hC.one i j hi hj h] at e ⊢;exact e
  ·obtain rfl:j=i:=by omega
   exact ⟨rfl,rfl,rfl,rfl,rfl,rfl,⟨rfl,fun _ _=>rfl⟩,⟨rfl,fun _ _=>rfl⟩,⟨rfl,fun _ _=>rfl⟩⟩
theorem zlu (x:Nat→RecD) (N:Nat) (q:Int):0<cN (fun i=>(x i).kind=2) (fun i=>.int .i64 (x i).seq) (.int .i64 q) N↔∃ j,j<N∧(x j).kind=2∧(x j).seq=q:=by
 rw [zgU];exact ⟨fun ⟨j,a,b,c⟩=>⟨j,a,b,by simpa using c⟩,fun ⟨j,a,b,c⟩=>⟨j,a,b,by rw [c]⟩⟩
theorem zlv (x:Nat→RecD) (N:Nat) (q:Int):0<cN (fun i=>(x i).kind=3) (fun i=>.int .i64 (x i).seq) (.int .i64 q) N↔∃ j,j<N∧(x j).kind=3∧(x j).seq=q:=by
 rw [zgU];exact ⟨fun ⟨j,a,b,c⟩=>⟨j,a,b,by simpa using c⟩,fun ⟨j,a,b,c⟩=>⟨j,a,b,by rw [c]⟩⟩
theorem zlW {x:Nat→RecD} {N:Nat} (hC:Csd x N) {i:Nat} (hi:i<N):(x i).seq≤zc7 N x:=by
 unfold zc7;rw [if_neg (by omega)]
 by_cases c:i=N-1
 ·rw [c];exact Int.le_refl _
 ·exact hC.up i (N-1) (by omega) (by omega)
end Go.Proofs.YtajibninhikdgaaGreat
namespace Go.Proofs.YtajibninhikdgaaGreat
open Go.RowKit F256
open Go.Maps (Keyed)
set_option maxRecDepth 20000 in
theorem zfv (v:Value) (n:Nat) (x:Nat→RecD) (q g:Int) (hi:Nat) (w:World) (h:(zab.slice 83).rd w hi (n,x) [v]) (hhi:hi≤w.heap.size) (hn:n≤1048576) :
 Calls Tryz.prog 118 #[v,.int .i64 q,.int .i64 g] w (zaT (DonP x n q g) w):=by
 obtain ⟨ao,cap,e,hmm,hc⟩:=h
 obtain rfl:v=.slice ao n cap:=by simpa using e
 have HC:=hid hc;clear e hmm hc
 go_enter Tryz.func118,Tryz.ntmps118
 go_wp2
 go_loopw [7] (fun z wr=>∃ k:Nat,k≤n∧z=.int .i64 k∧(∀ t,t<k→¬ ((x t).kind=3∧(x t).seq=q∧(x t).group=g))∧Below w.heap.size w wr) (fun z _=>n-(intOf z).toNat)
 case atStart=>exact ⟨0,Nat.zero_le _,rfl,fun t ht=>by omega,Below.refl _ _⟩
 case round=>
  obtain ⟨k,hk,rfl,hall,hbl⟩:=hrel;have HALL:=hid hall;have HB:=hid hbl;clear hall
  by_cases hlt:k<n
  ·obtain ⟨b,off,rfl,hbh,hel⟩:=HC.out (by omega)
   obtain ⟨ce,hy,hcell⟩:=zau (t:=83) hel hbl hhi hbh hlt;obtain ⟨ao6,cap6,ao7,cap7,ao8,cap8,rfl,-,-,-,-⟩:=zaw hy;obtain ⟨r,hr⟩:∃ r,r=x k:=⟨_,rfl⟩;have HRR:=hid hr;rw [← hr] at hcell
   have y0:wr.cell? ⟨b,off+k*9,none⟩=some (.int .i64 r.kind):=by have:=hcell 0 (by decide);exact this
   have y1:wr.cell? ⟨b,off+k*9+1,none⟩=some (.int .i64 r.seq):=by have:=hcell 1 (by decide);exact this
   have y4:wr.cell? ⟨b,off+k*9+4,none⟩=some (.int .i64 r.group):=by have:=hcell 4 (by decide);exact this
   have i1:(0:Int)≤(k:Int):=by omega
   have i2:(k:Int)<(n:Int):=by omega
   clear hcell hel hy hr hbl
   by_cases c1:r.kind=3
   ·have d1:(r.kind==3)=true:=by simp [c1]
    have HC1:=hid c1;clear c1
    by_cases c2:r.seq=q
    ·have d2:(r.seq==q)=true:=by simp [c2]
     have HC2:=hid c2;clear c2
     by_cases c3:r.group=g
     ·have d3:(r.group==g)=true:=by simp [c3]
      have HC3:=hid c3;clear c3;go_wp2;go_ret;exact ⟨true,rfl,⟨fun _=>⟨k,hlt,by rw [← HRR.out];exact HC1.out,by rw [← HRR.out];exact HC2.out,by rw [← HRR.out];exact HC3.out⟩,fun _=>rfl⟩,HB.out⟩
     ·have d3:(r.group==g)=false:=by simp [c3]
      have HC3:=hid c3;clear c3;go_wp2
      go_roundw
      case rel=>exact ⟨k+1,by omega,by go_num,fun t ht=>(by
       by_cases c:t=k
       ·subst c;rw [← HRR.out];exact fun h=>HC3.out h.2.2
       ·exact HALL.out t (by omega)),HB.out⟩
      case measure=>simp [intOf];omega
    ·have d2:(r.seq==q)=false:=by simp [c2]
     have HC2:=hid c2;clear c2;go_wp2
     go_roundw
     case rel=>exact ⟨k+1,by omega,by go_num,fun t ht=>(by
      by_cases c:t=k
      ·subst c;rw [← HRR.out];exact fun h=>HC2.out h.2.1
      ·exact HALL.out t (by omega)),HB.out⟩
     case measure=>simp [intOf];omega
   ·have d1:(r.kind==3)=false:=by simp [c1]
    have HC1:=hid c1;clear c1;go_wp2
    go_roundw
    case rel=>exact ⟨k+1,by omega,by go_num,fun t ht=>(by
     by_cases c:t=k
     ·subst c;rw [← HRR.out];exact fun h=>HC1.out h.1
     ·exact HALL.out t (by omega)),HB.out⟩
    case measure=>simp [intOf];omega
  ·obtain rfl:k=n:=by omega
   clear hbl;go_wp2;go_ret;exact ⟨false,rfl,⟨(fun h=>by cases h),fun ⟨j,h1,h2⟩=>absurd h2 (HALL.out j h1)⟩,HB.out⟩
end Go.Proofs.YtajibninhikdgaaGreat
