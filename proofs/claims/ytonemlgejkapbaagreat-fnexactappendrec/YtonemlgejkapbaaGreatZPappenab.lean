/- Contracts of the laws' helpers, over whatever lies in memory. -/
import Derived.Laws.BytesArg
import Derived.Deep.RegionLaw
import Derived.Test.YtonemlgejkapbaaGreatZPappenaa
set_option linter.unusedVariables false
set_option linter.unusedSimpArgs false
set_option maxHeartbeats 16000000
namespace Go.Proofs.YtonemlgejkapbaaGreat
open Go.RowKit F256
def ToS {α:Type} (A:Lay α) (sz:α→Nat) (fn:Nat):Prop:=∀ (v:Value) (d:α) (hi:Nat) (w:World),A.rd w hi d [v]→hi≤w.heap.size→sz d≤1048576→
 Calls Tryz.prog fn #[v] w fun e w'=>∃ v',e=.returned v'∧OwnT A w' w.heap.size w'.heap.size d [v']∧Below w.heap.size w w'
def ToV {α:Type} (A:Lay α) (sz:α→Nat) (fn:Nat):Prop:=∀ (cs:List Value) (d:α) (hi:Nat) (w:World),A.rd w hi d cs→hi≤w.heap.size→sz d≤1048576→
 Calls Tryz.prog fn #[.agg cs.toArray] w fun e w'=>∃ cs',e=.returned (.agg cs'.toArray)∧OwnT A w' w.heap.size w'.heap.size d cs'∧Below w.heap.size w w'
def EqS {α:Type} (A:Lay α) (fn:Nat):Prop:=∀ (v1 v2:Value) (d:α) (h1 h2:Nat) (w:World),A.rd w h1 d [v1]→A.rd w h2 d [v2]→h1≤w.heap.size→h2≤w.heap.size→
 Calls Tryz.prog fn #[v1,v2] w fun e w'=>e=.returned (.bool true)∧Below w.heap.size w w'
def EqV {α:Type} (A:Lay α) (fn:Nat):Prop:=∀ (c1 c2:List Value) (d:α) (h1 h2:Nat) (w:World),A.rd w h1 d c1→A.rd w h2 d c2→h1≤w.heap.size→h2≤w.heap.size→
 Calls Tryz.prog fn #[.agg c1.toArray,.agg c2.toArray] w fun e w'=>e=.returned (.bool true)∧Below w.heap.size w w'
def MkS {α:Type} (A:Lay α) (c:α→Nat) (mk:Nat→α→α) (fn:Nat):Prop:=∀ (v:Value) (d:α) (L:List Nat) (j:Nat) (w:World),A.own w d [v] L→L.Nodup→j+c d≤100000000→
 Calls Tryz.prog fn #[v,.int .i64 j] w fun e w'=>e=.returned (.int .i64 ((j+c d:Nat):Int))∧A.own w' (mk j d) [v] L∧ChgL L w w'
def MkV {α:Type} (A:Lay α) (c:α→Nat) (mk:Nat→α→α) (fn:Nat):Prop:=∀ (cs:List Value) (d:α) (L:List Nat) (j:Nat) (w:World),A.own w d cs L→L.Nodup→j+c d≤100000000→
 Calls Tryz.prog fn #[.agg cs.toArray,.int .i64 j] w fun e w'=>e=.returned (.int .i64 ((j+c d:Nat):Int))∧A.own w' (mk j d) cs L∧ChgL L w w'
def HdS {α:Type} (A:Lay α) (c:α→Nat) (mk:Nat→α→α) (fn:Nat):Prop:=∀ (v:Value) (d:α) (hi:Nat) (j:Nat) (w:World),A.rd w hi (mk j d) [v]→hi≤w.heap.size→j+c d≤100000000→
 Calls Tryz.prog fn #[v,.int .i64 j] w fun e w'=>e=.returned (.int .i64 ((j+c d:Nat):Int))∧Below w.heap.size w w'
def HdV {α:Type} (A:Lay α) (c:α→Nat) (mk:Nat→α→α) (fn:Nat):Prop:=∀ (cs:List Value) (d:α) (hi:Nat) (j:Nat) (w:World),A.rd w hi (mk j d) cs→hi≤w.heap.size→j+c d≤100000000→
 Calls Tryz.prog fn #[.agg cs.toArray,.int .i64 j] w fun e w'=>e=.returned (.int .i64 ((j+c d:Nat):Int))∧Below w.heap.size w w'
def SzP (n L:Nat) (x:Int):Prop:=x=-1∨(n≤L∧x=(L:Int)-(n:Int))
def SzS {α:Type} (A:Lay α) (sz:α→Nat) (fn:Nat):Prop:=∀ (v:Value) (d:α) (hi L:Nat) (w:World),A.rd w hi d [v]→hi≤w.heap.size→L≤1048576→
 Calls Tryz.prog fn #[v,.int .i64 L] w fun e w'=>∃ x,e=.returned (.int .i64 x)∧SzP (sz d) L x∧Below w.heap.size w w'
def SzV {α:Type} (A:Lay α) (sz:α→Nat) (fn:Nat):Prop:=∀ (cs:List Value) (d:α) (hi L:Nat) (w:World),A.rd w hi d cs→hi≤w.heap.size→L≤1048576→
 Calls Tryz.prog fn #[.agg cs.toArray,.int .i64 L] w fun e w'=>∃ x,e=.returned (.int .i64 x)∧SzP (sz d) L x∧Below w.heap.size w w'
def szSl {α:Type} (s:α→Nat) (p:Nat×(Nat→α)):Nat:=p.1+sumN (fun i=>s (p.2 i)) p.1
def cSl {α:Type} (c:α→Nat) (p:Nat×(Nat→α)):Nat:=sumN (fun i=>c (p.2 i)) p.1
def mkSl {α:Type} (c:α→Nat) (mk:Nat→α→α) (j:Nat) (p:Nat×(Nat→α)):Nat×(Nat→α):=(p.1,fun i=>mk (j+sumN (fun i=>c (p.2 i)) i) (p.2 i))
def lenD {α:Type} (p:Nat×(Nat→α)):Nat:=p.1
def za0 (j:Nat) (p:Nat×(Nat→Nat)):Nat×(Nat→Nat):=(p.1,zdw j)
def zbG (j:Nat) (p:Nat×(Nat→Int)):Nat×(Nat→Int):=(p.1,fun i=>if i<p.1 then zcq j i else 0)
theorem zaG (f:Nat→Nat) (k:Nat):sumN f (k+1)=sumN f k+f k:=rfl
theorem ziM (f:Nat→Nat) {i n:Nat} (h:i<n):f i≤sumN f n:=by
 have:=zbc f (show i+1≤n from h);rw [zaG] at this;omega
theorem zb1 {α:Type} {s:α→Nat} {p:Nat×(Nat→α)} {B:Nat} (h:szSl s p≤B):p.1≤B:=by unfold szSl at h;omega
theorem zbf {α:Type} {s:α→Nat} {p:Nat×(Nat→α)} {B:Nat} (h:szSl s p≤B) {i:Nat} (hi:i<p.1):s (p.2 i)≤B:=by
 unfold szSl at h;have:=ziM (fun i=>s (p.2 i)) hi;omega
theorem zdf:ToS zad lenD 39:=fun v d hi w h hhi hn=>by
 obtain ⟨v',e1,h1,h2⟩:=h
 cases e1
 refine (zf7 v d.1 d.2 hi w h1 hhi (by unfold lenD at hn;omega)).mono ?_;rintro e w' ⟨v',rfl,o,b⟩;refine ⟨v',rfl,⟨v'.ownBlock.toList,⟨v',rfl,rfl,o.weaken (Nat.zero_le _) (Nat.le_refl _),h2⟩,by cases v'.ownBlock<;>simp,fun b hb=>o.1.lt b (by simpa using hb)⟩,b⟩
theorem zdg:EqS zad 52:=fun v1 v2 d h1 h2 w r1 r2 _ _=>by
 obtain ⟨_,e1,k1,_⟩:=r1;obtain ⟨_,e2,k2,_⟩:=r2
 cases e1
 cases e2
 exact zfg v1 v2 d.1 d.2 h1 h2 w k1 k2
theorem zfj:ToS zai lenD 37:=fun v d hi w h hhi hn=>by
 obtain ⟨v',e1,h1,h2⟩:=h
 cases e1
 refine (zfi v d.1 d.2 hi w h1.1 hhi (by unfold lenD at hn;omega)).mono ?_;rintro e w' ⟨v',rfl,o,b⟩;refine ⟨v',rfl,⟨v'.ownBlock.toList,⟨v',rfl,rfl,o.weaken (Nat.zero_le _) (Nat.le_refl _),h2⟩,by cases v'.ownBlock<;>simp,fun b hb=>o.1.lt b (by simpa using hb)⟩,b⟩
theorem zfk:EqS zai 50:=fun v1 v2 d h1 h2 w r1 r2 _ _=>by
 obtain ⟨_,e1,k1,_⟩:=r1;obtain ⟨_,e2,k2,_⟩:=r2
 cases e1
 cases e2
 exact zeF v1 v2 d.1 d.2 h1 h2 w k1.1 k2.1
def zcr (v:Value):Nat:=v.ownBlock.getD 0
theorem zi5 {w:World} {lo hi:Nat} {v:Value} {n:Nat} {f:Nat→Nat} (h:Own w lo hi v n f):Own w (zcr v) (zcr v+1) v n f:=by
 refine ⟨⟨h.1.1,?_⟩,fun k hk=>by simp [zcr,hk]⟩
 rcases h.1.2 with hn | ⟨g,cap,cur,rfl,hbg,rest⟩
 ·exact .inl hn
 ·exact .inr ⟨g,cap,cur,rfl,by simp [zcr,Value.ownBlock],rest⟩
theorem ziN {w:World} {lo hi:Nat} {v:Value} {n:Nat} {f:Nat→Int} (h:OwnI w lo hi v n f):OwnI w (zcr v) (zcr v+1) v n f:=by
 refine ⟨⟨h.1.1,?_⟩,fun k hk=>by simp [zcr,hk]⟩
 rcases h.1.2 with hn | ⟨g,cap,cur,rfl,hbg,rest⟩
 ·exact .inl hn
 ·exact .inr ⟨g,cap,cur,rfl,by simp [zcr,Value.ownBlock],rest⟩
theorem ChgL.of_none {K:List Nat} {w w':World} (h:Out 0 0 w w'):ChgL K w w':=⟨h.os,h.tape,h.output,Nat.le_of_eq h.size.symm,fun b _ _=>h.block b (.inr (Nat.zero_le _))⟩
theorem zgS (j i:Nat):zdw j i<256:=Nat.mod_lt _ (by decide)
theorem zhf {w:World} {v:Value} {n:Nat} {f:Nat→Nat} {hi:Nat} (h:Own w 0 hi v n f) (hb:v.ownBlock=none):Own w 0 0 v n f:=⟨h.1,fun k hk=>by rw [hb] at hk;cases hk⟩
theorem zbQ:MkS zad lenD za0 56:=fun v d L j w h nd hj=>by
 obtain ⟨v',e1,rfl,o,k⟩:=h
 cases e1
 unfold lenD at hj
 cases hb:v.ownBlock with
 | none=>
  refine (zc1 v d.1 d.2 0 0 j (by omega) (by omega) w (zhf o hb)).mono ?_;rintro e w' ⟨rfl,o',out⟩;exact ⟨rfl,⟨v,rfl,by rw [hb],o'.weaken (Nat.le_refl _) (Nat.zero_le _),fun i=>zgS j i⟩,ChgL.of_none out⟩
 | some g=>
  have e:zcr v=g:=by simp [zcr,hb]
  have hg:=(o.1.lt g hb).2;have o2:=zi5 o;rw [e] at o2;refine (zc1 v d.1 d.2 g (g+1) j (by omega) (by omega) w o2).mono ?_;rintro e w' ⟨rfl,o',out⟩;exact ⟨rfl,⟨v,rfl,by rw [hb],o'.weaken (Nat.zero_le _) (by rw [out.size];exact hg),fun i=>zgS j i⟩,ChgL.of_out out (by simp)⟩
theorem zcw:HdS zad lenD za0 159:=fun v d hi j w h hhi hj=>by
 obtain ⟨v',e1,o,k⟩:=h
 cases e1
 unfold lenD at hj;refine (zeE v d.1 hi j (by omega) (by omega) w o).mono ?_;rintro e w' ⟨rfl,rfl⟩;exact ⟨rfl,Below.refl _ _⟩
theorem zf9 {w:World} {v:Value} {n:Nat} {f:Nat→Int} {hi:Nat} (h:OwnI w 0 hi v n f) (hb:v.ownBlock=none):OwnI w 0 0 v n f:=⟨h.1,fun k hk=>by rw [hb] at hk;cases hk⟩
theorem zc2 (v:Value) (n:Nat) (f:Nat→Int) (lo hi:Nat) (j:Nat) (hj:j≤1000000000) (hn:n≤1000000000) (w:World) (h:OwnI w lo hi v n f) :
 Calls Tryz.prog 54 #[v,.int .i64 j] w fun e w'=>e=.returned (.int .i64 ((j+n:Nat):Int))∧OwnI w' lo hi v n (fun i=>if i<n then zcq j i else 0)∧Out lo hi w w':=by
 refine (zee v n f lo hi j hj hn w h).mono ?_;rintro e w' ⟨rfl,o',out⟩;exact ⟨rfl,o'.congr (fun i hi=>by rw [if_pos hi]),out⟩
theorem zfl {j n:Nat} (h:j+n≤100000000) (i:Nat):-9223372036854775808≤(if i<n then zcq j i else 0)∧(if i<n then zcq j i else 0)≤9223372036854775807:=by
 by_cases c:i<n
 ·rw [if_pos c,zcL];omega
 ·rw [if_neg c];omega
theorem zcU:MkS zai lenD zbG 54:=fun v d L j w h nd hj=>by
 obtain ⟨v',e1,rfl,o,k⟩:=h
 cases e1
 unfold lenD at hj
 cases hb:v.ownBlock with
 | none=>
  refine (zc2 v d.1 d.2 0 0 j (by omega) (by omega) w (zf9 o hb)).mono ?_;rintro e w' ⟨rfl,o',out⟩;exact ⟨rfl,⟨v,rfl,by rw [hb],o'.weaken (Nat.le_refl _) (Nat.zero_le _),zfl hj⟩,ChgL.of_none out⟩
 | some g=>
  have e:zcr v=g:=by simp [zcr,hb]
  have hg:=(o.1.lt g hb).2;have o2:=ziN o;rw [e] at o2;refine (zc2 v d.1 d.2 g (g+1) j (by omega) (by omega) w o2).mono ?_;rintro e w' ⟨rfl,o',out⟩;exact ⟨rfl,⟨v,rfl,by rw [hb],o'.weaken (Nat.zero_le _) (by rw [out.size];exact hg),zfl hj⟩,ChgL.of_out out (by simp)⟩
theorem zdH:HdS zai lenD zbG 87:=fun v d hi j w h hhi hj=>by
 obtain ⟨v',e1,o,k⟩:=h
 cases e1
 unfold lenD at hj ⊢;obtain ⟨n,f⟩:=d;obtain ⟨ao,cap,rfl,hm,hc⟩:=o.1
 simp only [zbG] at hm hc hj ⊢
 clear k hhi
 go_enter Tryz.func87,Tryz.ntmps87
 go_wp2
 go_loop [1,5] (fun x i=>∃ k:Nat,k≤n∧i=.int .i64 k∧x=.int .i64 ((j+k:Nat):Int)) (fun _ i=>n-(intOf i).toNat)
 case atStart=>exact ⟨0,Nat.zero_le _,rfl,rfl⟩
 case round=>
  obtain ⟨k,hk,rfl,rfl⟩:=hrel
  by_cases hlt:k<n
  ·obtain ⟨b,off,rfl,hblt,hcell⟩:=hc (by omega)
   have hck:w.cell? ⟨b,off+k,none⟩=some (.int .i64 ((j:Int)+(k:Int))):=by rw [← zcL,hcell k hlt,if_pos hlt]
   clear hc hcell;go_wp2
   go_round
   case rel=>exact ⟨k+1,by omega,by go_num,zbr (by omega)⟩
   case measure=>simp [intOf];omega
  ·have hkn:k=n:=by omega
   subst hkn;go_wp2;go_ret;exact ⟨rfl,Below.refl _ _⟩
theorem zdh:SzS zad lenD 27:=fun v d hi L w h hhi hL=>by
 obtain ⟨v',e1,o,k⟩:=h
 cases e1
 unfold lenD;obtain ⟨n,f⟩:=d;obtain ⟨ao,cap,rfl,hm,hc⟩:=o
 simp only at hm hc ⊢
 unfold maxLen at hm;clear hc k hhi
 by_cases c:n≤L
 ·have c':¬ (L:Int)-(n:Int)<0:=by omega
  go_enter Tryz.func27,Tryz.ntmps27
  go_wp2;go_ret;exact ⟨_,rfl,.inr ⟨c,rfl⟩,Below.refl _ _⟩
 ·have c':(L:Int)-(n:Int)<0:=by omega
  go_enter Tryz.func27,Tryz.ntmps27
  go_wp2;go_ret;exact ⟨_,rfl,.inl rfl,Below.refl _ _⟩
theorem zfm:SzS zai lenD 25:=fun v d hi L w h hhi hL=>by
 obtain ⟨v',e1,o,k⟩:=h
 cases e1
 unfold lenD;obtain ⟨n,f⟩:=d;obtain ⟨ao,cap,rfl,hm,hc⟩:=o.1
 simp only at hm hc ⊢
 unfold maxLen at hm;clear hc k hhi
 by_cases c:n≤L
 ·have c':¬ (L:Int)-(n:Int)<0:=by omega
  go_enter Tryz.func25,Tryz.ntmps25
  go_wp2;go_ret;exact ⟨_,rfl,.inr ⟨c,rfl⟩,Below.refl _ _⟩
 ·have c':(L:Int)-(n:Int)<0:=by omega
  go_enter Tryz.func25,Tryz.ntmps25
  go_wp2;go_ret;exact ⟨_,rfl,.inl rfl,Below.refl _ _⟩
theorem zcc {w:World} {hi:Nat} {p:Nat×(Nat→Nat)} {c:List Value} (h:zad.rd w hi p c):∃ ao cap,c=[.slice ao p.1 cap]:=by
 obtain ⟨v,rfl,⟨ao,cap,rfl,_⟩,_⟩:=h;exact ⟨ao,cap,rfl⟩
theorem zc3 {w:World} {hi:Nat} {p:Nat×(Nat→Int)} {c:List Value} (h:zai.rd w hi p c):∃ ao cap,c=[.slice ao p.1 cap]:=by
 obtain ⟨v,rfl,⟨⟨ao,cap,rfl,_⟩,_⟩,_⟩:=h;exact ⟨ao,cap,rfl⟩
theorem zbq {α:Type} {E:Lay α} {t:TypeId} {w:World} {hi:Nat} {p:Nat×(Nat→α)} {c:List Value} (h:(E.slice t).rd w hi p c):∃ ao cap,c=[.slice ao p.1 cap]:=by
 obtain ⟨ao,cap,rfl,_⟩:=h;exact ⟨ao,cap,rfl⟩
theorem zcV {w:World} {p:Nat×(Nat→Nat)} {c:List Value} {L:List Nat} (h:zad.own w p c L):∃ ao cap,c=[.slice ao p.1 cap]:=zcc (zad.own_rd (hi:=w.heap.size) h (zad.own_lt h))
theorem zeq {w:World} {p:Nat×(Nat→Int)} {c:List Value} {L:List Nat} (h:zai.own w p c L):∃ ao cap,c=[.slice ao p.1 cap]:=zc3 (zai.own_rd (hi:=w.heap.size) h (zai.own_lt h))
theorem zbN {α:Type} {E:Lay α} {t:TypeId} {w:World} {p:Nat×(Nat→α)} {c:List Value} {L:List Nat} (h:(E.slice t).own w p c L):∃ ao cap,c=[.slice ao p.1 cap]:=zbq ((E.slice t).own_rd (hi:=w.heap.size) h ((E.slice t).own_lt h))
theorem za9 {w:World} {lo hi:Nat} {p:Nat×(Nat→Nat)} {c:List Value} (h:OwnT zad w lo hi p c):∃ ao cap,c=[.slice ao p.1 cap]:=zcc h.rd
theorem zbX {w:World} {lo hi:Nat} {p:Nat×(Nat→Int)} {c:List Value} (h:OwnT zai w lo hi p c):∃ ao cap,c=[.slice ao p.1 cap]:=zc3 h.rd
theorem zbA {α:Type} {E:Lay α} {t:TypeId} {w:World} {lo hi:Nat} {p:Nat×(Nat→α)} {c:List Value} (h:OwnT (E.slice t) w lo hi p c):∃ ao cap,c=[.slice ao p.1 cap]:=zbq h.rd
theorem zaL {v:Value} {u:Value} (h:[v]=[u]):v=u:=by simpa using h
theorem OwnT.two {α β:Type} {A:Lay α} {B:Lay β} {w:World} {l1 e1 l2 e2:Nat} {a:α} {b:β} {c d:List Value} (h1:OwnT A w l1 e1 a c) (h2:OwnT B w l2 e2 b d) (h:e1≤l2) (h3:l1≤l2) (h4:e1≤e2):OwnT (A.two B) w l1 e2 (a,b) (c++d):=by
 obtain ⟨K,a1,a2,a3⟩:=h1;obtain ⟨M,b1,b2,b3⟩:=h2;refine ⟨K++M,⟨c,d,K,M,rfl,rfl,a1,b1⟩,List.nodup_append.2 ⟨a2,b2,fun x hx y hy hh=>?_⟩,fun x hx=>?_⟩
 ·subst hh
  have:=a3 x hx;have:=b3 x hy;omega
 ·rcases List.mem_append.1 hx with h | h
  ·have:=a3 x h;omega
  ·have:=b3 x h;omega
theorem OwnT.pre {α β:Type} {A:Lay α} {B:Lay β} {w:World} {l e:Nat} {a:α} {b:β} {c d:List Value} (h1:A.own w a c []) (h2:OwnT B w l e b d):OwnT (A.two B) w l e (a,b) (c++d):=by
 obtain ⟨M,b1,b2,b3⟩:=h2;exact ⟨M,⟨c,d,[],M,rfl,rfl,h1,b1⟩,b2,b3⟩
theorem OwnT.nil {α:Type} {A:Lay α} {w:World} {a:α} {c:List Value} (h:A.own w a c []) (l e:Nat):OwnT A w l e a c:=⟨[],h,List.nodup_nil,fun b hb=>by cases hb⟩
theorem OwnT.set {α:Type} {A:Lay α} {w:World} {lo hi b j:Nat} {u:Value} {a:α} {cs:List Value} (h:OwnT A w lo hi a cs) (hb:b<lo):OwnT A (w.setCell ⟨b,j,none⟩ u) lo hi a cs:=
 h.chg (zdE w b (b+1) b j u (Nat.le_refl _) (Nat.lt_succ_self _)).chg (.inr hb)
theorem OwnT.call {α:Type} {A:Lay α} {w w':World} {lo hi:Nat} {a:α} {cs:List Value} (h:OwnT A w lo hi a cs) (hb:Below w.heap.size w w'):OwnT A w' lo hi a cs:=by
 obtain ⟨L,h1,h2,h3⟩:=h;exact ⟨L,A.own_kept h1 (fun b hb'=>hb.block b (A.own_lt h1 b hb')),h2,h3⟩
theorem OwnT.conv {α β:Type} {A:Lay α} {to:β→α} {w:World} {lo hi:Nat} {b:β} {cs:List Value} (h:OwnT A w lo hi (to b) cs):OwnT (A.as to) w lo hi b cs:=h
theorem OwnT.stN {α:Type} {A:Lay α} {w:World} {lo hi:Nat} {a:α} {cs:List Value} (h:OwnT A w lo hi a cs) (b off:Nat) (l:List Value) (hb:b<lo):OwnT A (stN w b off l) lo hi a cs:=by
 obtain ⟨L,h1,h2,h3⟩:=h;exact ⟨L,A.own_kept h1 (fun k hk=>zbz b k (by have:=h3 k hk;omega) l w off),h2,h3⟩
theorem OwnT.fin {α:Type} {A:Lay α} {w:World} {s:Nat} {a:α} {cs:List Value} (h:OwnT A w (s+1+1+1) w.heap.size a cs) (o1 o2:Nat) (l1 l2:List Value) (w':World) (e:w'=Go.Proofs.YtonemlgejkapbaaGreat.stN (Go.Proofs.YtonemlgejkapbaaGreat.stN w (s+1+1) o1 l1) (s+1) o2 l2):OwnT A w' s w'.heap.size a cs:=by
 subst e;exact ((h.stN (s+1+1) o1 l1 (by omega)).stN (s+1) o2 l2 (by omega)).weaken (by omega) (by rw [zbp,zbp];exact Nat.le_refl _)
theorem zcx {w0 w:World} {s:Nat} (h:Below s w0 w) (o1 o2:Nat) (l1 l2:List Value) (w':World) (e:w'=Go.Proofs.YtonemlgejkapbaaGreat.stN (Go.Proofs.YtonemlgejkapbaaGreat.stN w (s+1+1) o1 l1) (s+1) o2 l2):Below s w0 w':=by
 subst e;exact (h.trans (zaK (by omega) _ _)).trans (zaK (by omega) _ _)
theorem zc4 {B b j:Nat} {a w:World} {u:Value} (h:Below B a w) (hb:B≤b):Below B a (w.setCell ⟨b,j,none⟩ u):=h.setCell hb _
theorem Box.setc {w:World} {b:Nat} {cs:Array Value} {t:TypeId} (h:Box w b cs t) (j:Nat) (u:Value):Box (w.setCell ⟨b,j,none⟩ u) b (cs.setIfInBounds j u) t:=by
 unfold Box at h ⊢;have hlt:=(Array.getElem?_eq_some_iff.1 h).1;have he:=(Array.getElem?_eq_some_iff.1 h).2
 simp [World.setCell,hlt,Array.getElem_modify,he]
theorem Box.seto {w:World} {b b':Nat} {cs:Array Value} {t:TypeId} (h:Box w b cs t) (j:Nat) (u:Value) (hne:b≠b'):Box (w.setCell ⟨b',j,none⟩ u) b cs t:=(heap_setCell_other w ⟨b',j,none⟩ b u hne).trans h
theorem Box.stL:∀ (l:List Value) {w:World} {b:Nat} {cs:Array Value} {t:TypeId} (off:Nat),Box w b cs t→Box (Go.Proofs.YtonemlgejkapbaaGreat.stN w b off l) b (setL cs.toList off l).toArray t
 | [],w,b,cs,t,off,h=>by simpa [Go.Proofs.YtonemlgejkapbaaGreat.stN,setL] using h
 | c::l,w,b,cs,t,off,h=>by
  have h1:=Box.stL l (off+1) (h.setc off c);rw [Array.toList_setIfInBounds] at h1;exact h1
theorem Box.call {w w':World} {b:Nat} {cs:Array Value} {t:TypeId} (h:Box w b cs t) (hb:Below w.heap.size w w'):Box w' b cs t:=h.below hb h.lt
structure One (w wc:World) (c1:Array Value) (t1:TypeId):Prop where
 b1:Box wc w.heap.size c1 t1
 bel:Below w.heap.size w wc
theorem zaQ (w:World) (c1:Array Value) (t1:TypeId):One w (w.alloc (.cells c1 t1)) c1 t1:=⟨zaz _ _ _,(Below.refl _ _).alloc (Nat.le_refl _) _⟩
theorem One.call {w wc w':World} {c1:Array Value} {t1:TypeId} (h:One w wc c1 t1) (hb:Below wc.heap.size wc w'):One w w' c1 t1:=⟨h.b1.call hb,h.bel.trans (hb.mono h.bel.size)⟩
structure Two (w wc:World) (c1 c2:Array Value) (t1 t2:TypeId):Prop where
 b1:Box wc w.heap.size c1 t1
 b2:Box wc (w.heap.size+1) c2 t2
 bel:Below w.heap.size w wc
theorem zay (w:World) (c1 c2:Array Value) (t1 t2:TypeId):Two w ((w.alloc (.cells c1 t1)).alloc (.cells c2 t2)) c1 c2 t1 t2:=by
 have h:=zaz (w.alloc (.cells c1 t1)) c2 t2
 have e:(w.alloc (.cells c1 t1)).heap.size=w.heap.size+1:=by simp
 rw [e] at h;exact ⟨((zaz w c1 t1).below (B:=w.heap.size+1) ((Below.refl _ _).alloc (by simp) _) (by omega)),h,((Below.refl _ _).alloc (Nat.le_refl _) _).alloc (by simp) _⟩
theorem Two.call {w wc w':World} {c1 c2:Array Value} {t1 t2:TypeId} (h:Two w wc c1 c2 t1 t2) (hb:Below wc.heap.size wc w'):Two w w' c1 c2 t1 t2:=⟨h.b1.call hb,h.b2.call hb,h.bel.trans (hb.mono h.bel.size)⟩
structure Three (w wc:World) (c1 c2 c3:Array Value) (t1 t2 t3:TypeId):Prop where
 b1:Box wc w.heap.size c1 t1
 b2:Box wc (w.heap.size+1) c2 t2
 b3:Box wc (w.heap.size+1+1) c3 t3
 bel:Below w.heap.size w wc
theorem zbJ (w:World) (c1 c2 c3:Array Value) (t1 t2 t3:TypeId):Three w (((w.alloc (.cells c1 t1)).alloc (.cells c2 t2)).alloc (.cells c3 t3)) c1 c2 c3 t1 t2 t3:=by
 have e1:(w.alloc (.cells c1 t1)).heap.size=w.heap.size+1:=by simp
 have e2:((w.alloc (.cells c1 t1)).alloc (.cells c2 t2)).heap.size=w.heap.size+1+1:=by simp
 have k1:=zaz w c1 t1;have k2:=zaz (w.alloc (.cells c1 t1)) c2 t2;have k3:=zaz ((w.alloc (.cells c1 t1)).alloc (.cells c2 t2)) c3 t3;rw [e1] at k2;rw [e2] at k3;have a2:Below (w.heap.size+1) (w.alloc (.cells c1 t1)) ((w.alloc (.cells c1 t1)).alloc (.cells c2 t2)):=(Below.refl _ _).alloc (by simp) _;have a3:Below (w.heap.size+1+1) ((w.alloc (.cells c1 t1)).alloc (.cells c2 t2)) (((w.alloc (.cells c1 t1)).alloc (.cells c2 t2)).alloc (.cells c3 t3)):=(Below.refl _ _).alloc (by simp) _;exact ⟨(k1.below a2 (by omega)).below a3 (by omega),k2.below a3 (by omega),k3,(((Below.refl _ _).alloc (Nat.le_refl _) _).alloc (by simp) _).alloc (by simp<;>omega) _⟩
section
variable {w wc w':World} {c1 c2 c3:Array Value} {t1 t2 t3:TypeId}
theorem Three.call (h:Three w wc c1 c2 c3 t1 t2 t3) (hb:Below wc.heap.size wc w'):Three w w' c1 c2 c3 t1 t2 t3:=⟨h.b1.call hb,h.b2.call hb,h.b3.call hb,h.bel.trans (hb.mono h.bel.size)⟩
theorem Three.set3 (h:Three w wc c1 c2 c3 t1 t2 t3) (j:Nat) (u:Value):Three w (wc.setCell ⟨w.heap.size+1+1,j,none⟩ u) c1 c2 (c3.setIfInBounds j u) t1 t2 t3:=
 ⟨h.b1.seto _ _ (by omega),h.b2.seto _ _ (by omega),h.b3.setc j u,h.bel.setCell (by show w.heap.size≤w.heap.size+1+1;omega) _⟩
theorem Three.st3 (h:Three w wc c1 c2 c3 t1 t2 t3) (off:Nat) (l:List Value) {c3':List Value} (e:setL c3.toList off l=c3'):Three w (Go.Proofs.YtonemlgejkapbaaGreat.stN wc (w.heap.size+1+1) off l) c1 c2 c3'.toArray t1 t2 t3:=by
 subst e;refine ⟨?_,?_,h.b3.stL l off,h.bel.trans (zaK (by omega) _ _)⟩
 ·exact (zbz _ _ (by omega) l wc off).trans h.b1
 ·exact (zbz _ _ (by omega) l wc off).trans h.b2
theorem Three.lt (h:Three w wc c1 c2 c3 t1 t2 t3):w.heap.size+1+1+1≤wc.heap.size:=h.b3.lt
end
def SlK {α:Type} (E:Lay α) (t:TypeId) (w:World) (g cap n:Nat) (x:Nat→α) (ce:Nat→List Value) (Ls:Nat→List Nat) (k:Nat) (a:α) (cs:List Value):Prop:=SlO E t w g cap n (upd x k a) (upd ce k cs) Ls
theorem zb5 {β:Type} (f:Nat→β) (i:Nat):upd f i (f i)=f:=by
 funext k
 by_cases c:k=i
 ·subst c;rw [zaU]
 ·rw [zaW f _ c]
theorem zga {β:Type} (f:Nat→β) (i:Nat) (a b:β):upd (upd f i a) i b=upd f i b:=by
 funext k
 by_cases c:k=i
 ·subst c;rw [zaU,zaU]
 ·rw [zaW _ _ c,zaW _ _ c,zaW _ _ c]
section
variable {α:Type} {E:Lay α} {t:TypeId} {w w':World} {g cap n:Nat} {x:Nat→α} {ce:Nat→List Value} {Ls:Nat→List Nat} {k:Nat} {a a':α} {cs:List Value}
theorem SlO.at_ (h:SlO E t w g cap n x ce Ls) (k:Nat):SlK E t w g cap n x ce Ls k (x k) (ce k):=by
 unfold SlK;rw [zb5,zb5];exact h
theorem SlK.cell (h:SlK E t w g cap n x ce Ls k a cs) (hk:k<n) {j:Nat} (hj:j<E.sz):w.cell? ⟨g,k*E.sz+j,none⟩=cs[j]?:=by
 have:=SlO.cell h hk hj;rw [zaU] at this;exact this
theorem SlK.frozen (h:SlK E t w g cap n x ce Ls k a cs) (j:Nat):w.frozen? ⟨g,j,none⟩=false:=SlO.frozen h j
theorem SlK.own (h:SlK E t w g cap n x ce Ls k a cs) (hk:k<n):E.own w a cs (Ls k):=by
 have:=SlO.each h k hk;rw [zaU,zaU] at this;exact this
theorem SlK.store (h:SlK E t w g cap n x ce Ls k a cs) (nd:(g::catN n Ls).Nodup) (hk:k<n) {j:Nat} (hj:j<E.sz) (u:Value) (ha:E.own w a' (cs.set j u) (Ls k)) :
 SlK E t (w.setCell ⟨g,k*E.sz+j,none⟩ u) g cap n x ce Ls k a' (cs.set j u):=by
 have:=SlO.store (a':=a') h nd hk hj u (by rw [zaU];exact ha);rw [zaU,zga,zga] at this;exact this
theorem SlK.into (h:SlK E t w g cap n x ce Ls k a cs) (nd:(g::catN n Ls).Nodup) (hk:k<n) (hc:ChgL (Ls k) w w') (ha:E.own w' a' cs (Ls k)):SlK E t w' g cap n x ce Ls k a' cs:=by
 have:=SlO.into (a':=a') h nd hk hc (by rw [zaU];exact ha);rw [zga] at this;exact this
theorem SlO.sub (k:Nat) (hk:k<n):∀ b,b∈Ls k→b∈g::catN n Ls:=fun b hb=>List.mem_cons_of_mem _ (zaA.2 ⟨k,hk,hb⟩)
theorem zc5 (nd:(g::catN n Ls).Nodup) (k:Nat) (hk:k<n):(Ls k).Nodup:=by
 have h:=(List.nodup_cons.1 nd).2;clear nd
 induction n with
 | zero=>omega
 | succ n ih=>
  rw [za7] at h;obtain ⟨h1,h2,_⟩:=List.nodup_append.1 h
  by_cases c:k=n
  ·subst c;exact h2
  ·exact ih (by omega) h1
theorem zb2 {p q:Nat×(Nat→α)} {L:List Nat} (h:(E.slice t).own w p cs L) (e:p.1=q.1) (hx:∀ i,i<p.1→p.2 i=q.2 i):(E.slice t).own w q cs L:=by
 obtain ⟨v,ce,Ls,h1,h2,h3,h4⟩:=h;exact ⟨v,ce,Ls,h1,by rw [← e];exact h2,by rw [← e];exact h3,fun i hi=>by rw [← hx i (by omega)];exact h4 i (by omega)⟩
theorem SlO.congr {y:Nat→α} (h:SlO E t w g cap n x ce Ls) (hx:∀ i,i<n→x i=y i):SlO E t w g cap n y ce Ls:=⟨h.row,fun i hi=>by rw [← hx i hi];exact h.each i hi⟩
end
def mkTo {α:Type} (c:α→Nat) (mk:Nat→α→α) (j:Nat) (x:Nat→α) (k:Nat):Nat→α:=fun i=>if i<k then mk (j+sumN (fun i=>c (x i)) i) (x i) else x i
theorem zdI {α:Type} (c:α→Nat) (mk:Nat→α→α) (j:Nat) (x:Nat→α) (k:Nat):mkTo c mk j x k k=x k:=by simp [mkTo]
theorem zcy {α:Type} (c:α→Nat) (mk:Nat→α→α) (j:Nat) (x:Nat→α) (k:Nat):upd (mkTo c mk j x k) k (mk (j+sumN (fun i=>c (x i)) k) (x k))=mkTo c mk j x (k+1):=by
 funext i
 by_cases h:i=k
 ·subst h;rw [zaU];simp [mkTo]
 ·rw [zaW _ _ h]
  unfold mkTo
  by_cases h2:i<k
  ·rw [if_pos h2,if_pos (by omega)]
  ·rw [if_neg h2,if_neg (by omega)]
theorem zcz {α:Type} (c:α→Nat) (mk:Nat→α→α) (j:Nat) (x:Nat→α):mkTo c mk j x 0=x:=by
 funext i
 simp [mkTo]
theorem zcA {α:Type} (c:α→Nat) (mk:Nat→α→α) (j:Nat) (x:Nat→α) (n i:Nat) (h:i<n):mkTo c mk j x n i=(mkSl c mk j (n,x)).2 i:=by simp [mkTo,mkSl,h]
theorem SlP.some {α:Type} {E:Lay α} {t:TypeId} {w w':World} {lo g cap n k:Nat} {x:Nat→α} {ce:Nat→List Value} {Ls:Nat→List Nat} (h:SlP E t w lo g cap n k x ce Ls) (hb:Below w.heap.size w w') {i j:Nat} (hi:i<n) (hj:j<E.sz):∃ u,w'.cell? ⟨g,i*E.sz+j,none⟩=some u:=by
 have h':=h.below hb;rw [h'.cell hi hj];exact ⟨_,List.getElem?_eq_getElem (by rw [h'.lens i hi];exact hj)⟩
theorem SlP.next {α:Type} {E:Lay α} {t:TypeId} {w1 w:World} {lo g cap n k:Nat} {x:Nat→α} {ce:Nat→List Value} {Ls:Nat→List Nat} (h1:SlP E t w1 lo g cap n k x ce Ls) (hb:Below w1.heap.size w1 w) (hk:k<n) {cs:List Value} (ha:OwnT E w w1.heap.size w.heap.size (x k) cs) (hlo:lo≤w1.heap.size) :
 ∃ ce' Ls',SlP E t (stN w g (k*E.sz) cs) lo g cap n (k+1) x ce' Ls':=by
 obtain ⟨K,a1,a2,a3⟩:=ha;have:=h1.lay hb hk a1 a2 (fun b hb=>(a3 b hb).1) hlo;rw [zb5] at this;exact ⟨_,_,this⟩
theorem zas {α:Type} {E:Lay α} {t:TypeId} {w wr:World} {hi n:Nat} {x:Nat→α} {b off:Nat} (hel:∀ i,i<n→∃ ce,E.rd w hi (x i) ce∧∀ j,j<E.sz→w.cell? ⟨b,off+(i*E.sz+j),none⟩=ce[j]?) (hb:Below w.heap.size w wr) (hhi:hi≤w.heap.size) (hbh:b<hi) {k:Nat} (hk:k<n) :
 ∃ ce,E.rd wr hi (x k) ce∧∀ j,j<E.sz→wr.cell? ⟨b,off+(k*E.sz+j),none⟩=ce[j]?:=by
 obtain ⟨ce,h1,h2⟩:=hel k hk;exact ⟨ce,E.rd_below h1 hb hhi,fun j hj=>(hb.cell (p:=⟨b,off+(k*E.sz+j),none⟩) (by show b<w.heap.size;omega)).trans (h2 j hj)⟩
theorem zal {α:Type} {A:Lay α} {w:World} {a:α} {cs:List Value} {K:List Nat} {g j:Nat} {u:Value} (h:A.own w a cs K) (hg:g∉K):A.own (w.setCell ⟨g,j,none⟩ u) a cs K:=
 A.own_kept h (fun b hb=>heap_setCell_other w _ b u (fun hh=>hg (by have e:b=g:=hh;rw [← e];exact hb)))
theorem zgT {g n k:Nat} {Ls:Nat→List Nat} (nd:(g::catN n Ls).Nodup) (hk:k<n):g∉Ls k:=fun h=>(List.nodup_cons.1 nd).1 (zaA.2 ⟨k,hk,h⟩)
theorem ChgL.st {K:List Nat} {w0 w:World} (h:ChgL K w0 w) (b j:Nat) (u:Value) (hb:b∈K):ChgL K w0 (w.setCell ⟨b,j,none⟩ u):=h.trans (ChgL.store K w b j u hb)
theorem ChgL.sub {K M:List Nat} {w0 w w':World} (h:ChgL K w0 w) (h2:ChgL M w w') (hs:∀ b,b∈M→b∈K):ChgL K w0 w':=h.trans (h2.mono hs)
theorem SlO.mem_lt {α:Type} {E:Lay α} {t:TypeId} {w:World} {g cap n:Nat} {x:Nat→α} {ce:Nat→List Value} {Ls:Nat→List Nat} (h:SlO E t w g cap n x ce Ls):∀ b,b∈g::catN n Ls→b<w.heap.size:=fun b hb=>by
 rcases List.mem_cons.1 hb with rfl | hb
 ·exact h.lt
 ·obtain ⟨i,hi,hbi⟩:=zaA.1 hb
  exact E.own_lt (h.each i hi) b hbi
def digT:Nat→Nat→ByteArray→ByteArray
 | 0,_,out=>out
 | f+1,k,out=>if k=0 then out else digT f (k/10) (strOfNums [48+(k:Int)%10]++out)
def zbg (k:Nat):ByteArray:=ByteArray.mk #[109]++digT 20 k ByteArray.empty
theorem zhQ (f:Nat) (out:ByteArray):digT f 0 out=out:=by
 cases f<;>simp [digT]
theorem zdJ (x:Int):(strOfNums [x]).size=1:=rfl
theorem zfn:∀ (f k:Nat) (out:ByteArray),(digT f k out).size≤f+out.size
 | 0,k,out=>by simp [digT]
 | f+1,k,out=>by
  rw [digT]
  split
  ·omega
  ·have:=zfn f (k/10) (strOfNums [48+(k:Int)%10]++out)
   rw [ByteArray.size_append,zdJ] at this;omega
theorem zce (k:Nat):(zbg k).size≤maxLen:=by
 have:=zfn 20 k ByteArray.empty;have e0:ByteArray.empty.size=0:=rfl
 have e:(zbg k).size=1+(digT 20 k ByteArray.empty).size:=by unfold zbg;rw [ByteArray.size_append];rfl
 rw [e];unfold maxLen;omega
theorem zdm (k0:Nat) (h0:0<k0) (h1:k0≤1000000000) (w:World) :
 Calls Tryz.prog 131 #[.int .i64 k0] w fun e w'=>e=.returned (.string (zbg k0))∧Below w.heap.size w w':=by
 go_enter Tryz.func131,Tryz.ntmps131
 go_wp2
 go_loopw [0,3] (fun y s wr=>∃ (k f:Nat) (out:ByteArray),y=.int .i64 k∧s=.string out∧k<10 ^ f∧k≤1000000000∧f≤20∧out.size≤20-f∧digT f k out=digT 20 k0 ByteArray.empty∧Below w.heap.size w wr) (fun y _ _=>(intOf y).toNat)
 case atStart=>exact ⟨k0,20,ByteArray.empty,rfl,rfl,by omega,by omega,by omega,by simp,rfl,Below.refl _ _⟩
 case round=>
  obtain ⟨k,f,out,rfl,rfl,hk,hkb,hf,hsz,hd,hb⟩:=hrel;have HD:=hid hd;clear hd;have HP:=hid hk;clear hk
  by_cases hk0:k=0
  ·subst hk0
   go_wp2;go_ret;have e:=HD.out;rw [zhQ] at e;exact ⟨by unfold zbg;rw [← e];rfl,hb⟩
  ·obtain ⟨f',hf'⟩:∃ f',f=f'+1:=by
    cases f with
    | zero=>exact absurd HP.out (by simp;omega)
    | succ f'=>exact ⟨f',rfl⟩
   have HF:=hid hf';clear hf'
   have h48:(48+(k:Int)%10)%256=48+(k:Int)%10:=by omega
   have HC:∀ ct,(convert 29 9 (.slice (some ⟨wr.heap.size,0,none⟩) 1 ct)).run Tryz.prog (wr.alloc (.cells #[.int .u8 (48+(k:Int)%10)] 5))=.ok (.string (strOfNums [48+(k:Int)%10])) (wr.alloc (.cells #[.int .u8 (48+(k:Int)%10)] 5)):=fun ct=>
    run_convert_bytes_arg _ _ _ Tryz.underlying29 Tryz.underlying5 wr.heap.size 0 1 ct [48+(k:Int)%10] rfl (fun i hi=>by
     obtain rfl:i=0:=by omega
     exact (zaz wr #[.int .u8 (48+(k:Int)%10)] 5).cell 0) _ Tryz.underlying9
   have hadd:¬ (strOfNums [48+(k:Int)%10]).size+out.size > 9223372036854775807:=by rw [zdJ];omega
   go_wp2
   go_roundw
   case rel=>
    have e:=HD.out;have p:=HP.out;have q:=HF.out;subst q;rw [digT,if_neg hk0] at e;rw [Nat.pow_succ] at p;exact ⟨k/10,f',_,zbr (by omega),rfl,by omega,by omega,by omega,by rw [ByteArray.size_append,zdJ];omega,e,hb.alloc hb.size _⟩
   case measure=>simp [intOf];omega
theorem zba {w:World} {hi:Nat} {d:BlockD} {cs:List Value} (h:zah.rd w hi d cs):∃ ao1 cap1,cs=[.int .i64 d.stamp,.slice ao1 d.bytes.1 cap1]∧zad.rd w hi d.bytes [.slice ao1 d.bytes.1 cap1]∧(-9223372036854775808≤d.stamp∧d.stamp≤9223372036854775807):=by
 obtain ⟨c0,r0,rfl,h0,h1⟩:=h;obtain ⟨rfl,k0⟩:=h0;obtain ⟨ao1,cap1,rfl⟩:=zcc h1;exact ⟨ao1,cap1,rfl,h1,k0⟩
theorem zfo {w:World} {d:BlockD} {cs:List Value} {L:List Nat} (h:zah.own w d cs L):∃ ao1 cap1 K1,cs=[.int .i64 d.stamp,.slice ao1 d.bytes.1 cap1]∧L=K1∧zad.own w d.bytes [.slice ao1 d.bytes.1 cap1] K1∧(-9223372036854775808≤d.stamp∧d.stamp≤9223372036854775807):=by
 obtain ⟨c0,r0,L0,M0,rfl,rfl,h0,h1⟩:=h;obtain ⟨rfl,k0,rfl⟩:=h0;obtain ⟨ao1,cap1,rfl⟩:=zcV h1;exact ⟨ao1,cap1,_,rfl,rfl,h1,k0⟩
theorem zfp {w:World} {d:BlockD} {cs:List Value} {L:List Nat} (h:zah.own w d cs L):∃ ao1 cap1,cs=[.int .i64 d.stamp,.slice ao1 d.bytes.1 cap1]:=by
 obtain ⟨ao1,cap1,K1,rfl,-⟩:=zfo h;exact ⟨ao1,cap1,rfl⟩
theorem zcW {w:World} {lo hi:Nat} {d:BlockD} {cs:List Value} (h:OwnT zah w lo hi d cs):∃ ao1 cap1,cs=[.int .i64 d.stamp,.slice ao1 d.bytes.1 cap1]:=by
 obtain ⟨L,h1,-⟩:=h;exact zfp h1
theorem zgU {w:World} (d:BlockD) {ao1:Option Addr} {cap1:Nat} {K1:List Nat} (h1:zad.own w d.bytes [.slice ao1 d.bytes.1 cap1] K1) (k0:(-9223372036854775808≤d.stamp∧d.stamp≤9223372036854775807)):zah.own w d [.int .i64 d.stamp,.slice ao1 d.bytes.1 cap1] (K1):=⟨_,_,[],K1,rfl,rfl,⟨rfl,k0,rfl⟩,h1⟩
def zaB (d:BlockD):Nat:=lenD d.bytes
def zau (d:BlockD):Nat:=1+lenD d.bytes
def za4 (j:Nat) (d:BlockD):BlockD:=⟨((j:Nat):Int),za0 (j+1) d.bytes⟩
theorem zbh {w:World} {hi:Nat} {d:DriveD} {cs:List Value} (h:zab.rd w hi d cs):∃ ao1 cap1,cs=[.bool d.wiped,.slice ao1 d.blocks.1 cap1]∧(zah.slice 43).rd w hi d.blocks [.slice ao1 d.blocks.1 cap1]:=by
 obtain ⟨c0,r0,rfl,h0,h1⟩:=h;obtain ⟨rfl,k0⟩:=h0;obtain ⟨ao1,cap1,rfl⟩:=zbq h1;exact ⟨ao1,cap1,rfl,h1⟩
theorem zfq {w:World} {d:DriveD} {cs:List Value} {L:List Nat} (h:zab.own w d cs L):∃ ao1 cap1 K1,cs=[.bool d.wiped,.slice ao1 d.blocks.1 cap1]∧L=K1∧(zah.slice 43).own w d.blocks [.slice ao1 d.blocks.1 cap1] K1:=by
 obtain ⟨c0,r0,L0,M0,rfl,rfl,h0,h1⟩:=h;obtain ⟨rfl,k0,rfl⟩:=h0;obtain ⟨ao1,cap1,rfl⟩:=zbN h1;exact ⟨ao1,cap1,_,rfl,rfl,h1⟩
theorem zfr {w:World} {d:DriveD} {cs:List Value} {L:List Nat} (h:zab.own w d cs L):∃ ao1 cap1,cs=[.bool d.wiped,.slice ao1 d.blocks.1 cap1]:=by
 obtain ⟨ao1,cap1,K1,rfl,-⟩:=zfq h;exact ⟨ao1,cap1,rfl⟩
theorem zdK {w:World} {lo hi:Nat} {d:DriveD} {cs:List Value} (h:OwnT zab w lo hi d cs):∃ ao1 cap1,cs=[.bool d.wiped,.slice ao1 d.blocks.1 cap1]:=by
 obtain ⟨L,h1,-⟩:=h;exact zfr h1
theorem zgV {w:World} (d:DriveD) {ao1:Option Addr} {cap1:Nat} {K1:List Nat} (h1:(zah.slice 43).own w d.blocks [.slice ao1 d.blocks.1 cap1] K1):zab.own w d [.bool d.wiped,.slice ao1 d.blocks.1 cap1] (K1):=⟨_,_,[],K1,rfl,rfl,⟨rfl,trivial,rfl⟩,h1⟩
def zap (d:DriveD):Nat:=(szSl zaB) d.blocks
def zaf (d:DriveD):Nat:=1+(cSl zau) d.blocks
def zaD (j:Nat) (d:DriveD):DriveD:=⟨decide ((j)%3=0),(mkSl zau za4) (j+1) d.blocks⟩
theorem zbd {w:World} {hi:Nat} {d:RecD} {cs:List Value} (h:zac.rd w hi d cs):∃ ao6 cap6 ao7 cap7 ao8 cap8,cs=[.int .i64 d.kind,.int .i64 d.seq,.string d.name,.int .i64 d.length,.int .i64 d.group,.int .i64 d.row,.slice ao6 d.rows.1 cap6,.slice ao7 d.data.1 cap7,.slice ao8 d.delta.1 cap8]∧zai.rd w hi d.rows [.slice ao6 d.rows.1 cap6]∧zad.rd w hi d.data [.slice ao7 d.data.1 cap7]∧zad.rd w hi d.delta [.slice ao8 d.delta.1 cap8]∧(-9223372036854775808≤d.kind∧d.kind≤9223372036854775807)∧(-9223372036854775808≤d.seq∧d.seq≤9223372036854775807)∧d.name.size≤maxLen∧(-9223372036854775808≤d.length∧d.length≤9223372036854775807)∧(-9223372036854775808≤d.group∧d.group≤9223372036854775807)∧(-9223372036854775808≤d.row∧d.row≤9223372036854775807):=by
 obtain ⟨c0,r0,rfl,h0,c1,r1,rfl,h1,c2,r2,rfl,h2,c3,r3,rfl,h3,c4,r4,rfl,h4,c5,r5,rfl,h5,c6,r6,rfl,h6,c7,r7,rfl,h7,h8⟩:=h;obtain ⟨rfl,k0⟩:=h0;obtain ⟨rfl,k1⟩:=h1;obtain ⟨rfl,k2⟩:=h2;obtain ⟨rfl,k3⟩:=h3;obtain ⟨rfl,k4⟩:=h4;obtain ⟨rfl,k5⟩:=h5;obtain ⟨ao6,cap6,rfl⟩:=zc3 h6;obtain ⟨ao7,cap7,rfl⟩:=zcc h7;obtain ⟨ao8,cap8,rfl⟩:=zcc h8;exact ⟨ao6,cap6,ao7,cap7,ao8,cap8,rfl,h6,h7,h8,k0,k1,k2,k3,k4,k5⟩
theorem zdL {w:World} {d:RecD} {cs:List Value} {L:List Nat} (h:zac.own w d cs L):∃ ao6 cap6 ao7 cap7 ao8 cap8 K6 K7 K8,cs=[.int .i64 d.kind,.int .i64 d.seq,.string d.name,.int .i64 d.length,.int .i64 d.group,.int .i64 d.row,.slice ao6 d.rows.1 cap6,.slice ao7 d.data.1 cap7,.slice ao8 d.delta.1 cap8]∧L=K6++(K7++K8)∧zai.own w d.rows [.slice ao6 d.rows.1 cap6] K6∧zad.own w d.data [.slice ao7 d.data.1 cap7] K7∧zad.own w d.delta [.slice ao8 d.delta.1 cap8] K8∧(-9223372036854775808≤d.kind∧d.kind≤9223372036854775807)∧(-9223372036854775808≤d.seq∧d.seq≤9223372036854775807)∧d.name.size≤maxLen∧(-9223372036854775808≤d.length∧d.length≤9223372036854775807)∧(-9223372036854775808≤d.group∧d.group≤9223372036854775807)∧(-9223372036854775808≤d.row∧d.row≤9223372036854775807):=by
 obtain ⟨c0,r0,L0,M0,rfl,rfl,h0,c1,r1,L1,M1,rfl,rfl,h1,c2,r2,L2,M2,rfl,rfl,h2,c3,r3,L3,M3,rfl,rfl,h3,c4,r4,L4,M4,rfl,rfl,h4,c5,r5,L5,M5,rfl,rfl,h5,c6,r6,L6,M6,rfl,rfl,h6,c7,r7,L7,M7,rfl,rfl,h7,h8⟩:=h;obtain ⟨rfl,k0,rfl⟩:=h0;obtain ⟨rfl,k1,rfl⟩:=h1;obtain ⟨rfl,k2,rfl⟩:=h2;obtain ⟨rfl,k3,rfl⟩:=h3;obtain ⟨rfl,k4,rfl⟩:=h4;obtain ⟨rfl,k5,rfl⟩:=h5;obtain ⟨ao6,cap6,rfl⟩:=zeq h6;obtain ⟨ao7,cap7,rfl⟩:=zcV h7;obtain ⟨ao8,cap8,rfl⟩:=zcV h8;exact ⟨ao6,cap6,ao7,cap7,ao8,cap8,L6,L7,_,rfl,rfl,h6,h7,h8,k0,k1,k2,k3,k4,k5⟩
theorem zhg {w:World} {d:RecD} {cs:List Value} {L:List Nat} (h:zac.own w d cs L):∃ ao6 cap6 ao7 cap7 ao8 cap8,cs=[.int .i64 d.kind,.int .i64 d.seq,.string d.name,.int .i64 d.length,.int .i64 d.group,.int .i64 d.row,.slice ao6 d.rows.1 cap6,.slice ao7 d.data.1 cap7,.slice ao8 d.delta.1 cap8]:=by
 obtain ⟨ao6,cap6,ao7,cap7,ao8,cap8,K6,K7,K8,rfl,-⟩:=zdL h;exact ⟨ao6,cap6,ao7,cap7,ao8,cap8,rfl⟩
theorem zdM {w:World} {lo hi:Nat} {d:RecD} {cs:List Value} (h:OwnT zac w lo hi d cs):∃ ao6 cap6 ao7 cap7 ao8 cap8,cs=[.int .i64 d.kind,.int .i64 d.seq,.string d.name,.int .i64 d.length,.int .i64 d.group,.int .i64 d.row,.slice ao6 d.rows.1 cap6,.slice ao7 d.data.1 cap7,.slice ao8 d.delta.1 cap8]:=by
 obtain ⟨L,h1,-⟩:=h;exact zhg h1
theorem zcR {w:World} (d:RecD) {ao6 ao7 ao8:Option Addr} {cap6 cap7 cap8:Nat} {K6 K7 K8:List Nat} (h6:zai.own w d.rows [.slice ao6 d.rows.1 cap6] K6) (h7:zad.own w d.data [.slice ao7 d.data.1 cap7] K7) (h8:zad.own w d.delta [.slice ao8 d.delta.1 cap8] K8) (k0:(-9223372036854775808≤d.kind∧d.kind≤9223372036854775807)) (k1:(-9223372036854775808≤d.seq∧d.seq≤9223372036854775807)) (k2:d.name.size≤maxLen) (k3:(-9223372036854775808≤d.length∧d.length≤9223372036854775807)) (k4:(-9223372036854775808≤d.group∧d.group≤9223372036854775807)) (k5:(-9223372036854775808≤d.row∧d.row≤9223372036854775807)):zac.own w d [.int .i64 d.kind,.int .i64 d.seq,.string d.name,.int .i64 d.length,.int .i64 d.group,.int .i64 d.row,.slice ao6 d.rows.1 cap6,.slice ao7 d.data.1 cap7,.slice ao8 d.delta.1 cap8] (K6++(K7++K8)):=⟨_,_,[],(K6++(K7++K8)),rfl,rfl,⟨rfl,k0,rfl⟩,⟨_,_,[],(K6++(K7++K8)),rfl,rfl,⟨rfl,k1,rfl⟩,⟨_,_,[],(K6++(K7++K8)),rfl,rfl,⟨rfl,k2,rfl⟩,⟨_,_,[],(K6++(K7++K8)),rfl,rfl,⟨rfl,k3,rfl⟩,⟨_,_,[],(K6++(K7++K8)),rfl,rfl,⟨rfl,k4,rfl⟩,⟨_,_,[],(K6++(K7++K8)),rfl,rfl,⟨rfl,k5,rfl⟩,⟨_,_,K6,(K7++K8),rfl,rfl,h6,⟨_,_,K7,K8,rfl,rfl,h7,h8⟩⟩⟩⟩⟩⟩⟩⟩
def zaH (d:RecD):Nat:=d.name.size+lenD d.rows+lenD d.data+lenD d.delta
def zer (d:RecD):Nat:=lenD d.rows+lenD d.data+lenD d.delta
def zhR (j:Nat) (d:RecD):RecD:=⟨d.kind,d.seq,d.name,d.length,d.group,d.row,zbG (j) d.rows,za0 (j+lenD d.rows) d.data,za0 (j+lenD d.rows+lenD d.data) d.delta⟩
def zaM (d:RecD):Nat:=6+lenD d.rows+lenD d.data+lenD d.delta
def zbi (j:Nat) (d:RecD):RecD:=⟨((j:Nat):Int),((j+1:Nat):Int),zbg (j+2),((j+3:Nat):Int),((j+4:Nat):Int),((j+5:Nat):Int),zbG (j+6) d.rows,za0 (j+6+lenD d.rows) d.data,za0 (j+6+lenD d.rows+lenD d.data) d.delta⟩
theorem za1 {w:World} {hi:Nat} {d:TapeD} {cs:List Value} (h:zag.rd w hi d cs):∃ ao1 cap1,cs=[.bool d.wiped,.slice ao1 d.recs.1 cap1]∧(zac.slice 56).rd w hi d.recs [.slice ao1 d.recs.1 cap1]:=by
 obtain ⟨c0,r0,rfl,h0,h1⟩:=h;obtain ⟨rfl,k0⟩:=h0;obtain ⟨ao1,cap1,rfl⟩:=zbq h1;exact ⟨ao1,cap1,rfl,h1⟩
theorem zdA {w:World} {d:TapeD} {cs:List Value} {L:List Nat} (h:zag.own w d cs L):∃ ao1 cap1 K1,cs=[.bool d.wiped,.slice ao1 d.recs.1 cap1]∧L=K1∧(zac.slice 56).own w d.recs [.slice ao1 d.recs.1 cap1] K1:=by
 obtain ⟨c0,r0,L0,M0,rfl,rfl,h0,h1⟩:=h;obtain ⟨rfl,k0,rfl⟩:=h0;obtain ⟨ao1,cap1,rfl⟩:=zbN h1;exact ⟨ao1,cap1,_,rfl,rfl,h1⟩
theorem zgb {w:World} {d:TapeD} {cs:List Value} {L:List Nat} (h:zag.own w d cs L):∃ ao1 cap1,cs=[.bool d.wiped,.slice ao1 d.recs.1 cap1]:=by
 obtain ⟨ao1,cap1,K1,rfl,-⟩:=zdA h;exact ⟨ao1,cap1,rfl⟩
theorem zes {w:World} {lo hi:Nat} {d:TapeD} {cs:List Value} (h:OwnT zag w lo hi d cs):∃ ao1 cap1,cs=[.bool d.wiped,.slice ao1 d.recs.1 cap1]:=by
 obtain ⟨L,h1,-⟩:=h;exact zgb h1
theorem zeG {w:World} (d:TapeD) {ao1:Option Addr} {cap1:Nat} {K1:List Nat} (h1:(zac.slice 56).own w d.recs [.slice ao1 d.recs.1 cap1] K1):zag.own w d [.bool d.wiped,.slice ao1 d.recs.1 cap1] (K1):=⟨_,_,[],K1,rfl,rfl,⟨rfl,trivial,rfl⟩,h1⟩
def zaN (d:TapeD):Nat:=(szSl zaH) d.recs
def zaC (d:TapeD):Nat:=1+(cSl zaM) d.recs
def zbB (j:Nat) (d:TapeD):TapeD:=⟨decide ((j)%3=0),(mkSl zaM zbi) (j+1) d.recs⟩
theorem zaR {w:World} {hi:Nat} {d:WorldD} {cs:List Value} (h:zae.rd w hi d cs):∃ ao1 cap1 ao2 cap2 ao3 cap3,cs=[.int .i64 (d.shape 0),.int .i64 (d.shape 1),.int .i64 (d.shape 2),.int .i64 (d.shape 3),.int .i64 (d.shape 4),.int .i64 (d.shape 5),.int .i64 (d.shape 6),.int .i64 (d.shape 7),.int .i64 (d.shape 8),.slice ao1 d.groups.1 cap1,.slice ao2 d.on.1 cap2,.slice ao3 d.tapes.1 cap3,.int .i64 d.writes,.int .i64 d.stop,.bool d.down]∧((zab.slice 75).slice 76).rd w hi d.groups [.slice ao1 d.groups.1 cap1]∧zai.rd w hi d.on [.slice ao2 d.on.1 cap2]∧(zag.slice 100).rd w hi d.tapes [.slice ao3 d.tapes.1 cap3]∧(∀ i,-9223372036854775808≤d.shape i∧d.shape i≤9223372036854775807)∧(-9223372036854775808≤d.writes∧d.writes≤9223372036854775807)∧(-9223372036854775808≤d.stop∧d.stop≤9223372036854775807):=by
 obtain ⟨c0,r0,rfl,h0,c1,r1,rfl,h1,c2,r2,rfl,h2,c3,r3,rfl,h3,c4,r4,rfl,h4,c5,r5,rfl,h5,h6⟩:=h;obtain ⟨rfl,k0⟩:=h0;obtain ⟨ao1,cap1,rfl⟩:=zbq h1;obtain ⟨ao2,cap2,rfl⟩:=zc3 h2;obtain ⟨ao3,cap3,rfl⟩:=zbq h3;obtain ⟨rfl,k4⟩:=h4;obtain ⟨rfl,k5⟩:=h5;obtain ⟨rfl,k6⟩:=h6;exact ⟨ao1,cap1,ao2,cap2,ao3,cap3,rfl,h1,h2,h3,k0,k4,k5⟩
theorem zbn {w:World} {d:WorldD} {cs:List Value} {L:List Nat} (h:zae.own w d cs L):∃ ao1 cap1 ao2 cap2 ao3 cap3 K1 K2 K3,cs=[.int .i64 (d.shape 0),.int .i64 (d.shape 1),.int .i64 (d.shape 2),.int .i64 (d.shape 3),.int .i64 (d.shape 4),.int .i64 (d.shape 5),.int .i64 (d.shape 6),.int .i64 (d.shape 7),.int .i64 (d.shape 8),.slice ao1 d.groups.1 cap1,.slice ao2 d.on.1 cap2,.slice ao3 d.tapes.1 cap3,.int .i64 d.writes,.int .i64 d.stop,.bool d.down]∧L=K1++(K2++(K3++[]))∧((zab.slice 75).slice 76).own w d.groups [.slice ao1 d.groups.1 cap1] K1∧zai.own w d.on [.slice ao2 d.on.1 cap2] K2∧(zag.slice 100).own w d.tapes [.slice ao3 d.tapes.1 cap3] K3∧(∀ i,-9223372036854775808≤d.shape i∧d.shape i≤9223372036854775807)∧(-9223372036854775808≤d.writes∧d.writes≤9223372036854775807)∧(-9223372036854775808≤d.stop∧d.stop≤9223372036854775807):=by
 obtain ⟨c0,r0,L0,M0,rfl,rfl,h0,c1,r1,L1,M1,rfl,rfl,h1,c2,r2,L2,M2,rfl,rfl,h2,c3,r3,L3,M3,rfl,rfl,h3,c4,r4,L4,M4,rfl,rfl,h4,c5,r5,L5,M5,rfl,rfl,h5,h6⟩:=h;obtain ⟨rfl,k0,rfl⟩:=h0;obtain ⟨ao1,cap1,rfl⟩:=zbN h1;obtain ⟨ao2,cap2,rfl⟩:=zeq h2;obtain ⟨ao3,cap3,rfl⟩:=zbN h3;obtain ⟨rfl,k4,rfl⟩:=h4;obtain ⟨rfl,k5,rfl⟩:=h5;obtain ⟨rfl,k6,rfl⟩:=h6;exact ⟨ao1,cap1,ao2,cap2,ao3,cap3,L1,L2,L3,rfl,rfl,h1,h2,h3,k0,k4,k5⟩
theorem zfs {w:World} {d:WorldD} {cs:List Value} {L:List Nat} (h:zae.own w d cs L):∃ ao1 cap1 ao2 cap2 ao3 cap3,cs=[.int .i64 (d.shape 0),.int .i64 (d.shape 1),.int .i64 (d.shape 2),.int .i64 (d.shape 3),.int .i64 (d.shape 4),.int .i64 (d.shape 5),.int .i64 (d.shape 6),.int .i64 (d.shape 7),.int .i64 (d.shape 8),.slice ao1 d.groups.1 cap1,.slice ao2 d.on.1 cap2,.slice ao3 d.tapes.1 cap3,.int .i64 d.writes,.int .i64 d.stop,.bool d.down]:=by
 obtain ⟨ao1,cap1,ao2,cap2,ao3,cap3,K1,K2,K3,rfl,-⟩:=zbn h;exact ⟨ao1,cap1,ao2,cap2,ao3,cap3,rfl⟩
theorem zcf {w:World} (d:WorldD) {ao1 ao2 ao3:Option Addr} {cap1 cap2 cap3:Nat} {K1 K2 K3:List Nat} (h1:((zab.slice 75).slice 76).own w d.groups [.slice ao1 d.groups.1 cap1] K1) (h2:zai.own w d.on [.slice ao2 d.on.1 cap2] K2) (h3:(zag.slice 100).own w d.tapes [.slice ao3 d.tapes.1 cap3] K3) (k0:(∀ i,-9223372036854775808≤d.shape i∧d.shape i≤9223372036854775807)) (k4:(-9223372036854775808≤d.writes∧d.writes≤9223372036854775807)) (k5:(-9223372036854775808≤d.stop∧d.stop≤9223372036854775807)):zae.own w d [.int .i64 (d.shape 0),.int .i64 (d.shape 1),.int .i64 (d.shape 2),.int .i64 (d.shape 3),.int .i64 (d.shape 4),.int .i64 (d.shape 5),.int .i64 (d.shape 6),.int .i64 (d.shape 7),.int .i64 (d.shape 8),.slice ao1 d.groups.1 cap1,.slice ao2 d.on.1 cap2,.slice ao3 d.tapes.1 cap3,.int .i64 d.writes,.int .i64 d.stop,.bool d.down] (K1++(K2++(K3++[]))):=⟨_,_,[],(K1++(K2++(K3++[]))),rfl,rfl,⟨rfl,k0,rfl⟩,⟨_,_,K1,(K2++(K3++[])),rfl,rfl,h1,⟨_,_,K2,(K3++[]),rfl,rfl,h2,⟨_,_,K3,[],rfl,rfl,h3,⟨_,_,[],[],rfl,rfl,⟨rfl,k4,rfl⟩,⟨_,_,[],[],rfl,rfl,⟨rfl,k5,rfl⟩,⟨rfl,trivial,rfl⟩⟩⟩⟩⟩⟩⟩
def zaS (d:WorldD):Nat:=(szSl (szSl zap)) d.groups+lenD d.on+(szSl zaN) d.tapes
def za5 (d:WorldD):Nat:=(cSl (cSl zaf)) d.groups+lenD d.on+(cSl zaC) d.tapes
def zcB (j:Nat) (d:WorldD):WorldD:=⟨d.shape,(mkSl (cSl zaf) (mkSl zaf zaD)) (j) d.groups,zbG (j+(cSl (cSl zaf)) d.groups) d.on,(mkSl zaC zbB) (j+(cSl (cSl zaf)) d.groups+lenD d.on) d.tapes,d.writes,d.stop,d.down⟩
structure WorldResultD where
 code:Int
 world:WorldD
def zaj:Lay WorldResultD:=(layI.two zae).as fun d=>(d.code,d.world)
theorem zbO {w:World} {hi:Nat} {d:WorldResultD} {cs:List Value} (h:zaj.rd w hi d cs):∃ ao1_1 cap1_1 ao1_2 cap1_2 ao1_3 cap1_3,cs=[.int .i64 d.code,.int .i64 (d.world.shape 0),.int .i64 (d.world.shape 1),.int .i64 (d.world.shape 2),.int .i64 (d.world.shape 3),.int .i64 (d.world.shape 4),.int .i64 (d.world.shape 5),.int .i64 (d.world.shape 6),.int .i64 (d.world.shape 7),.int .i64 (d.world.shape 8),.slice ao1_1 d.world.groups.1 cap1_1,.slice ao1_2 d.world.on.1 cap1_2,.slice ao1_3 d.world.tapes.1 cap1_3,.int .i64 d.world.writes,.int .i64 d.world.stop,.bool d.world.down]∧zae.rd w hi d.world [.int .i64 (d.world.shape 0),.int .i64 (d.world.shape 1),.int .i64 (d.world.shape 2),.int .i64 (d.world.shape 3),.int .i64 (d.world.shape 4),.int .i64 (d.world.shape 5),.int .i64 (d.world.shape 6),.int .i64 (d.world.shape 7),.int .i64 (d.world.shape 8),.slice ao1_1 d.world.groups.1 cap1_1,.slice ao1_2 d.world.on.1 cap1_2,.slice ao1_3 d.world.tapes.1 cap1_3,.int .i64 d.world.writes,.int .i64 d.world.stop,.bool d.world.down]∧(-9223372036854775808≤d.code∧d.code≤9223372036854775807):=by
 obtain ⟨c0,r0,rfl,h0,h1⟩:=h;obtain ⟨rfl,k0⟩:=h0;have h1b:=h1;obtain ⟨ao1_1,cap1_1,ao1_2,cap1_2,ao1_3,cap1_3,rfl,-⟩:=zaR h1;clear h1b;exact ⟨ao1_1,cap1_1,ao1_2,cap1_2,ao1_3,cap1_3,rfl,h1,k0⟩
theorem zdN {w:World} {d:WorldResultD} {cs:List Value} {L:List Nat} (h:zaj.own w d cs L):∃ ao1_1 cap1_1 ao1_2 cap1_2 ao1_3 cap1_3 K1,cs=[.int .i64 d.code,.int .i64 (d.world.shape 0),.int .i64 (d.world.shape 1),.int .i64 (d.world.shape 2),.int .i64 (d.world.shape 3),.int .i64 (d.world.shape 4),.int .i64 (d.world.shape 5),.int .i64 (d.world.shape 6),.int .i64 (d.world.shape 7),.int .i64 (d.world.shape 8),.slice ao1_1 d.world.groups.1 cap1_1,.slice ao1_2 d.world.on.1 cap1_2,.slice ao1_3 d.world.tapes.1 cap1_3,.int .i64 d.world.writes,.int .i64 d.world.stop,.bool d.world.down]∧L=K1∧zae.own w d.world [.int .i64 (d.world.shape 0),.int .i64 (d.world.shape 1),.int .i64 (d.world.shape 2),.int .i64 (d.world.shape 3),.int .i64 (d.world.shape 4),.int .i64 (d.world.shape 5),.int .i64 (d.world.shape 6),.int .i64 (d.world.shape 7),.int .i64 (d.world.shape 8),.slice ao1_1 d.world.groups.1 cap1_1,.slice ao1_2 d.world.on.1 cap1_2,.slice ao1_3 d.world.tapes.1 cap1_3,.int .i64 d.world.writes,.int .i64 d.world.stop,.bool d.world.down] K1∧(-9223372036854775808≤d.code∧d.code≤9223372036854775807):=by
 obtain ⟨c0,r0,L0,M0,rfl,rfl,h0,h1⟩:=h;obtain ⟨rfl,k0,rfl⟩:=h0;obtain ⟨ao1_1,cap1_1,ao1_2,cap1_2,ao1_3,cap1_3,rfl⟩:=zfs h1;exact ⟨ao1_1,cap1_1,ao1_2,cap1_2,ao1_3,cap1_3,_,rfl,rfl,h1,k0⟩
theorem zef {w:World} (d:WorldResultD) {ao1_1 ao1_2 ao1_3:Option Addr} {cap1_1 cap1_2 cap1_3:Nat} {K1:List Nat} (h1:zae.own w d.world [.int .i64 (d.world.shape 0),.int .i64 (d.world.shape 1),.int .i64 (d.world.shape 2),.int .i64 (d.world.shape 3),.int .i64 (d.world.shape 4),.int .i64 (d.world.shape 5),.int .i64 (d.world.shape 6),.int .i64 (d.world.shape 7),.int .i64 (d.world.shape 8),.slice ao1_1 d.world.groups.1 cap1_1,.slice ao1_2 d.world.on.1 cap1_2,.slice ao1_3 d.world.tapes.1 cap1_3,.int .i64 d.world.writes,.int .i64 d.world.stop,.bool d.world.down] K1) (k0:(-9223372036854775808≤d.code∧d.code≤9223372036854775807)):zaj.own w d [.int .i64 d.code,.int .i64 (d.world.shape 0),.int .i64 (d.world.shape 1),.int .i64 (d.world.shape 2),.int .i64 (d.world.shape 3),.int .i64 (d.world.shape 4),.int .i64 (d.world.shape 5),.int .i64 (d.world.shape 6),.int .i64 (d.world.shape 7),.int .i64 (d.world.shape 8),.slice ao1_1 d.world.groups.1 cap1_1,.slice ao1_2 d.world.on.1 cap1_2,.slice ao1_3 d.world.tapes.1 cap1_3,.int .i64 d.world.writes,.int .i64 d.world.stop,.bool d.world.down] (K1):=⟨_,_,[],K1,rfl,rfl,⟨rfl,k0,rfl⟩,h1⟩
def za2 (d:WorldResultD):Nat:=za5 d.world
def zbC (j:Nat) (d:WorldResultD):WorldResultD:=⟨d.code,zcB (j) d.world⟩
structure BlockResultD where
 code:Int
 block:BlockD
structure Cpy (w wr:World) (R k:Nat) (n:Nat→Nat) (f:Nat→Nat→Nat) (e:Nat→Value):Prop where
 row:wr.ownsRow w.heap.size 29 1 (.slice (some ⟨w.heap.size,0,none⟩) R R) R (zfh R fun i=>if i<k then e i else nilS)
 each:∀ i,i<k→Own wr (w.heap.size+1) wr.heap.size (e i) (n i) (f i)
 apart:zi3 w.heap.size k e
 bel:Below w.heap.size w wr
 lt:w.heap.size<wr.heap.size
def zft (a k i:Nat):Value:=.int .u8 ((if i<k then tabN a i else 0:Nat):Int)
def T (a k:Nat):Array Value:=#[zft a k 0,zft a k 1,zft a k 2,zft a k 3,zft a k 4,zft a k 5,zft a k 6,zft a k 7]
end Go.Proofs.YtonemlgejkapbaaGreat
namespace Go.Proofs.YtonemlgejkapbaaGreat
open F256
abbrev Mat:=Nat→Nat→Nat
def zi6 (M:Mat) (c R:Nat):Nat→Nat→Nat
 | 0,_=>R
 | d+1,i=>if M i c=0 then zi6 M c R d (i+1) else i
def lead (M:Mat) (c R r:Nat):Nat:=zi6 M c R (R-r) r
end Go.Proofs.YtonemlgejkapbaaGreat
namespace Go.Proofs.YtonemlgejkapbaaGreat
end Go.Proofs.YtonemlgejkapbaaGreat
