/- Contracts of the laws' helpers, over whatever lies in memory. -/
import Derived.Laws.BytesArg
import Derived.Deep.RegionLaw
import Derived.Test.YtecofihpkcljcaaGreatZPwaitiaa
set_option linter.unusedVariables false
set_option linter.unusedSimpArgs false
set_option maxHeartbeats 16000000
namespace Go.Proofs.YtecofihpkcljcaaGreat
open Go.RowKit F256
def ToS {α:Type} (A:Lay α) (sz:α→Nat) (fn:Nat):Prop:=∀ (v:Value) (d:α) (hi:Nat) (w:World),A.rd w hi d [v]→hi≤w.heap.size→sz d≤1048576→
 Calls Tryz.prog fn #[v] w fun e w'=>∃ v',e=.returned v'∧OwnT A w' w.heap.size w'.heap.size d [v']∧Below w.heap.size w w'
def ToV {α:Type} (A:Lay α) (sz:α→Nat) (fn:Nat):Prop:=∀ (cs:List Value) (d:α) (hi:Nat) (w:World),A.rd w hi d cs→hi≤w.heap.size→sz d≤1048576→
 Calls Tryz.prog fn #[.agg cs.toArray] w fun e w'=>∃ cs',e=.returned (.agg cs'.toArray)∧OwnT A w' w.heap.size w'.heap.size d cs'∧Below w.heap.size w w'
def EqS {α:Type} (A:Lay α) (fn:Nat):Prop:=∀ (v1 v2:Value) (d:α) (h1 h2:Nat) (w:World),A.rd w h1 d [v1]→A.rd w h2 d [v2]→h1≤w.heap.size→h2≤w.heap.size→
 Calls Tryz.prog fn #[v1,v2] w fun e w'=>e=.returned (.bool true)∧Below w.heap.size w w'
def EqV {α:Type} (A:Lay α) (fn:Nat):Prop:=∀ (c1 c2:List Value) (d:α) (h1 h2:Nat) (w:World),A.rd w h1 d c1→A.rd w h2 d c2→h1≤w.heap.size→h2≤w.heap.size→
 Calls Tryz.prog fn #[.agg c1.toArray,.agg c2.toArray] w fun e w'=>e=.returned (.bool true)∧Below w.heap.size w w'
def SzP (n L:Nat) (x:Int):Prop:=x=-1∨(n≤L∧x=(L:Int)-(n:Int))
def SzS {α:Type} (A:Lay α) (sz:α→Nat) (fn:Nat):Prop:=∀ (v:Value) (d:α) (hi L:Nat) (w:World),A.rd w hi d [v]→hi≤w.heap.size→L≤1048576→
 Calls Tryz.prog fn #[v,.int .i64 L] w fun e w'=>∃ x,e=.returned (.int .i64 x)∧SzP (sz d) L x∧Below w.heap.size w w'
def SzV {α:Type} (A:Lay α) (sz:α→Nat) (fn:Nat):Prop:=∀ (cs:List Value) (d:α) (hi L:Nat) (w:World),A.rd w hi d cs→hi≤w.heap.size→L≤1048576→
 Calls Tryz.prog fn #[.agg cs.toArray,.int .i64 L] w fun e w'=>∃ x,e=.returned (.int .i64 x)∧SzP (sz d) L x∧Below w.heap.size w w'
def szSl {α:Type} (s:α→Nat) (p:Nat×(Nat→α)):Nat:=p.1+sumN (fun i=>s (p.2 i)) p.1
def lenD {α:Type} (p:Nat×(Nat→α)):Nat:=p.1
theorem zaV (f:Nat→Nat) (k:Nat):sumN f (k+1)=sumN f k+f k:=rfl
theorem zi5 (f:Nat→Nat) {i n:Nat} (h:i<n):f i≤sumN f n:=by
 have:=zcT f (show i+1≤n from h);rw [zaV] at this;omega
theorem zeK {α:Type} {s:α→Nat} {p:Nat×(Nat→α)} {B:Nat} (h:szSl s p≤B):p.1≤B:=by unfold szSl at h;omega
theorem zcK {α:Type} {s:α→Nat} {p:Nat×(Nat→α)} {B:Nat} (h:szSl s p≤B) {i:Nat} (hi:i<p.1):s (p.2 i)≤B:=by
 unfold szSl at h;have:=zi5 (fun i=>s (p.2 i)) hi;omega
theorem zda:ToS zaq lenD 116:=fun v d hi w h hhi hn=>by
 obtain ⟨v',e1,h1,h2⟩:=h
 cases e1
 refine (zfl v d.1 d.2 hi w h1 hhi (by unfold lenD at hn;omega)).mono ?_;rintro e w' ⟨v',rfl,o,b⟩;refine ⟨v',rfl,⟨v'.ownBlock.toList,⟨v',rfl,rfl,o.weaken (Nat.zero_le _) (Nat.le_refl _),h2⟩,by cases v'.ownBlock<;>simp,fun b hb=>o.1.lt b (by simpa using hb)⟩,b⟩
theorem zdb:EqS zaq 135:=fun v1 v2 d h1 h2 w r1 r2 _ _=>by
 obtain ⟨_,e1,k1,_⟩:=r1;obtain ⟨_,e2,k2,_⟩:=r2
 cases e1
 cases e2
 exact zeH v1 v2 d.1 d.2 h1 h2 w k1 k2
theorem zeL:ToS zaE lenD 18:=fun v d hi w h hhi hn=>by
 obtain ⟨v',e1,h1,h2⟩:=h
 cases e1
 refine (zeJ v d.1 d.2 hi w h1.1 hhi (by unfold lenD at hn;omega)).mono ?_;rintro e w' ⟨v',rfl,o,b⟩;refine ⟨v',rfl,⟨v'.ownBlock.toList,⟨v',rfl,rfl,o.weaken (Nat.zero_le _) (Nat.le_refl _),h2⟩,by cases v'.ownBlock<;>simp,fun b hb=>o.1.lt b (by simpa using hb)⟩,b⟩
theorem zeM:EqS zaE 25:=fun v1 v2 d h1 h2 w r1 r2 _ _=>by
 obtain ⟨_,e1,k1,_⟩:=r1;obtain ⟨_,e2,k2,_⟩:=r2
 cases e1
 cases e2
 exact zea v1 v2 d.1 d.2 h1 h2 w k1.1 k2.1
theorem zdc:SzS zaq lenD 114:=fun v d hi L w h hhi hL=>by
 obtain ⟨v',e1,o,k⟩:=h
 cases e1
 unfold lenD;obtain ⟨n,f⟩:=d;obtain ⟨ao,cap,rfl,hm,hc⟩:=o
 simp only at hm hc ⊢
 unfold maxLen at hm;clear hc k hhi
 by_cases c:n≤L
 ·have c':¬ (L:Int)-(n:Int)<0:=by omega
  go_enter Tryz.func114,Tryz.ntmps114
  go_wp2;go_ret;exact ⟨_,rfl,.inr ⟨c,rfl⟩,Below.refl _ _⟩
 ·have c':(L:Int)-(n:Int)<0:=by omega
  go_enter Tryz.func114,Tryz.ntmps114
  go_wp2;go_ret;exact ⟨_,rfl,.inl rfl,Below.refl _ _⟩
theorem zeN:SzS zaE lenD 11:=fun v d hi L w h hhi hL=>by
 obtain ⟨v',e1,o,k⟩:=h
 cases e1
 unfold lenD;obtain ⟨n,f⟩:=d;obtain ⟨ao,cap,rfl,hm,hc⟩:=o.1
 simp only at hm hc ⊢
 unfold maxLen at hm;clear hc k hhi
 by_cases c:n≤L
 ·have c':¬ (L:Int)-(n:Int)<0:=by omega
  go_enter Tryz.func11,Tryz.ntmps11
  go_wp2;go_ret;exact ⟨_,rfl,.inr ⟨c,rfl⟩,Below.refl _ _⟩
 ·have c':(L:Int)-(n:Int)<0:=by omega
  go_enter Tryz.func11,Tryz.ntmps11
  go_wp2;go_ret;exact ⟨_,rfl,.inl rfl,Below.refl _ _⟩
theorem zb2 {w:World} {hi:Nat} {p:Nat×(Nat→Nat)} {c:List Value} (h:zaq.rd w hi p c):∃ ao cap,c=[.slice ao p.1 cap]:=by
 obtain ⟨v,rfl,⟨ao,cap,rfl,_⟩,_⟩:=h;exact ⟨ao,cap,rfl⟩
theorem zcV {w:World} {hi:Nat} {p:Nat×(Nat→Int)} {c:List Value} (h:zaE.rd w hi p c):∃ ao cap,c=[.slice ao p.1 cap]:=by
 obtain ⟨v,rfl,⟨⟨ao,cap,rfl,_⟩,_⟩,_⟩:=h;exact ⟨ao,cap,rfl⟩
theorem zbC {α:Type} {E:Lay α} {t:TypeId} {w:World} {hi:Nat} {p:Nat×(Nat→α)} {c:List Value} (h:(E.slice t).rd w hi p c):∃ ao cap,c=[.slice ao p.1 cap]:=by
 obtain ⟨ao,cap,rfl,_⟩:=h;exact ⟨ao,cap,rfl⟩
theorem zcL {w:World} {p:Nat×(Nat→Nat)} {c:List Value} {L:List Nat} (h:zaq.own w p c L):∃ ao cap,c=[.slice ao p.1 cap]:=zb2 (zaq.own_rd (hi:=w.heap.size) h (zaq.own_lt h))
theorem zgr {w:World} {p:Nat×(Nat→Int)} {c:List Value} {L:List Nat} (h:zaE.own w p c L):∃ ao cap,c=[.slice ao p.1 cap]:=zcV (zaE.own_rd (hi:=w.heap.size) h (zaE.own_lt h))
theorem zf3 {α:Type} {E:Lay α} {t:TypeId} {w:World} {p:Nat×(Nat→α)} {c:List Value} {L:List Nat} (h:(E.slice t).own w p c L):∃ ao cap,c=[.slice ao p.1 cap]:=zbC ((E.slice t).own_rd (hi:=w.heap.size) h ((E.slice t).own_lt h))
theorem zcM {w:World} {lo hi:Nat} {p:Nat×(Nat→Nat)} {c:List Value} (h:OwnT zaq w lo hi p c):∃ ao cap,c=[.slice ao p.1 cap]:=zb2 h.rd
theorem zdX {w:World} {lo hi:Nat} {p:Nat×(Nat→Int)} {c:List Value} (h:OwnT zaE w lo hi p c):∃ ao cap,c=[.slice ao p.1 cap]:=zcV h.rd
theorem zcW {α:Type} {E:Lay α} {t:TypeId} {w:World} {lo hi:Nat} {p:Nat×(Nat→α)} {c:List Value} (h:OwnT (E.slice t) w lo hi p c):∃ ao cap,c=[.slice ao p.1 cap]:=zbC h.rd
theorem zcI {v:Value} {u:Value} (h:[v]=[u]):v=u:=by simpa using h
theorem OwnT.two {α β:Type} {A:Lay α} {B:Lay β} {w:World} {l1 e1 l2 e2:Nat} {a:α} {b:β} {c d:List Value} (h1:OwnT A w l1 e1 a c) (h2:OwnT B w l2 e2 b d) (h:e1≤l2) (h3:l1≤l2) (h4:e1≤e2):OwnT (A.two B) w l1 e2 (a,b) (c++d):=by
 obtain ⟨K,a1,a2,a3⟩:=h1;obtain ⟨M,b1,b2,b3⟩:=h2;refine ⟨K++M,⟨c,d,K,M,rfl,rfl,a1,b1⟩,List.nodup_append.2 ⟨a2,b2,fun x hx y hy hh=>?_⟩,fun x hx=>?_⟩
 ·subst hh
  have:=a3 x hx;have:=b3 x hy;omega
 ·rcases List.mem_append.1 hx with h | h
  ·have:=a3 x h;omega
  ·have:=b3 x h;omega
theorem OwnT.pre {α β:Type} {A:Lay α} {B:Lay β} {w:World} {l e:Nat} {a:α} {b:β} {c d:List Value} (h1:A.own w a c []) (h2:OwnT B w l e b d):OwnT (A.two B) w l e (a,b) (c++d):=by
 obtain ⟨M,b1,b2,b3⟩:=h2;exact ⟨M,⟨c,d,[],M,rfl,rfl,h1,b1⟩,b2,b3⟩
theorem OwnT.nil {α:Type} {A:Lay α} {w:World} {a:α} {c:List Value} (h:A.own w a c []) (l e:Nat):OwnT A w l e a c:=⟨[],h,List.nodup_nil,fun b hb=>by cases hb⟩
theorem OwnT.set {α:Type} {A:Lay α} {w:World} {lo hi b j:Nat} {u:Value} {a:α} {cs:List Value} (h:OwnT A w lo hi a cs) (hb:b<lo):OwnT A (w.setCell ⟨b,j,none⟩ u) lo hi a cs:=
 h.chg (zhm w b (b+1) b j u (Nat.le_refl _) (Nat.lt_succ_self _)).chg (.inr hb)
theorem OwnT.call {α:Type} {A:Lay α} {w w':World} {lo hi:Nat} {a:α} {cs:List Value} (h:OwnT A w lo hi a cs) (hb:Below w.heap.size w w'):OwnT A w' lo hi a cs:=by
 obtain ⟨L,h1,h2,h3⟩:=h;exact ⟨L,A.own_kept h1 (fun b hb'=>hb.block b (A.own_lt h1 b hb')),h2,h3⟩
theorem OwnT.conv {α β:Type} {A:Lay α} {to:β→α} {w:World} {lo hi:Nat} {b:β} {cs:List Value} (h:OwnT A w lo hi (to b) cs):OwnT (A.as to) w lo hi b cs:=h
theorem OwnT.stN {α:Type} {A:Lay α} {w:World} {lo hi:Nat} {a:α} {cs:List Value} (h:OwnT A w lo hi a cs) (b off:Nat) (l:List Value) (hb:b<lo):OwnT A (stN w b off l) lo hi a cs:=by
 obtain ⟨L,h1,h2,h3⟩:=h;exact ⟨L,A.own_kept h1 (fun k hk=>zcC b k (by have:=h3 k hk;omega) l w off),h2,h3⟩
theorem OwnT.fin {α:Type} {A:Lay α} {w:World} {s:Nat} {a:α} {cs:List Value} (h:OwnT A w (s+1+1+1) w.heap.size a cs) (o1 o2:Nat) (l1 l2:List Value) (w':World) (e:w'=Go.Proofs.YtecofihpkcljcaaGreat.stN (Go.Proofs.YtecofihpkcljcaaGreat.stN w (s+1+1) o1 l1) (s+1) o2 l2):OwnT A w' s w'.heap.size a cs:=by
 subst e;exact ((h.stN (s+1+1) o1 l1 (by omega)).stN (s+1) o2 l2 (by omega)).weaken (by omega) (by rw [zdt,zdt];exact Nat.le_refl _)
theorem zcl {w0 w:World} {s:Nat} (h:Below s w0 w) (o1 o2:Nat) (l1 l2:List Value) (w':World) (e:w'=Go.Proofs.YtecofihpkcljcaaGreat.stN (Go.Proofs.YtecofihpkcljcaaGreat.stN w (s+1+1) o1 l1) (s+1) o2 l2):Below s w0 w':=by
 subst e;exact (h.trans (zbx (by omega) _ _)).trans (zbx (by omega) _ _)
theorem zcX {B b j:Nat} {a w:World} {u:Value} (h:Below B a w) (hb:B≤b):Below B a (w.setCell ⟨b,j,none⟩ u):=h.setCell hb _
theorem Box.setc {w:World} {b:Nat} {cs:Array Value} {t:TypeId} (h:Box w b cs t) (j:Nat) (u:Value):Box (w.setCell ⟨b,j,none⟩ u) b (cs.setIfInBounds j u) t:=by
 unfold Box at h ⊢;have hlt:=(Array.getElem?_eq_some_iff.1 h).1;have he:=(Array.getElem?_eq_some_iff.1 h).2
 simp [World.setCell,hlt,Array.getElem_modify,he]
theorem Box.seto {w:World} {b b':Nat} {cs:Array Value} {t:TypeId} (h:Box w b cs t) (j:Nat) (u:Value) (hne:b≠b'):Box (w.setCell ⟨b',j,none⟩ u) b cs t:=(heap_setCell_other w ⟨b',j,none⟩ b u hne).trans h
theorem Box.stL:∀ (l:List Value) {w:World} {b:Nat} {cs:Array Value} {t:TypeId} (off:Nat),Box w b cs t→Box (Go.Proofs.YtecofihpkcljcaaGreat.stN w b off l) b (setL cs.toList off l).toArray t
 | [],w,b,cs,t,off,h=>by simpa [Go.Proofs.YtecofihpkcljcaaGreat.stN,setL] using h
 | c::l,w,b,cs,t,off,h=>by
  have h1:=Box.stL l (off+1) (h.setc off c);rw [Array.toList_setIfInBounds] at h1;exact h1
theorem Box.call {w w':World} {b:Nat} {cs:Array Value} {t:TypeId} (h:Box w b cs t) (hb:Below w.heap.size w w'):Box w' b cs t:=h.below hb h.lt
structure One (w wc:World) (c1:Array Value) (t1:TypeId):Prop where
 b1:Box wc w.heap.size c1 t1
 bel:Below w.heap.size w wc
theorem zaF (w:World) (c1:Array Value) (t1:TypeId):One w (w.alloc (.cells c1 t1)) c1 t1:=⟨zal _ _ _,(Below.refl _ _).alloc (Nat.le_refl _) _⟩
theorem One.call {w wc w':World} {c1:Array Value} {t1:TypeId} (h:One w wc c1 t1) (hb:Below wc.heap.size wc w'):One w w' c1 t1:=⟨h.b1.call hb,h.bel.trans (hb.mono h.bel.size)⟩
structure Two (w wc:World) (c1 c2:Array Value) (t1 t2:TypeId):Prop where
 b1:Box wc w.heap.size c1 t1
 b2:Box wc (w.heap.size+1) c2 t2
 bel:Below w.heap.size w wc
theorem zaJ (w:World) (c1 c2:Array Value) (t1 t2:TypeId):Two w ((w.alloc (.cells c1 t1)).alloc (.cells c2 t2)) c1 c2 t1 t2:=by
 have h:=zal (w.alloc (.cells c1 t1)) c2 t2
 have e:(w.alloc (.cells c1 t1)).heap.size=w.heap.size+1:=by simp
 rw [e] at h;exact ⟨((zal w c1 t1).below (B:=w.heap.size+1) ((Below.refl _ _).alloc (by simp) _) (by omega)),h,((Below.refl _ _).alloc (Nat.le_refl _) _).alloc (by simp) _⟩
theorem Two.call {w wc w':World} {c1 c2:Array Value} {t1 t2:TypeId} (h:Two w wc c1 c2 t1 t2) (hb:Below wc.heap.size wc w'):Two w w' c1 c2 t1 t2:=⟨h.b1.call hb,h.b2.call hb,h.bel.trans (hb.mono h.bel.size)⟩
structure Three (w wc:World) (c1 c2 c3:Array Value) (t1 t2 t3:TypeId):Prop where
 b1:Box wc w.heap.size c1 t1
 b2:Box wc (w.heap.size+1) c2 t2
 b3:Box wc (w.heap.size+1+1) c3 t3
 bel:Below w.heap.size w wc
theorem zb3 (w:World) (c1 c2 c3:Array Value) (t1 t2 t3:TypeId):Three w (((w.alloc (.cells c1 t1)).alloc (.cells c2 t2)).alloc (.cells c3 t3)) c1 c2 c3 t1 t2 t3:=by
 have e1:(w.alloc (.cells c1 t1)).heap.size=w.heap.size+1:=by simp
 have e2:((w.alloc (.cells c1 t1)).alloc (.cells c2 t2)).heap.size=w.heap.size+1+1:=by simp
 have k1:=zal w c1 t1;have k2:=zal (w.alloc (.cells c1 t1)) c2 t2;have k3:=zal ((w.alloc (.cells c1 t1)).alloc (.cells c2 t2)) c3 t3;rw [e1] at k2;rw [e2] at k3;have a2:Below (w.heap.size+1) (w.alloc (.cells c1 t1)) ((w.alloc (.cells c1 t1)).alloc (.cells c2 t2)):=(Below.refl _ _).alloc (by simp) _;have a3:Below (w.heap.size+1+1) ((w.alloc (.cells c1 t1)).alloc (.cells c2 t2)) (((w.alloc (.cells c1 t1)).alloc (.cells c2 t2)).alloc (.cells c3 t3)):=(Below.refl _ _).alloc (by simp) _;exact ⟨(k1.below a2 (by omega)).below a3 (by omega),k2.below a3 (by omega),k3,(((Below.refl _ _).alloc (Nat.le_refl _) _).alloc (by simp) _).alloc (by simp<;>omega) _⟩
section
variable {w wc w':World} {c1 c2 c3:Array Value} {t1 t2 t3:TypeId}
theorem Three.call (h:Three w wc c1 c2 c3 t1 t2 t3) (hb:Below wc.heap.size wc w'):Three w w' c1 c2 c3 t1 t2 t3:=⟨h.b1.call hb,h.b2.call hb,h.b3.call hb,h.bel.trans (hb.mono h.bel.size)⟩
theorem Three.set3 (h:Three w wc c1 c2 c3 t1 t2 t3) (j:Nat) (u:Value):Three w (wc.setCell ⟨w.heap.size+1+1,j,none⟩ u) c1 c2 (c3.setIfInBounds j u) t1 t2 t3:=
 ⟨h.b1.seto _ _ (by omega),h.b2.seto _ _ (by omega),h.b3.setc j u,h.bel.setCell (by show w.heap.size≤w.heap.size+1+1;omega) _⟩
theorem Three.st3 (h:Three w wc c1 c2 c3 t1 t2 t3) (off:Nat) (l:List Value) {c3':List Value} (e:setL c3.toList off l=c3'):Three w (Go.Proofs.YtecofihpkcljcaaGreat.stN wc (w.heap.size+1+1) off l) c1 c2 c3'.toArray t1 t2 t3:=by
 subst e;refine ⟨?_,?_,h.b3.stL l off,h.bel.trans (zbx (by omega) _ _)⟩
 ·exact (zcC _ _ (by omega) l wc off).trans h.b1
 ·exact (zcC _ _ (by omega) l wc off).trans h.b2
theorem Three.lt (h:Three w wc c1 c2 c3 t1 t2 t3):w.heap.size+1+1+1≤wc.heap.size:=h.b3.lt
end
theorem zir {β:Type} (f:Nat→β) (i:Nat):upd f i (f i)=f:=by
 funext k
 by_cases c:k=i
 ·subst c;rw [zbO]
 ·rw [zbP f _ c]
section
variable {α:Type} {E:Lay α} {t:TypeId} {w w':World} {g cap n:Nat} {x:Nat→α} {ce:Nat→List Value} {Ls:Nat→List Nat} {k:Nat} {a a':α} {cs:List Value}
end
theorem SlP.some {α:Type} {E:Lay α} {t:TypeId} {w w':World} {lo g cap n k:Nat} {x:Nat→α} {ce:Nat→List Value} {Ls:Nat→List Nat} (h:SlP E t w lo g cap n k x ce Ls) (hb:Below w.heap.size w w') {i j:Nat} (hi:i<n) (hj:j<E.sz):∃ u,w'.cell? ⟨g,i*E.sz+j,none⟩=some u:=by
 have h':=h.below hb;rw [h'.cell hi hj];exact ⟨_,List.getElem?_eq_getElem (by rw [h'.lens i hi];exact hj)⟩
theorem SlP.next {α:Type} {E:Lay α} {t:TypeId} {w1 w:World} {lo g cap n k:Nat} {x:Nat→α} {ce:Nat→List Value} {Ls:Nat→List Nat} (h1:SlP E t w1 lo g cap n k x ce Ls) (hb:Below w1.heap.size w1 w) (hk:k<n) {cs:List Value} (ha:OwnT E w w1.heap.size w.heap.size (x k) cs) (hlo:lo≤w1.heap.size) :
 ∃ ce' Ls',SlP E t (stN w g (k*E.sz) cs) lo g cap n (k+1) x ce' Ls':=by
 obtain ⟨K,a1,a2,a3⟩:=ha;have:=h1.lay hb hk a1 a2 (fun b hb=>(a3 b hb).1) hlo;rw [zir] at this;exact ⟨_,_,this⟩
theorem zau {α:Type} {E:Lay α} {t:TypeId} {w wr:World} {hi n:Nat} {x:Nat→α} {b off:Nat} (hel:∀ i,i<n→∃ ce,E.rd w hi (x i) ce∧∀ j,j<E.sz→w.cell? ⟨b,off+(i*E.sz+j),none⟩=ce[j]?) (hb:Below w.heap.size w wr) (hhi:hi≤w.heap.size) (hbh:b<hi) {k:Nat} (hk:k<n) :
 ∃ ce,E.rd wr hi (x k) ce∧∀ j,j<E.sz→wr.cell? ⟨b,off+(k*E.sz+j),none⟩=ce[j]?:=by
 obtain ⟨ce,h1,h2⟩:=hel k hk;exact ⟨ce,E.rd_below h1 hb hhi,fun j hj=>(hb.cell (p:=⟨b,off+(k*E.sz+j),none⟩) (by show b<w.heap.size;omega)).trans (h2 j hj)⟩
theorem zbs {w:World} {hi:Nat} {d:BlockD} {cs:List Value} (h:zaw.rd w hi d cs):∃ ao1 cap1,cs=[.int .i64 d.stamp,.slice ao1 d.bytes.1 cap1]∧zaq.rd w hi d.bytes [.slice ao1 d.bytes.1 cap1]∧(-9223372036854775808≤d.stamp∧d.stamp≤9223372036854775807):=by
 obtain ⟨c0,r0,rfl,h0,h1⟩:=h;obtain ⟨rfl,k0⟩:=h0;obtain ⟨ao1,cap1,rfl⟩:=zb2 h1;exact ⟨ao1,cap1,rfl,h1,k0⟩
theorem zhu {w:World} {d:BlockD} {cs:List Value} {L:List Nat} (h:zaw.own w d cs L):∃ ao1 cap1 K1,cs=[.int .i64 d.stamp,.slice ao1 d.bytes.1 cap1]∧L=K1∧zaq.own w d.bytes [.slice ao1 d.bytes.1 cap1] K1∧(-9223372036854775808≤d.stamp∧d.stamp≤9223372036854775807):=by
 obtain ⟨c0,r0,L0,M0,rfl,rfl,h0,h1⟩:=h;obtain ⟨rfl,k0,rfl⟩:=h0;obtain ⟨ao1,cap1,rfl⟩:=zcL h1;exact ⟨ao1,cap1,_,rfl,rfl,h1,k0⟩
theorem zeO {w:World} {d:BlockD} {cs:List Value} {L:List Nat} (h:zaw.own w d cs L):∃ ao1 cap1,cs=[.int .i64 d.stamp,.slice ao1 d.bytes.1 cap1]:=by
 obtain ⟨ao1,cap1,K1,rfl,-⟩:=zhu h;exact ⟨ao1,cap1,rfl⟩
theorem zfn {w:World} {lo hi:Nat} {d:BlockD} {cs:List Value} (h:OwnT zaw w lo hi d cs):∃ ao1 cap1,cs=[.int .i64 d.stamp,.slice ao1 d.bytes.1 cap1]:=by
 obtain ⟨L,h1,-⟩:=h;exact zeO h1
def zaS (d:BlockD):Nat:=lenD d.bytes
theorem zbt {w:World} {hi:Nat} {d:DriveD} {cs:List Value} (h:zak.rd w hi d cs):∃ ao1 cap1,cs=[.bool d.wiped,.slice ao1 d.blocks.1 cap1]∧(zaw.slice 112).rd w hi d.blocks [.slice ao1 d.blocks.1 cap1]:=by
 obtain ⟨c0,r0,rfl,h0,h1⟩:=h;obtain ⟨rfl,k0⟩:=h0;obtain ⟨ao1,cap1,rfl⟩:=zbC h1;exact ⟨ao1,cap1,rfl,h1⟩
theorem zhv {w:World} {d:DriveD} {cs:List Value} {L:List Nat} (h:zak.own w d cs L):∃ ao1 cap1 K1,cs=[.bool d.wiped,.slice ao1 d.blocks.1 cap1]∧L=K1∧(zaw.slice 112).own w d.blocks [.slice ao1 d.blocks.1 cap1] K1:=by
 obtain ⟨c0,r0,L0,M0,rfl,rfl,h0,h1⟩:=h;obtain ⟨rfl,k0,rfl⟩:=h0;obtain ⟨ao1,cap1,rfl⟩:=zf3 h1;exact ⟨ao1,cap1,_,rfl,rfl,h1⟩
theorem zeP {w:World} {d:DriveD} {cs:List Value} {L:List Nat} (h:zak.own w d cs L):∃ ao1 cap1,cs=[.bool d.wiped,.slice ao1 d.blocks.1 cap1]:=by
 obtain ⟨ao1,cap1,K1,rfl,-⟩:=zhv h;exact ⟨ao1,cap1,rfl⟩
theorem zfo {w:World} {lo hi:Nat} {d:DriveD} {cs:List Value} (h:OwnT zak w lo hi d cs):∃ ao1 cap1,cs=[.bool d.wiped,.slice ao1 d.blocks.1 cap1]:=by
 obtain ⟨L,h1,-⟩:=h;exact zeP h1
def zav (d:DriveD):Nat:=(szSl zaS) d.blocks
theorem zaz {w:World} {hi:Nat} {d:RecD} {cs:List Value} (h:zab.rd w hi d cs):∃ ao6 cap6 ao7 cap7 ao8 cap8,cs=[.int .i64 d.kind,.int .i64 d.seq,.string d.name,.int .i64 d.length,.int .i64 d.group,.int .i64 d.row,.slice ao6 d.rows.1 cap6,.slice ao7 d.data.1 cap7,.slice ao8 d.delta.1 cap8]∧zaE.rd w hi d.rows [.slice ao6 d.rows.1 cap6]∧zaq.rd w hi d.data [.slice ao7 d.data.1 cap7]∧zaq.rd w hi d.delta [.slice ao8 d.delta.1 cap8]∧(-9223372036854775808≤d.kind∧d.kind≤9223372036854775807)∧(-9223372036854775808≤d.seq∧d.seq≤9223372036854775807)∧d.name.size≤maxLen∧(-9223372036854775808≤d.length∧d.length≤9223372036854775807)∧(-9223372036854775808≤d.group∧d.group≤9223372036854775807)∧(-9223372036854775808≤d.row∧d.row≤9223372036854775807):=by
 obtain ⟨c0,r0,rfl,h0,c1,r1,rfl,h1,c2,r2,rfl,h2,c3,r3,rfl,h3,c4,r4,rfl,h4,c5,r5,rfl,h5,c6,r6,rfl,h6,c7,r7,rfl,h7,h8⟩:=h;obtain ⟨rfl,k0⟩:=h0;obtain ⟨rfl,k1⟩:=h1;obtain ⟨rfl,k2⟩:=h2;obtain ⟨rfl,k3⟩:=h3;obtain ⟨rfl,k4⟩:=h4;obtain ⟨rfl,k5⟩:=h5;obtain ⟨ao6,cap6,rfl⟩:=zcV h6;obtain ⟨ao7,cap7,rfl⟩:=zb2 h7;obtain ⟨ao8,cap8,rfl⟩:=zb2 h8;exact ⟨ao6,cap6,ao7,cap7,ao8,cap8,rfl,h6,h7,h8,k0,k1,k2,k3,k4,k5⟩
theorem zi6 {w:World} {d:RecD} {cs:List Value} {L:List Nat} (h:zab.own w d cs L):∃ ao6 cap6 ao7 cap7 ao8 cap8 K6 K7 K8,cs=[.int .i64 d.kind,.int .i64 d.seq,.string d.name,.int .i64 d.length,.int .i64 d.group,.int .i64 d.row,.slice ao6 d.rows.1 cap6,.slice ao7 d.data.1 cap7,.slice ao8 d.delta.1 cap8]∧L=K6++(K7++K8)∧zaE.own w d.rows [.slice ao6 d.rows.1 cap6] K6∧zaq.own w d.data [.slice ao7 d.data.1 cap7] K7∧zaq.own w d.delta [.slice ao8 d.delta.1 cap8] K8∧(-9223372036854775808≤d.kind∧d.kind≤9223372036854775807)∧(-9223372036854775808≤d.seq∧d.seq≤9223372036854775807)∧d.name.size≤maxLen∧(-9223372036854775808≤d.length∧d.length≤9223372036854775807)∧(-9223372036854775808≤d.group∧d.group≤9223372036854775807)∧(-9223372036854775808≤d.row∧d.row≤9223372036854775807):=by
 obtain ⟨c0,r0,L0,M0,rfl,rfl,h0,c1,r1,L1,M1,rfl,rfl,h1,c2,r2,L2,M2,rfl,rfl,h2,c3,r3,L3,M3,rfl,rfl,h3,c4,r4,L4,M4,rfl,rfl,h4,c5,r5,L5,M5,rfl,rfl,h5,c6,r6,L6,M6,rfl,rfl,h6,c7,r7,L7,M7,rfl,rfl,h7,h8⟩:=h;obtain ⟨rfl,k0,rfl⟩:=h0;obtain ⟨rfl,k1,rfl⟩:=h1;obtain ⟨rfl,k2,rfl⟩:=h2;obtain ⟨rfl,k3,rfl⟩:=h3;obtain ⟨rfl,k4,rfl⟩:=h4;obtain ⟨rfl,k5,rfl⟩:=h5;obtain ⟨ao6,cap6,rfl⟩:=zgr h6;obtain ⟨ao7,cap7,rfl⟩:=zcL h7;obtain ⟨ao8,cap8,rfl⟩:=zcL h8;exact ⟨ao6,cap6,ao7,cap7,ao8,cap8,L6,L7,_,rfl,rfl,h6,h7,h8,k0,k1,k2,k3,k4,k5⟩
theorem zgs {w:World} {d:RecD} {cs:List Value} {L:List Nat} (h:zab.own w d cs L):∃ ao6 cap6 ao7 cap7 ao8 cap8,cs=[.int .i64 d.kind,.int .i64 d.seq,.string d.name,.int .i64 d.length,.int .i64 d.group,.int .i64 d.row,.slice ao6 d.rows.1 cap6,.slice ao7 d.data.1 cap7,.slice ao8 d.delta.1 cap8]:=by
 obtain ⟨ao6,cap6,ao7,cap7,ao8,cap8,K6,K7,K8,rfl,-⟩:=zi6 h;exact ⟨ao6,cap6,ao7,cap7,ao8,cap8,rfl⟩
theorem zhw {w:World} {lo hi:Nat} {d:RecD} {cs:List Value} (h:OwnT zab w lo hi d cs):∃ ao6 cap6 ao7 cap7 ao8 cap8,cs=[.int .i64 d.kind,.int .i64 d.seq,.string d.name,.int .i64 d.length,.int .i64 d.group,.int .i64 d.row,.slice ao6 d.rows.1 cap6,.slice ao7 d.data.1 cap7,.slice ao8 d.delta.1 cap8]:=by
 obtain ⟨L,h1,-⟩:=h;exact zgs h1
def zaL (d:RecD):Nat:=d.name.size+lenD d.rows+lenD d.data+lenD d.delta
theorem za4 {w:World} {hi:Nat} {d:TapeD} {cs:List Value} (h:zat.rd w hi d cs):∃ ao1 cap1,cs=[.bool d.wiped,.slice ao1 d.recs.1 cap1]∧(zab.slice 59).rd w hi d.recs [.slice ao1 d.recs.1 cap1]:=by
 obtain ⟨c0,r0,rfl,h0,h1⟩:=h;obtain ⟨rfl,k0⟩:=h0;obtain ⟨ao1,cap1,rfl⟩:=zbC h1;exact ⟨ao1,cap1,rfl,h1⟩
theorem zis {w:World} {d:TapeD} {cs:List Value} {L:List Nat} (h:zat.own w d cs L):∃ ao1 cap1 K1,cs=[.bool d.wiped,.slice ao1 d.recs.1 cap1]∧L=K1∧(zab.slice 59).own w d.recs [.slice ao1 d.recs.1 cap1] K1:=by
 obtain ⟨c0,r0,L0,M0,rfl,rfl,h0,h1⟩:=h;obtain ⟨rfl,k0,rfl⟩:=h0;obtain ⟨ao1,cap1,rfl⟩:=zf3 h1;exact ⟨ao1,cap1,_,rfl,rfl,h1⟩
theorem zfp {w:World} {d:TapeD} {cs:List Value} {L:List Nat} (h:zat.own w d cs L):∃ ao1 cap1,cs=[.bool d.wiped,.slice ao1 d.recs.1 cap1]:=by
 obtain ⟨ao1,cap1,K1,rfl,-⟩:=zis h;exact ⟨ao1,cap1,rfl⟩
theorem zgt {w:World} {lo hi:Nat} {d:TapeD} {cs:List Value} (h:OwnT zat w lo hi d cs):∃ ao1 cap1,cs=[.bool d.wiped,.slice ao1 d.recs.1 cap1]:=by
 obtain ⟨L,h1,-⟩:=h;exact zfp h1
def zaO (d:TapeD):Nat:=(szSl zaL) d.recs
theorem zaT {w:World} {hi:Nat} {d:WorldD} {cs:List Value} (h:zan.rd w hi d cs):∃ ao1 cap1 ao2 cap2 ao3 cap3,cs=[.int .i64 (d.shape 0),.int .i64 (d.shape 1),.int .i64 (d.shape 2),.int .i64 (d.shape 3),.int .i64 (d.shape 4),.int .i64 (d.shape 5),.int .i64 (d.shape 6),.int .i64 (d.shape 7),.int .i64 (d.shape 8),.slice ao1 d.groups.1 cap1,.slice ao2 d.on.1 cap2,.slice ao3 d.tapes.1 cap3,.int .i64 d.writes,.int .i64 d.stop,.bool d.down]∧((zak.slice 110).slice 80).rd w hi d.groups [.slice ao1 d.groups.1 cap1]∧zaE.rd w hi d.on [.slice ao2 d.on.1 cap2]∧(zat.slice 74).rd w hi d.tapes [.slice ao3 d.tapes.1 cap3]∧(∀ i,-9223372036854775808≤d.shape i∧d.shape i≤9223372036854775807)∧(-9223372036854775808≤d.writes∧d.writes≤9223372036854775807)∧(-9223372036854775808≤d.stop∧d.stop≤9223372036854775807):=by
 obtain ⟨c0,r0,rfl,h0,c1,r1,rfl,h1,c2,r2,rfl,h2,c3,r3,rfl,h3,c4,r4,rfl,h4,c5,r5,rfl,h5,h6⟩:=h;obtain ⟨rfl,k0⟩:=h0;obtain ⟨ao1,cap1,rfl⟩:=zbC h1;obtain ⟨ao2,cap2,rfl⟩:=zcV h2;obtain ⟨ao3,cap3,rfl⟩:=zbC h3;obtain ⟨rfl,k4⟩:=h4;obtain ⟨rfl,k5⟩:=h5;obtain ⟨rfl,k6⟩:=h6;exact ⟨ao1,cap1,ao2,cap2,ao3,cap3,rfl,h1,h2,h3,k0,k4,k5⟩
def zbb (d:WorldD):Nat:=(szSl (szSl zav)) d.groups+lenD d.on+(szSl zaO) d.tapes
structure WorldResultD where
 code:Int
 world:WorldD
structure BlockResultD where
 code:Int
 block:BlockD
structure Cpy (w wr:World) (R k:Nat) (n:Nat→Nat) (f:Nat→Nat→Nat) (e:Nat→Value):Prop where
 row:wr.ownsRow w.heap.size 57 1 (.slice (some ⟨w.heap.size,0,none⟩) R R) R (zeI R fun i=>if i<k then e i else nilS)
 each:∀ i,i<k→Own wr (w.heap.size+1) wr.heap.size (e i) (n i) (f i)
 apart:zju w.heap.size k e
 bel:Below w.heap.size w wr
 lt:w.heap.size<wr.heap.size
def zeb (a k i:Nat):Value:=.int .u8 ((if i<k then tabN a i else 0:Nat):Int)
def T (a k:Nat):Array Value:=#[zeb a k 0,zeb a k 1,zeb a k 2,zeb a k 3,zeb a k 4,zeb a k 5,zeb a k 6,zeb a k 7]
theorem T8 (a:Nat):T a 8=#[.int .u8 (tabN a 0),.int .u8 (tabN a 1),.int .u8 (tabN a 2),.int .u8 (tabN a 3),.int .u8 (tabN a 4),.int .u8 (tabN a 5),.int .u8 (tabN a 6),.int .u8 (tabN a 7)]:=by simp [T,zeb]
end Go.Proofs.YtecofihpkcljcaaGreat
namespace Go.Proofs.YtecofihpkcljcaaGreat
open F256
abbrev Mat:=Nat→Nat→Nat
def zjv (M:Mat) (c R:Nat):Nat→Nat→Nat
 | 0,_=>R
 | d+1,i=>if M i c=0 then zjv M c R d (i+1) else i
def lead (M:Mat) (c R r:Nat):Nat:=zjv M c R (R-r) r
end Go.Proofs.YtecofihpkcljcaaGreat
namespace Go.Proofs.YtecofihpkcljcaaGreat
end Go.Proofs.YtecofihpkcljcaaGreat
