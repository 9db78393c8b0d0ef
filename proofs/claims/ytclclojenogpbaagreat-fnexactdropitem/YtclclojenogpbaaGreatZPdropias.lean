/- Worlds behind a pointer of the specification; l5Raw, l7Strike. -/
import Derived.Test.YtclclojenogpbaaGreatZPdropiar
set_option linter.unusedVariables false
set_option linter.unusedSimpArgs false
set_option maxHeartbeats 16000000
namespace Go.Proofs.YtclclojenogpbaaGreat
open Go.RowKit F256
def SpB (w:World) (B:Nat) (d:WorldD) (K:List Nat):Prop:=∃ cs,Box w B cs.toArray 38∧EncO w B d cs K
def SpP (o:Outc) (B:Nat) (w:World) (K:List Nat) (e:Ending) (w':World):Prop:=match o with
 | .done _ d=>e=.returned (.bool true)∧∃ K',SpB w' B d K'∧(∀ b,b∈K'→b∈K∨w.heap.size≤b)∧ChgL (B::K) w w'
 | .cut d=>e=.returned (.bool false)∧∃ K',SpB w' B (cutW d) K'∧(∀ b,b∈K'→b∈K∨w.heap.size≤b)∧ChgL (B::K) w w'
theorem SpB.lt {w:World} {B:Nat} {d:WorldD} {K:List Nat} (h:SpB w B d K):B<w.heap.size:=by
 obtain ⟨cs,h1,_⟩:=h;exact h1.lt
theorem zmu (B:Nat) (d:WorldD) (K:List Nat) (w:World) (hX:SpB w B d K) (hd:d.down=false) (hwr:-9223372036854775808≤d.writes∧d.writes+1≤9223372036854775807) :
 Calls Tryz.prog 208 #[.pointer (some ⟨B,0,none⟩)] w fun e w'=>((d.stop≠-1∧d.stop≤d.writes)∧e=.returned (.bool false)∧(∃ K',SpB w' B (cutW d) K'∧∀ b,b∈K'→b∈K)∧ChgL [B] w w')∨(¬ (d.stop≠-1∧d.stop≤d.writes)∧e=.returned (.bool true)∧SpB w' B { d with writes:=d.writes+1 } K∧ChgL [B] w w'):=by
 obtain ⟨cs,hB,hO⟩:=hX;obtain ⟨v0,v1,v2,v3,v4,v5,v6,v7,v8,vp0,vl0,vq0,vp1,vl1,vq1,vp2,vl2,vq2,v9,v10,vb,rfl⟩:=zbQ hO.own;have st:=zlE hO.own;have wt:=zeg hO.own;have dn:=zm7 hO.T.rd
 by_cases hf:d.stop≠-1∧d.stop≤d.writes
 ·obtain ⟨KC,kc1,kc2,kc3⟩:=zjB hO.own hO.nd
  refine (zkw B v0 v1 v2 v3 v4 v5 v6 v7 v8 vp0 vl0 vq0 vp1 vl1 vq1 vp2 vl2 vq2 v9 v10 vb w hB (by rw [dn];exact hd) (by rw [st];exact hf.1) (by rw [st,wt];exact hf.2)).mono ?_;rintro e w' ⟨rfl,X5,C5⟩;refine .inl ⟨hf,rfl,⟨KC,⟨_,X5,Lay.own_chgL _ kc1 C5 (fun b hb hm=>?_),kc2,fun hm=>hO.ne (kc3 _ hm)⟩,kc3⟩,C5⟩
  simp at hm
  exact hO.ne (hm ▸ kc3 b hb)
 ·refine (zmt B v0 v1 v2 v3 v4 v5 v6 v7 v8 vp0 vl0 vq0 vp1 vl1 vq1 vp2 vl2 vq2 v9 v10 vb w hB (by rw [dn];exact hd) (by rw [st,wt];exact hf) (by rw [wt];exact hwr)).mono ?_
  rintro e w' ⟨rfl,X5,C5⟩;have O2:=zdQ (d.writes+1) (by omega) hO.own;rw [wt] at X5;exact .inr ⟨hf,rfl,⟨_,X5,Lay.own_chgL _ O2 C5 (fun b hb hm=>by simp at hm;exact hO.ne (hm ▸ hb)),hO.nd,hO.ne⟩,C5⟩
structure Fit2 (n:Nat) (d:WorldD):Prop where
 two:d.tapes.1=2
 few:∀ T,T<2→(d.tapes.2 T).recs.1≤1048576
 up:d.down=false
 low:-9223372036854775808≤d.writes
 room:d.writes+n≤9223372036854775807
end Go.Proofs.YtclclojenogpbaaGreat
namespace Go.Proofs.YtclclojenogpbaaGreat
open Go.RowKit
section
variable {ops:Array Oper} {Q:Exit→Act→World→Prop} {md:Region.Mode} {S:World→Prop} {L:Nat}
theorem zcO {o:Oper} {a:Act} (T:TypeId) (x:Operand) (ho:o.op=.load T x) (hg:o.guard=none) (b:Nat) (hx:a.eval x=.pointer (some ⟨b,0,none⟩)) {cs:List Value} (hB:∀ w,S w→Box w b cs.toArray T) {fs:Array Field} (hu:Tryz.prog.underlying T=some (.struct fs)) {n:Nat} (hi:(Tryz.prog.info? T).map (·.size)=some n) (hl:cs.length=n):YieldsIf Tryz.prog ops S o (.agg cs.toArray) a:=by
 refine .inl ⟨by simp [Region.wanted,hg],fun w hS=>?_⟩;unfold execOp
 simp only [ho,hx,Instr.loadAt,Instr.sureAddr,Sem.run_bind,Sem.run_pure,Result.andThen_ok,run_loadVar_row w b T T cs.toArray (0,0) (.struct fs) (hB w hS) hu rfl (by rw [hi];simp [hl])]
theorem zg3 {o:Oper} {a:Act} {w:World} {K:Act→World→Prop} {F:Prop} (hg:o.guard=none) (T:TypeId) (x y:Operand) (ho:o.op=.store T x y) (b:Nat) (hx:a.eval x=.pointer (some ⟨b,0,none⟩)) {cs old:List Value} (hy:a.eval y=.agg cs.toArray) (hB:Box w b old.toArray T) {n:Nat} (hi:(Tryz.prog.info? T).map (·.size)=some n) (hl:cs.length=n) (hol:old.length=n) (h1:∀ v,v∈cs→v.oneCell'=true)
 (h:∀ w',Box w' b cs.toArray T→ChgL [b] w w'→w'.heap.size=w.heap.size→K (a.put o.dst undef) w'):if Region.wanted o (yielded ops a.tmps)=true then Oper.wp Tryz.prog o a w K Q else F:=by
 have hw:Region.wanted o (yielded ops a.tmps)=true:=by simp [Region.wanted,hg]
 rw [if_pos hw];refine wp_store_row T x y ho b cs.toArray hx hy T old.toArray hB (by rw [hi];simp [hl]) (by simp [hl,hol]) (by simp;exact h1) ?_;exact h _ (setRow_heap w b _ cs.toArray T (0,0) hB) (zfv b _) (by simp)
theorem zh8 {o:Oper} {fuel:Nat} {listed:Array Bool} {a:Act} {w:World} (ho:ops[L]?=some o) (hr:Region.ready md ops listed=[L]) (hr2:Region.ready md ops (listed.setIfInBounds L true)=[]) (hg:o.guard=none) (hd:o.dst=none) (T:TypeId) (x y:Operand) (hop:o.op=.store T x y) (b:Nat) (hx:a.eval x=.pointer (some ⟨b,0,none⟩)) {cs old:List Value} (hy:a.eval y=.agg cs.toArray) (hB:Box w b old.toArray T) {n:Nat} (hi:(Tryz.prog.info? T).map (·.size)=some n) (hl:cs.length=n) (hol:old.length=n) (h1:∀ v,v∈cs→v.oneCell'=true)
 (h:∀ w',Box w' b cs.toArray T→ChgL [b] w w'→w'.heap.size=w.heap.size→Q .normal a w'):zcB Tryz.prog md ops Q S L (fuel+1) listed a w:=by
 refine zbx ho hr (fun KC hKC=>?_);refine zg3 hg T x y hop b hx hy hB hi hl hol h1 (fun w' X C z=>?_)
 have e:a.put o.dst undef=a:=by rw [hd];rfl
 rw [e];exact hKC _ _ (zby hr2 (h w' X C z) _)
end
theorem zev (w:World):Below w.heap.size w w.drew:=⟨rfl,rfl,rfl,Nat.le_refl _,fun _ _=>rfl⟩
end Go.Proofs.YtclclojenogpbaaGreat
namespace Go.Proofs.YtclclojenogpbaaGreat
open Go.RowKit F256
structure Cap2 (w wc:World) (c1:Array Value) (x y:Int) (c4:Array Value) (t1 t4:TypeId):Prop where
 b1:Box wc w.heap.size c1 t1
 b2:Box wc (w.heap.size+1) #[.int .i64 x] 2
 b3:Box wc (w.heap.size+1+1) #[.int .i64 y] 2
 b4:Box wc (w.heap.size+1+1+1) c4 t4
 bel:Below w.heap.size w wc
theorem zmK {d:WorldD} (h:AskAns d 0):d.down=false:=by
 rcases h with ⟨h,_⟩ | ⟨_,⟨_,h⟩ | ⟨h,_⟩⟩
 ·exact absurd rfl h
 ·cases h
 ·exact h
theorem zlM (o:Outc):o.next (fun d=>.done 0 d)=o:=by
 cases o with
 | cut d=>rfl
 | done c d=>
  show (if c=0 then _ else _)=_
  split
  ·rename_i h;rw [h]
  ·rfl
theorem zjD {f:Nat→WorldD→Outc} (hf:∀ k d c d',f k d=.done c d'→c=0):∀ (m k:Nat) (d:WorldD) (c:Int) (d':WorldD),runO f m k d=.done c d'→c=0
 | 0,k,d,c,d',h=>by cases h;rfl
 | m+1,k,d,c,d',h=>by
  have h2:(f k d).next (runO f m (k+1))=.done c d':=h
  cases e:f k d with
  | cut x=>rw [e] at h2;cases h2
  | done c2 d2=>
   rw [e,hf k d c2 d2 e] at h2;exact zjD hf m (k+1) d2 c d' h2
def zb8 (p:Nat×(Nat→TapeD)) (more:Int):Prop:=∃ t,t<p.1∧200<((p.2 t).recs.1:Int)+more
theorem zlN (wp:Bool) (n:Nat) (hn:n≤1000000000) (ao:Option Addr) (cap mb:Nat) (more:Int) (hmo:0≤more∧more≤1000) (w:World) (hmb:w.cell? ⟨mb,0,none⟩=some (.int .i64 more)) (hml:mb<w.heap.size) :
 Calls Tryz.prog 185 #[.agg #[.bool wp,.slice ao n cap],.pointer (some ⟨mb,0,none⟩)] w (zbm (200<(n:Int)+more) w):=by
 have bA:=bAl w (.cells #[.bool wp,.slice ao n cap] 112);have hm2:(w.alloc (.cells #[.bool wp,.slice ao n cap] 112)).cell? ⟨mb,0,none⟩=some (.int .i64 more):=(bA.cell (p:=⟨mb,0,none⟩) hml).trans hmb;have HB:=hid bA
 have wz:IntKind.i64.wrap ((n:Int)+more)=(n:Int)+more:=by rw [IntKind.wrap_i64];omega
 obtain ⟨P,hP⟩:∃ P:Prop,P=(200<(n:Int)+more):=⟨_,rfl⟩;have HP:=hid hP;rw [← hP];clear hP bA
 by_cases h:200<(n:Int)+more
 ·have h1:decide (200<(n:Int)+more)=true:=decide_eq_true h
  go_enter Tryz.func185,Tryz.ntmps185
  go_wp2;go_ret;exact zaJ (by simp [h1]) (by rw [HP.out];exact h) HB.out
 ·have h1:decide (200<(n:Int)+more)=false:=decide_eq_false h
  go_enter Tryz.func185,Tryz.ntmps185
  go_wp2;go_ret;exact zan (by simp [h1]) (by rw [HP.out];omega) HB.out
theorem zkx (p:Nat×(Nat→TapeD)) (t:TypeId) (v:Value) (hi:Nat) (w:World) (h:(zah.slice t).rd w hi p [v]) (hhi:hi≤w.heap.size) (mb:Nat) (more:Int) (hmb:w.cell? ⟨mb,0,none⟩=some (.int .i64 more)) (hml:mb<w.heap.size) (hmo:0≤more∧more≤1000) (hsm:∀ i,i<p.1→(p.2 i).recs.1≤1000000000) :
 Calls Tryz.prog 191 #[v,.func (.func 185) #[] #[.pointer (some ⟨mb,0,none⟩)]] w fun e w'=>∃ z:Int,e=.returned (.int .i64 z)∧(0≤z↔zb8 p more)∧Below w.heap.size w w':=by
 obtain ⟨ao,cap,e,hm,hc⟩:=h
 cases e
 unfold maxLen at hm;have HS:=hid hsm;clear hsm;have HC:=hid hc;clear hc
 go_enter Tryz.func191,Tryz.ntmps191
 go_wp2
 go_loopw [8] (fun i wr=>∃ k:Nat,k≤p.1∧i=.int .i64 k∧(∀ i,i<k→¬ (200<((p.2 i).recs.1:Int)+more))∧Below w.heap.size w wr) (fun i _=>p.1-(intOf i).toNat)
 case atStart=>exact ⟨0,Nat.zero_le _,rfl,fun i hi=>by omega,Below.refl _ _⟩
 case round=>
  obtain ⟨k,hk,rfl,hal,hb⟩:=hrel;have HAL:=hid hal;have HB:=hid hb;clear hal
  by_cases hlt:k<p.1
  ·obtain ⟨b,off,he,hbl,hel⟩:=HC.out (by omega)
   subst he;obtain ⟨ck,hrk,hcell⟩:=zat (t:=0) hel hb hhi hbl hlt;obtain ⟨ao1,cap1,rfl,g1⟩:=zbb hrk;have c0:wr.cell? ⟨b,off+k*2,none⟩=some (.bool (p.2 k).wiped):=hcell 0 (by decide);have c1:wr.cell? ⟨b,off+k*2+1,none⟩=some (.slice ao1 (p.2 k).recs.1 cap1):=hcell 1 (by decide);have hmw:wr.cell? ⟨mb,0,none⟩=some (.int .i64 more):=(hb.cell (p:=⟨mb,0,none⟩) hml).trans hmb;have C:=zlN (p.2 k).wiped (p.2 k).recs.1 (HS.out k hlt) ao1 cap1 mb more hmo wr hmw (by have:=hb.size;omega);clear hel hcell hrk hb g1
   go_wp2_with fail
   refine C.mono ?_;rintro e w2 ⟨t2,rfl,ht2,b2⟩;have HB2:=hid (HB.out.trans (b2.mono HB.out.size));have HT2:=hid ht2;clear C b2 ht2
   cases t2 with
   | true=>
    have HP:Hid (0≤(k:Int)↔zb8 p more):=⟨fun _=>⟨k,hlt,HT2.out.1 rfl⟩,fun _=>by omega⟩;go_wp2;go_ret;exact ⟨_,rfl,HP.out,HB2.out⟩
   | false=>
    go_wp2
    go_roundw
    case rel=>exact ⟨k+1,by omega,by go_num,fun i hi=>by
     by_cases c:i=k
     ·subst c;exact fun h=>by have:=HT2.out.2 h;simp at this
     ·have:=HAL.out i (by omega);omega,HB2.out⟩
    case measure=>simp [intOf];omega
  ·obtain rfl:k=p.1:=by omega
   have HP:Hid (0≤(-1:Int)↔zb8 p more):=⟨fun h=>by omega,fun ⟨t,ht,he⟩=>absurd he (HAL.out t ht)⟩;go_wp2;go_ret;exact ⟨-1,rfl,HP.out,hb⟩
theorem zg4 (p:Nat×(Nat→TapeD)) (t:TypeId) (v:Value) (hi:Nat) (w:World) (h:(zah.slice t).rd w hi p [v]) (hhi:hi≤w.heap.size) (mb:Nat) (more:Int) (hmb:w.cell? ⟨mb,0,none⟩=some (.int .i64 more)) (hml:mb<w.heap.size) (hmo:0≤more∧more≤1000) (hsm:∀ i,i<p.1→(p.2 i).recs.1≤1000000000) :
 Calls Tryz.prog 142 #[v,.func (.func 185) #[] #[.pointer (some ⟨mb,0,none⟩)]] w (zbm (zb8 p more) w):=by
 have C:=zkx p t v hi w h hhi mb more hmb hml hmo hsm;obtain ⟨ao,cap,e,hm,hc⟩:=h
 cases e
 clear hc hm
 go_enter Tryz.func142,Tryz.ntmps142
 go_wp2_with fail
 refine C.mono ?_;rintro e w1 ⟨z,rfl,hz,b1⟩;have HZ:=hid hz;have HB:=hid b1;clear hz C b1
 by_cases h0:0≤z
 ·have HP:=hid (HZ.out.mp h0)
  go_wp2;go_ret;exact zaJ rfl HP.out HB.out
 ·have HP:Hid (¬ zb8 p more):=fun h=>h0 (HZ.out.mpr h)
  have td:decide (0≤z)=false:=by simp;omega
  clear h0;go_wp2;go_ret;exact zan rfl HP.out HB.out
set_option maxRecDepth 20000 in
theorem zi9 (d:WorldD) (cs:List Value) (hi:Nat) (more:Int) (hmo:0≤more∧more≤1000) (w:World) (h:zad.rd w hi d cs) (hhi:hi≤w.heap.size) (hsm:∀ i,i<d.tapes.1→(d.tapes.2 i).recs.1≤1000000000) :
 Calls Tryz.prog 134 #[.agg cs.toArray,.int .i64 more] w (zbm (¬ zb8 d.tapes more) w):=by
 have hmf:∀ (fn:Fn) (first cap:Array Value) (w:World),(Instr.makeFunc fn first cap).run Tryz.prog w=.ok (.func fn first cap) w:=fun _ _ _ _=>rfl;obtain ⟨ao1,cap1,ao2,cap2,ao3,cap3,rfl,g1,g2,g3,k0,k4,k5⟩:=zaM h;have T0:=zax w (rwW d ao1 cap1 ao2 cap2 ao3 cap3).toArray #[.int .i64 more] 38 2;have x11:=T0.b1.cell 11;have CC:=zg4 d.tapes _ _ hi _ ((zah.slice _).rd_below g3 T0.bel hhi) (Nat.le_trans hhi T0.bel.size) (w.heap.size+1) more (T0.b2.cell 0) T0.b2.lt hmo hsm;have HT:=hid T0.bel;obtain ⟨P,hP⟩:∃ P:Prop,P=zb8 d.tapes more:=⟨_,rfl⟩;rw [← hP] at CC ⊢;clear g1 g2 g3 k0 k4 k5 h T0 hP hsm
 go_enter Tryz.func134,Tryz.ntmps134
 go_wp2_with fail
 refine CC.mono ?_;rintro e w1 ⟨t,rfl,ht,b1⟩;have HB:=hid (HT.out.trans (b1.mono HT.out.size));have HP:=hid ht;clear CC b1 ht
 cases t with
 | true=>
  go_wp2;go_ret;exact zan rfl (fun h=>h (HP.out.1 (by simp))) HB.out
 | false=>
  go_wp2;go_ret;exact zaJ rfl (fun h=>by have:=HP.out.2 h;cases this) HB.out
theorem zky (E:Nat) (d:WorldD) (K:List Nat) (T:Nat) (r:RecD) (o6 o7 o8:Option Addr) (k6 k7 k8 hi:Nat) (w:World) (hX:EncB w E d K) (hT:T<d.tapes.1) (hn:(d.tapes.2 T).recs.1≤10000000) (hr:zab.rd w hi r [.int .i64 r.kind,.int .i64 r.seq,.string r.name,.int .i64 r.length,.int .i64 r.group,.int .i64 r.row,.slice o6 r.rows.1 k6,.slice o7 r.data.1 k7,.slice o8 r.delta.1 k8]) (hiE:hi≤E) (hsr:zaG r≤1048576) (hwr:-9223372036854775808≤d.writes∧d.writes+1≤9223372036854775807) :
 Calls Tryz.prog 187 #[.pointer (some ⟨E,0,none⟩),.int .i64 (T:Int),.agg #[.int .i64 r.kind,.int .i64 r.seq,.string r.name,.int .i64 r.length,.int .i64 r.group,.int .i64 r.row,.slice o6 r.rows.1 k6,.slice o7 r.data.1 k7,.slice o8 r.delta.1 k8]] w (RunP (fun _=>.tuple #[]) (rawO (fun d=>zbR d T r) d) E w K):=by
 obtain ⟨cs,hB,hO⟩:=hX;obtain ⟨v0,v1,v2,v3,v4,v5,v6,v7,v8,vp0,vl0,vq0,vp1,vl1,vq1,vp2,vl2,vq2,v9,v10,vb,rfl⟩:=zbQ hO.own;have st:=zlE hO.own;have wt:=zeg hO.own
 by_cases hf:d.stop≠-1∧d.stop≤d.writes
 ·unfold rawO
  rw [if_pos hf];obtain ⟨KC,kc1,kc2,kc3⟩:=zjB hO.own hO.nd;refine (zi8 E v0 v1 v2 v3 v4 v5 v6 v7 v8 vp0 vl0 vq0 vp1 vl1 vq1 vp2 vl2 vq2 v9 v10 vb d K T r o6 o7 o8 k6 k7 k8 hi w hB (fun x hx=>zad.own_one kc1 x hx) (by rw [st];exact hf.1) (by rw [st,wt];exact hf.2)).mono ?_;rintro e w' ⟨rfl,X5,C5⟩;refine ⟨rfl,KC,⟨_,X5,Lay.own_chgL _ kc1 C5 (fun b hb hm=>?_),kc2,fun hm=>hO.ne (kc3 _ hm)⟩,fun b hb=>.inl (kc3 b hb),C5.mono (fun b hb=>by simp at hb;simp [hb])⟩
  simp at hm
  exact hO.ne (hm ▸ kc3 b hb)
 ·unfold rawO
  rw [if_neg hf];refine (zlI E v0 v1 v2 v3 v4 v5 v6 v7 v8 vp0 vl0 vq0 vp1 vl1 vq1 vp2 vl2 vq2 v9 v10 vb d K T r o6 o7 o8 k6 k7 k8 hi w hB hO hT hn hr hiE hsr (by rw [st,wt];exact hf) hwr).mono ?_;rintro e w' ⟨rfl,cs',K',X5,O5,s5,C5⟩;exact ⟨rfl,K',⟨cs',X5,O5⟩,s5,C5⟩
structure Fit3 (n:Nat) (d:WorldD):Prop where
 two:d.tapes.1=2
 few:∀ T,T<2→(d.tapes.2 T).recs.1+n≤1000000
 up:d.down=false
 low:-9223372036854775808≤d.writes
 room:d.writes+n≤9223372036854775807
theorem Fit3.less {n m:Nat} {d:WorldD} (h:Fit3 n d) (hm:m≤n):Fit3 m d:=⟨h.two,fun T hT=>by have:=h.few T hT;omega,h.up,h.low,by have:=h.room;omega⟩
def zaK (r:RecD) (k:Nat):WorldD→Outc:=rawO (fun d=>zbR d k r)
theorem zdR {r:RecD} {k:Nat} {d d2:WorldD} {c:Int} (e:zaK r k d=.done c d2):c=0:=by
 unfold zaK rawO at e
 split at e
 ·cases e
 ·cases e;rfl
theorem zfH {n:Nat} {d d2:WorldD} {c:Int} {r:RecD} {k:Nat} (h:Fit3 (n+1) d) (hk:k<2) (e:zaK r k d=.done c d2):Fit3 n d2:=by
 unfold zaK rawO at e
 split at e
 ·cases e
 ·simp only [Outc.done.injEq] at e
  obtain ⟨_,rfl⟩:=e;have hr:=h.room;have hl:=h.low;refine ⟨h.two,fun T hT=>?_,h.up,?_,?_⟩
  ·show ((upd d.tapes.2 k (zg2 (d.tapes.2 k) r)) T).recs.1+n≤_
   have h1:=h.few T hT
   by_cases c:T=k
   ·subst c
    rw [zaY]
    show (d.tapes.2 T).recs.1+1+n≤_
    omega
   ·rw [za5 _ _ c]
    omega
  ·show _≤d.writes+1
   omega
  ·show d.writes+1+n≤_
   have:((n+1:Nat):Int)=(n:Int)+1:=by omega
   omega
def layF (r:RecD) (d:WorldD):Outc:=if 200<((d.tapes.2 0).recs.1:Int)+1∨200<((d.tapes.2 1).recs.1:Int)+1 then .done 2 d else runO (zaK r) 2 0 d
theorem zmv {d:WorldD} (h:d.tapes.1=2) (n:Int):zb8 d.tapes n↔(200<((d.tapes.2 0).recs.1:Int)+n∨200<((d.tapes.2 1).recs.1:Int)+n):=by
 unfold zb8;rw [h]
 constructor
 ·rintro ⟨t,ht,h⟩
  have:t=0∨t=1:=by omega
  rcases this with rfl | rfl
  ·exact .inl h
  ·exact .inr h
 ·rintro (h | h)
  ·exact ⟨0,by omega,h⟩
  ·exact ⟨1,by omega,h⟩
theorem zci:(Tryz.prog.info? 72).map (·.size)=some 9:=by kernel_rfl
theorem zeK (T:Int) (c0 c1 c2 c3 c4 c5 c6 c7 c8:Value) (w:World):Calls Tryz.prog 135 #[.int .i64 T,.agg #[c0,c1,c2,c3,c4,c5,c6,c7,c8]] w fun e w'=>e=.returned (.func (.func 186) #[] #[.pointer (some ⟨w.heap.size,0,none⟩),.pointer (some ⟨w.heap.size+1,0,none⟩)])∧Box w' w.heap.size #[.int .i64 T] 2∧Box w' (w.heap.size+1) #[c0,c1,c2,c3,c4,c5,c6,c7,c8] 72∧w'.heap.size=w.heap.size+1+1∧Below w.heap.size w w':=by
 have hmf:∀ (fn:Fn) (first cap:Array Value) (w:World),(Instr.makeFunc fn first cap).run Tryz.prog w=.ok (.func fn first cap) w:=fun _ _ _ _=>rfl;have T0:=zax w #[.int .i64 T] #[c0,c1,c2,c3,c4,c5,c6,c7,c8] 2 72
 go_enter Tryz.func135,Tryz.ntmps135
 go_wp2;go_ret;exact ⟨by simp,T0.b1,T0.b2,by simp,T0.bel⟩
theorem zlO (c0 c1 c2 c3 c4 c5 c6 c7 c8:Value) (w:World):Calls Tryz.prog 87 #[.agg #[c0,c1,c2,c3,c4,c5,c6,c7,c8]] w fun e w'=>e=.returned (.func (.func 133) #[] #[.pointer (some ⟨w.heap.size,0,none⟩)])∧Box w' w.heap.size #[c0,c1,c2,c3,c4,c5,c6,c7,c8] 72∧Below w.heap.size w w':=by
 have hmf:∀ (fn:Fn) (first cap:Array Value) (w:World),(Instr.makeFunc fn first cap).run Tryz.prog w=.ok (.func fn first cap) w:=fun _ _ _ _=>rfl;have T0:=zaI w #[c0,c1,c2,c3,c4,c5,c6,c7,c8] 72
 go_enter Tryz.func87,Tryz.ntmps87
 go_wp2;go_ret;exact ⟨rfl,T0.b1,T0.bel⟩
def znA (F:Nat) (caps:Array Value) (f:WorldD→Outc) (fit:WorldD→Prop) (B:Nat) (CL:List Nat) (w0:World):Prop:=
 zh5 F∧∀ (w:World) (E:Nat) (d:WorldD) (K:List Nat),Below B w0 w→(∀ x,x∈CL→w.heap[x]?=w0.heap[x]?)→B≤E→(∀ b,b∈K→B≤b)→(∀ x,x∈CL→x≠E∧x∉K)→EncB w E d K→fit d→Calls Tryz.prog F (#[.pointer (some ⟨E,0,none⟩)]++caps) w (RunP (fun c=>.int .i64 c) (f d) E w K)
set_option maxRecDepth 20000 in
theorem zja (F:Nat→Nat) (caps:Nat→Array Value) (f:Nat→WorldD→Outc) (fit:Nat→WorldD→Prop) (B n b off cap:Nat) (CL:List Nat) (w:World) (E:Nat) (d:WorldD) (K:List Nat)
 (hT:∀ i,i<n→znA (F i) (caps i) (f i) (fit i) B CL w) (hc:∀ i,i<n→w.cell? ⟨b,off+i,none⟩=some (.func (.func (F i)) #[] (caps i))) (hb:b<w.heap.size) (hbE:b≠E∧b∉K) (hBE:B≤E) (hBK:∀ b,b∈K→B≤b) (hn:n≤1000000) (hX:EncB w E d K) (hf:zh6 f fit n 0 d) (hCL:∀ x,x∈CL→x<w.heap.size∧x≠E∧x∉K) :
 Calls Tryz.prog 84 #[.pointer (some ⟨E,0,none⟩),.slice (some ⟨b,off,none⟩) n cap] w (RunP (fun c=>.int .i64 c) (runO f n 0 d) E w K):=by
 have HX:=hid hX;have HT:=hid hT;have HBE:=hid hbE;have HBK:=hid hBK;have HF:=hid hf;have HC:=hid hc;have HCL:=hid hCL;clear hX hT hbE hBK hf hc hCL
 go_enter Tryz.func84,Tryz.ntmps84
 go_wp2
 go_loopw [10] (fun i wr=>∃ (k m:Nat) (d1:WorldD) (K1:List Nat),k+m=n∧i=.int .i64 k∧EncB wr E d1 K1∧(∀ x,x∈K1→x∈K∨w.heap.size≤x)∧ChgL (E::K) w wr∧zh6 f fit m k d1∧runO f n 0 d=runO f m k d1) (fun i _=>n-(intOf i).toNat)
 case atStart=>exact ⟨0,n,d,K,by omega,rfl,HX.out,fun x hx=>.inl hx,ChgL.refl _ _,HF.out,rfl⟩
 case round=>
  obtain ⟨k,m,d1,K1,hkm,rfl,hX1,hK1,hC1,hf1,ho⟩:=hrel;have HX1:=hid hX1;have HK1:=hid hK1;have HC1:=hid hC1;have HO:=hid ho;have HF1:=hid hf1;have zr:=hC1.size;clear hX1 hK1 hf1 ho
  cases m with
  | zero=>
   obtain rfl:k=n:=by omega
   clear hC1 hkm;go_wp2;go_ret;rw [HO.out];exact ⟨rfl,K1,HX1.out,HK1.out,HC1.out⟩
  | succ m=>
   have hlt:k<n:=by omega
   have t1:(k:Int)<(n:Int):=by omega
   have ck:wr.cell? ⟨b,off+k,none⟩=some (.func (.func (F k)) #[] (caps k)):=(World.cell?_of_block (hC1.block b hb (fun hm=>by
    rcases List.mem_cons.1 hm with h | h
    ·exact HBE.out.1 h
    ·exact HBE.out.2 h))).trans (HC.out k hlt)
   have CT:=(HT.out k hlt).2 wr E d1 K1 (hC1.bel (fun x hx=>by
    rcases List.mem_cons.1 hx with rfl | h
    ·exact hBE
    ·exact HBK.out x h) (by have:=HX.out.lt;omega)) (fun x hx=>hC1.block x (HCL.out x hx).1 (fun hm=>by
     rcases List.mem_cons.1 hm with h | h
     ·exact (HCL.out x hx).2.1 h
     ·exact (HCL.out x hx).2.2 h)) hBE (fun x hx=>by
     rcases HK1.out x hx with h | h
     ·exact HBK.out x h
     ·have:=HX.out.lt;omega) (fun x hx=>⟨(HCL.out x hx).2.1,fun hm=>by
      rcases HK1.out x hm with h | h
      ·exact (HCL.out x hx).2.2 h
      ·have:=(HCL.out x hx).1;omega⟩) HX1.out HF1.out.1
   obtain ⟨Fk,hFk⟩:∃ x,x=F k:=⟨_,rfl⟩;obtain ⟨ck9,hck9⟩:∃ x,x=caps k:=⟨_,rfl⟩;have eF:=(HT.out k hlt).1;rw [← hFk,← hck9] at ck CT;rw [← hFk] at eF;unfold zh5 at eF;obtain ⟨oc,hoc⟩:∃ x,x=f k d1:=⟨_,rfl⟩;have HOC:=hid hoc;rw [← hoc] at CT
   have HF2:Hid (zlJ oc (zh6 f fit m (k+1))):=by rw [hoc];exact HF1.out.2
   have HO2:Hid (runO f n 0 d=oc.next (runO f m (k+1))):=by rw [hoc];exact HO.out
   clear hC1 hFk hck9 hoc
   cases oc with
   | cut d2=>
    go_wp2_with (go_at_fn Fk;refine CT.mono ?_;rintro e w5 ⟨rfl,K5,X5,s5,C5⟩)
    exact ⟨rfl,by
     rw [HO2.out]
     exact RunP.after (rv:=fun c=>.int .i64 c) (o:=.cut d2) HK1.out HC1.out ⟨rfl,K5,X5,s5,C5⟩⟩
   | done c d2=>
    by_cases hc0:c=0
    ·subst hc0
     go_wp2_with (go_at_fn Fk;refine CT.mono ?_;rintro e w5 ⟨rfl,K5,X5,s5,C5⟩)
     go_roundw
     case rel=>exact ⟨k+1,m,d2,K5,by omega,by go_num,X5,fun x hx=>by
      rcases s5 x hx with h | h
      ·exact HK1.out x h
      ·exact .inr (by omega),zc3 HC1.out HK1.out C5,HF2.out rfl,by rw [HO2.out];simp [Outc.next]⟩
     case measure=>simp [intOf];omega
    ·have hne:(c != 0)=true:=by simpa using hc0
     have HNE:=hid hc0;clear hc0
     go_wp2_with (go_at_fn Fk;refine CT.mono ?_;rintro e w5 ⟨rfl,K5,X5,s5,C5⟩)
     go_ret;rw [HO2.out]
     have e:(Outc.done c d2).next (runO f m (k+1))=.done c d2:=by simp [Outc.next,HNE.out]
     rw [e];exact RunP.after (rv:=fun c=>.int .i64 c) (o:=.done c d2) HK1.out HC1.out ⟨rfl,K5,X5,s5,C5⟩
set_option maxRecDepth 20000 in
theorem zdw (T:Nat) (hT:T<2) (r:RecD) (o6 o7 o8:Option Addr) (k6 k7 k8 hi:Nat) (hsr:zaG r≤1048576) (a1 a2 B:Nat) (w0:World) (h1:w0.cell? ⟨a1,0,none⟩=some (.int .i64 (T:Int))) (h2:Box w0 a2 #[.int .i64 r.kind,.int .i64 r.seq,.string r.name,.int .i64 r.length,.int .i64 r.group,.int .i64 r.row,.slice o6 r.rows.1 k6,.slice o7 r.data.1 k7,.slice o8 r.delta.1 k8] 72) (hr:zab.rd w0 hi r [.int .i64 r.kind,.int .i64 r.seq,.string r.name,.int .i64 r.length,.int .i64 r.group,.int .i64 r.row,.slice o6 r.rows.1 k6,.slice o7 r.data.1 k7,.slice o8 r.delta.1 k8]) (CL:List Nat) (l1:a1∈CL) (l2:a2∈CL) (l3:hi≤B) :
 znA 186 #[.pointer (some ⟨a1,0,none⟩),.pointer (some ⟨a2,0,none⟩)] (zaK r T) (Fit3 1) B CL w0:=by
 refine ⟨zh7 Tryz.func186 (by kernel_rfl) (by kernel_rfl),fun w E d K hB hCL hBE hBK hNE hX hf=>?_⟩
 show Calls Tryz.prog 186 #[.pointer (some ⟨E,0,none⟩),.pointer (some ⟨a1,0,none⟩),.pointer (some ⟨a2,0,none⟩)] w _
 have g1:=(World.cell?_of_block (a:=⟨a1,0,none⟩) (hCL a1 l1)).trans h1;have g2:Box w a2 (rwR r o6 k6 o7 k7 o8 k8).toArray 72:=(hCL a2 l2).trans h2;have CR:=zky E d K T r o6 o7 o8 k6 k7 k8 hi w hX (by have:=hf.two;omega) (by have:=hf.few T hT;omega) (zab.rd_below hr hB l3) (by omega) hsr (by have:=hf.low;have:=hf.room;omega);obtain ⟨oc,hoc⟩:∃ x,x=zaK r T d:=⟨_,rfl⟩
 have e1:rawO (fun d=>zbR d T r) d=oc:=by rw [hoc];rfl
 rw [e1] at CR;rw [← hoc];have HOC:=hid hoc;clear hX hf hBK h1 h2 hB hr hoc e1 hCL hNE
 go_enter Tryz.func186,Tryz.ntmps186
 cases oc with
 | cut d2=>
  go_wp2_with (first | (refine zai 72 (.tmp 2) rfl rfl (a2) rfl (g2) Tryz.underlying72 zci rfl ?_) | (go_at_call 187;refine CR.mono ?_;rintro e w5 ⟨rfl,K5,X5,s5,C5⟩))
  exact ⟨rfl,rfl,K5,X5,s5,C5⟩
 | done c d2=>
  have c0:c=0:=zdR HOC.out.symm;subst c0
  go_wp2_with (first | (refine zai 72 (.tmp 2) rfl rfl (a2) rfl (g2) Tryz.underlying72 zci rfl ?_) | (go_at_call 187;refine CR.mono ?_;rintro e w5 ⟨rfl,K5,X5,s5,C5⟩))
  go_ret;exact ⟨rfl,K5,X5,s5,C5⟩
theorem zkz {ops:Array Oper} {o:Oper} {a:Act} {w:World} {K:Act→World→Prop} {Q:Exit→Act→World→Prop} {E:Prop}
 (hg:o.guard=none) (n:Nat) (args:Array Operand) (ty:Array TypeId) (hop:o.op=Op.call { callee:=Callee.value (.func n),args:=args,argTypes:=ty }) (vals:Array Value) (hv:args.map a.eval=vals)
 {fn : Func} (hfn : Tryz.prog.funcs[n]? = some fn) (hnm : (fn.name == "runtime.NumGoroutine") = false) (hbd : fn.body.isSome = true)
 {R:Ending→World→Prop} (hc:Calls Tryz.prog n vals w R) (hK:∀ e w',R e w'→∃ c,e=.panicked c∧Q (.panic c) a w') :
 if Region.wanted o (yielded ops a.tmps)=true then Oper.wp Tryz.prog o a w K Q else E:=by
 have hw:Region.wanted o (yielded ops a.tmps)=true:=by simp [Region.wanted,hg]
 have hn' : ¬ fn.name = "runtime.NumGoroutine" := by simpa using hnm
 have hb':¬ fn.body=none:=by intro h;rw [h] at hbd;cases hbd
 rw [if_pos hw];unfold Oper.wp
 simp [execOp,hop,resolve,invoke,Act.eval,Result.andThen,Deferred.ofValue,callFunc,Oper.upon,hv,hfn,hn',hb']
 refine hc.mono fun e w' h=>?_;obtain ⟨c,rfl,hk⟩:=hK e w' h;exact hk
theorem zgi {r:RecD} {d:WorldD}:∀ (m k:Nat) (d:WorldD) (c:Int) (d':WorldD),runO (zaK r) m k d=.done c d'→c=0:=zjD (fun k d c d' h=>zdR h)
theorem zgj (r:RecD):∀ (m k:Nat) (d:WorldD),k+m≤2→Fit3 m d→zh6 (zaK r) (fun _=>Fit3 1) m k d
 | 0,_,_,_,_=>trivial
 | m+1,k,d,h,hf=>by
  refine ⟨hf.less (by omega),?_⟩
  cases e:zaK r k d with
  | cut x=>trivial
  | done c x=>exact fun _=>zgj r m (k+1) x (by omega) (zfH hf (by omega) e)
def RunN (C:List Nat) (rv:Int→Value) (o:Outc) (E:Nat) (w:World) (K:List Nat) (e:Ending) (w':World):Prop:=match o with
 | .done c d=>e=.returned (rv c)∧∃ K',EncB w' E d K'∧(∀ b,b∈K'→b∈K∨w.heap.size≤b)∧ChgL (E::(C++K)) w w'
 | .cut d=>e=.panicked [{ v:=.iface 275 (.agg #[]),recovered:=false }]∧∃ K',EncF w' E d K'∧(∀ b,b∈K'→b∈K∨w.heap.size≤b)∧ChgL (E::(C++K)) w w'
def TaskX (F:Nat) (caps:Array Value) (f:WorldD→Outc) (fit:WorldD→Prop) (B:Nat) (C:List Nat) (w0:World):Prop:=
 zh5 F∧∀ (w:World) (E:Nat) (d:WorldD) (K:List Nat),Below B w0 w→B≤E→(∀ b,b∈K→B≤b)→EncB w E d K→fit d→Calls Tryz.prog F (#[.pointer (some ⟨E,0,none⟩)]++caps) w (RunN C (fun c=>.int .i64 c) (f d) E w K)
theorem TaskX.later {F:Nat} {caps:Array Value} {f:WorldD→Outc} {fit:WorldD→Prop} {B B':Nat} {C:List Nat} {w0 w1:World} (h:TaskX F caps f fit B C w0) (hb:Below B w0 w1) (hB:B≤B'):TaskX F caps f fit B' C w1:=
 ⟨h.1,fun w E d K h1 h2 h3 h4 h5=>h.2 w E d K (hb.trans (h1.mono hB)) (by omega) (fun b hk=>by have:=h3 b hk;omega) h4 h5⟩
set_option maxRecDepth 20000 in
theorem zkA (F:Nat) (caps:Array Value) (f:WorldD→Outc) (fit:WorldD→Prop) (B b off cap:Nat) (C:List Nat) (w:World) (E:Nat) (d:WorldD) (K:List Nat)
 (hT:TaskX F caps f fit B C w) (hc:w.cell? ⟨b,off,none⟩=some (.func (.func F) #[] caps)) (hb:b<w.heap.size) (hBE:B≤E) (hBK:∀ b,b∈K→B≤b) (hX:EncB w E d K) (hf:fit d) :
 Calls Tryz.prog 84 #[.pointer (some ⟨E,0,none⟩),.slice (some ⟨b,off,none⟩) 1 cap] w (RunN C (fun c=>.int .i64 c) (f d) E w K):=by
 have CT:=hT.2 w E d K (Below.refl _ _) hBE hBK hX hf;have eF:=hT.1;unfold zh5 at eF;have HX:=hid hX;obtain ⟨oc,hoc⟩:∃ x,x=f d:=⟨_,rfl⟩;rw [← hoc] at CT ⊢;have ck:w.cell? ⟨b,off,none⟩=some (.func (.func F) #[] caps):=hc;have HCT:=hid CT;clear hX hT hBK hf hoc hc CT
 go_enter Tryz.func84,Tryz.ntmps84
 go_wp2
 go_loopw [10] (fun i wr=>(i=.int .i64 0∧wr=w)∨(i=.int .i64 1∧∃ d2 K5,oc=.done 0 d2∧EncB wr E d2 K5∧(∀ x,x∈K5→x∈K∨w.heap.size≤x)∧ChgL (E::(C++K)) w wr)) (fun i _=>1-(intOf i).toNat)
 case atStart=>exact .inl ⟨rfl,rfl⟩
 case round=>
  rcases hrel with ⟨rfl,rfl⟩ | ⟨rfl,d2,K5,hoc,X5,s5,C5⟩
  ·have CT:=HCT.out
   cases oc with
   | cut d2=>
    go_wp2_with (go_at_fn F;refine CT.mono ?_;rintro e w5 ⟨rfl,K5,X5,s5,C5⟩)
    exact ⟨rfl,rfl,K5,X5,s5,C5⟩
   | done c d2=>
    by_cases hc0:c=0
    ·subst hc0
     go_wp2_with (go_at_fn F;refine CT.mono ?_;rintro e w5 ⟨rfl,K5,X5,s5,C5⟩)
     go_roundw
     case rel=>exact .inr ⟨by go_num,d2,K5,rfl,X5,s5,C5⟩
     case measure=>simp [intOf]
    ·have hne:(c != 0)=true:=by simpa using hc0
     clear hc0
     go_wp2_with (go_at_fn F;refine CT.mono ?_;rintro e w5 ⟨rfl,K5,X5,s5,C5⟩)
     go_ret;exact ⟨rfl,K5,X5,s5,C5⟩
  ·subst hoc
   go_wp2;go_ret;exact ⟨rfl,K5,X5,s5,C5⟩
def CarN (C:List Nat) (o:Outc) (E cb:Nat) (w:World) (K:List Nat) (e:Ending) (w':World):Prop:=match o with
 | .done c d=>e=.returned (.tuple #[])∧∃ K',EncB w' E d K'∧(∀ b,b∈K'→b∈K∨w.heap.size≤b)∧Box w' cb #[.int .i64 c] 2∧ChgL (E::cb::(C++K)) w w'
 | .cut d=>e=.panicked [{ v:=.iface 275 (.agg #[]),recovered:=false }]∧∃ K',EncF w' E d K'∧(∀ b,b∈K'→b∈K∨w.heap.size≤b)∧ChgL (E::(C++K)) w w'
theorem zfY (F:Nat) (caps:Array Value) (f:WorldD→Outc) (fit:WorldD→Prop) (B b off cap tb cb:Nat) (C:List Nat) (w:World) (E:Nat) (d:WorldD) (K:List Nat)
 (hT:TaskX F caps f fit B C w) (hc:w.cell? ⟨b,off,none⟩=some (.func (.func F) #[] caps)) (hb:b<w.heap.size) (hBE:B≤E) (hBK:∀ b,b∈K→B≤b) (hX:EncB w E d K) (hf:fit d)
 (htb:w.cell? ⟨tb,0,none⟩=some (.slice (some ⟨b,off,none⟩) 1 cap)) (hcb:Box w cb #[.int .i64 0] 2) (hcE:cb≠E∧cb∉C++K) :
 Calls Tryz.prog 83 #[.pointer (some ⟨E,0,none⟩),.pointer (some ⟨tb,0,none⟩),.pointer (some ⟨cb,0,none⟩)] w (CarN C (f d) E cb w K):=by
 have CR:=zkA F caps f fit B b off cap C w E d K hT hc hb hBE hBK hX hf;have HCE:=hid hcE;have HCB:=hid hcb;obtain ⟨oc,hoc⟩:∃ x,x=f d:=⟨_,rfl⟩;rw [← hoc] at CR ⊢;clear hT hc hb hBE hBK hX hf hcE hcb hoc
 go_enter Tryz.func83,Tryz.ntmps83
 cases oc with
 | cut d2=>
  go_wp2_with (go_at_call 84;refine CR.mono ?_;rintro e w5 ⟨rfl,K5,X5,s5,C5⟩)
  exact ⟨rfl,rfl,K5,X5,s5,C5⟩
 | done c d2=>
  go_wp2_with (go_at_call 84;refine CR.mono ?_;rintro e w5 ⟨rfl,K5,X5,s5,C5⟩;have cb5:=HCB.out.chgl C5 (fun hm=>by rcases List.mem_cons.1 hm with h | h;exact HCE.out.1 h;exact HCE.out.2 h);have cx0:=cb5.cell 0;have cy0:=cb5.frozen 0)
  go_end0
  have hcl:=HCB.out.lt
  have ncb:cb∉K5:=fun hm=>by
   rcases s5 cb hm with h | h
   ·exact HCE.out.2 (List.mem_append_right _ h)
   ·omega
  have CS:ChgL [cb] w5 (w5.setCell ⟨cb,0,none⟩ (.int .i64 c)):=ChgL.store _ _ _ _ _ (by simp)
  refine ⟨rfl,K5,?_,s5,cb5.setc 0 _,(C5.mono (fun x hx=>by
   rcases List.mem_cons.1 hx with h | h
   ·simp [h]
   ·exact List.mem_cons_of_mem _ (List.mem_cons_of_mem _ h))).trans (CS.mono (fun x hx=>by simp at hx;simp [hx]))⟩
  obtain ⟨cs5,B5,O5⟩:=X5;exact ⟨cs5,B5.chgl CS (by simp;exact fun h=>HCE.out.1 h.symm),Lay.own_chgL _ O5.own CS (fun x hx hm=>by simp at hm;exact ncb (hm ▸ hx)),O5.nd,O5.ne⟩
theorem zg5:(Tryz.prog.info? 74).map (·.size)=some 2:=by kernel_rfl
theorem zlP (a b:Int):∀ v,v∈([.int .i64 a,.int .i64 b]:List Value)→v.oneCell'=true:=fun v hv=>by
 simp at hv
 rcases hv with rfl | rfl<;>rfl
def zg6 (n:Nat) (y:Nat→RecD):Int:=if n=0 then 0 else (y (n-1)).seq
def zgk (n:Nat) (y:Nat→RecD):Int:=IntKind.i64.wrap (zg6 n y+1)
def znB (tp:Nat→TapeD) (w:World) (e:Ending) (w':World):Prop:=∃ l c x,Cnt (recT tp 2) (lenT tp 2) l∧((1000000000<zgk l.length (fun i=>recT tp 2 (l.getD i 0))∧c=2∧x=0)∨(¬ 1000000000<zgk l.length (fun i=>recT tp 2 (l.getD i 0))∧c=0∧x=zgk l.length (fun i=>recT tp 2 (l.getD i 0))))∧e=.returned (.agg #[.int .i64 c,.int .i64 x])∧Below w.heap.size w w'
set_option maxRecDepth 20000 in
theorem zlQ (v:Value) (n:Nat) (y:Nat→RecD) (hi:Nat) (w:World) (h:(zab.slice 72).rd w hi (n,y) [v]) (hn:n≤1000000000) :
 Calls Tryz.prog 126 #[v] w (fun e w'=>e=.returned (.int .i64 (zg6 n y))∧w'=w):=by
 obtain ⟨ao,cap,e,hmm,hc⟩:=h
 obtain rfl:v=.slice ao n cap:=by simpa using e
 have hc':n≠0→∃ b off,ao=some ⟨b,off,none⟩∧b<hi∧∀ i,i<n→∃ ce,zab.rd w hi (y i) ce∧∀ j,j<zab.sz→w.cell? ⟨b,off+(i*zab.sz+j),none⟩=ce[j]?:=hc;clear e hmm hc
 by_cases h0:n=0
 ·subst h0
  have e1:zg6 0 y=0:=rfl;rw [e1];clear hc' e1
  go_enter Tryz.func126,Tryz.ntmps126
  go_wp2;go_ret;exact ⟨rfl,rfl⟩
 ·obtain ⟨b,off,rfl,hb,hel⟩:=hc' h0
  obtain ⟨m,rfl⟩:∃ m,n=m+1:=⟨n-1,by omega⟩;obtain ⟨ce,hr,hcell⟩:=hel m (by omega);obtain ⟨a6,ak6,a7,ak7,a8,ak8,rfl,-⟩:=zaO hr
  have s1:w.cell? ⟨b,off+m*9+1,none⟩=some (.int .i64 (y m).seq):=by have:=hcell 1 (by decide);rw [← Nat.add_assoc] at this;exact this
  have e1:zg6 (m+1) y=(y m).seq:=rfl;rw [e1]
  have wP:IntKind.i64.wrap (((m+1:Nat):Int)-1)=(m:Int):=by rw [IntKind.wrap_i64];omega
  have wA:IntKind.i64.wrap (m:Int)=(m:Int):=by rw [IntKind.wrap_i64];omega
  have i1:(0:Int)≤(m:Int):=by omega
  have i2:(m:Int)<((m+1:Nat):Int):=by omega
  have i3:m<m+1:=by omega
  clear hc' hel hr hcell e1
  go_enter Tryz.func126,Tryz.ntmps126
  go_wp2;go_ret;exact ⟨rfl,rfl⟩
set_option maxRecDepth 20000 in
theorem zfI (v:Value) (n:Nat) (y:Nat→RecD) (hi:Nat) (w:World) (h:(zab.slice 72).rd w hi (n,y) [v]) (hn:n≤1000000000) :
 Calls Tryz.prog 131 #[v] w (fun e w'=>e=.returned (.int .i64 (zg6 n y))∧w'=w):=by
 obtain ⟨ao,cap,e,hmm,hc⟩:=h
 obtain rfl:v=.slice ao n cap:=by simpa using e
 have hc':n≠0→∃ b off,ao=some ⟨b,off,none⟩∧b<hi∧∀ i,i<n→∃ ce,zab.rd w hi (y i) ce∧∀ j,j<zab.sz→w.cell? ⟨b,off+(i*zab.sz+j),none⟩=ce[j]?:=hc;clear e hmm hc
 by_cases h0:n=0
 ·subst h0
  have e1:zg6 0 y=0:=rfl;rw [e1];clear hc' e1
  go_enter Tryz.func131,Tryz.ntmps131
  go_wp2;go_ret;exact ⟨rfl,rfl⟩
 ·obtain ⟨b,off,rfl,hb,hel⟩:=hc' h0
  obtain ⟨m,rfl⟩:∃ m,n=m+1:=⟨n-1,by omega⟩;obtain ⟨ce,hr,hcell⟩:=hel m (by omega);obtain ⟨a6,ak6,a7,ak7,a8,ak8,rfl,-⟩:=zaO hr
  have s1:w.cell? ⟨b,off+m*9+1,none⟩=some (.int .i64 (y m).seq):=by have:=hcell 1 (by decide);rw [← Nat.add_assoc] at this;exact this
  have e1:zg6 (m+1) y=(y m).seq:=rfl;rw [e1]
  have wP:IntKind.i64.wrap (((m+1:Nat):Int)-1)=(m:Int):=by rw [IntKind.wrap_i64];omega
  have wA:IntKind.i64.wrap (m:Int)=(m:Int):=by rw [IntKind.wrap_i64];omega
  have i1:(0:Int)≤(m:Int):=by omega
  have i2:(m:Int)<((m+1:Nat):Int):=by omega
  have i3:m<m+1:=by omega
  clear hc' hel hr hcell e1
  go_enter Tryz.func131,Tryz.ntmps131
  go_wp2;go_ret;exact ⟨rfl,rfl⟩
set_option maxRecDepth 20000 in
theorem zjb (tp:Nat→TapeD) (v:Value) (hi:Nat) (w:World) (h:(zah.slice 112).rd w hi (2,tp) [v]) (hhi:hi≤w.heap.size) (hn0:(tp 0).recs.1≤400000) (hn1:(tp 1).recs.1≤400000) :
 Calls Tryz.prog 86 #[v] w (znB tp w):=by
 have B0:=zaI w #[.int .i64 0,.int .i64 0] 74;have CC:=zd8 tp v hi (w.alloc (.cells #[.int .i64 0,.int .i64 0] 74)) (Lay.rd_below _ h B0.bel hhi) (Nat.le_trans hhi B0.bel.size) hn0 hn1;clear h
 go_enter Tryz.func86,Tryz.ntmps86
 go_wp2_with fail
 refine CC.mono ?_;rintro e w2 ⟨v2,l,ce,lo,rfl,hCt,hlo,V,b2⟩;have HL:=hid hCt;have HO:=hid (B0.call b2);have z2:=HO.out.b1.lt
 have hlen:l.length≤1000000000:=by
  have h1:=(hCt.sum (fun _=>0)).2
  have e2:lenT tp 2=(tp 0).recs.1+(tp 1).recs.1:=by simp [lenT]
  omega
 have CT:=zfI v2 l.length (fun i=>recT tp 2 (l.getD i 0)) w2.heap.size w2 (V.rd (by have:=b2.size;have:=B0.bel.size;omega)) hlen;obtain ⟨a2,c2,rfl⟩:=V.form;clear V b2 hCt CC B0 hlo
 go_wp2_with fail
 refine CT.mono ?_;rintro e w3 ⟨rfl,e3⟩;obtain rfl:=e3.symm;obtain ⟨t,ht⟩:∃ t,t=zg6 l.length (fun i=>recT tp 2 (l.getD i 0)):=⟨_,rfl⟩;rw [← ht];obtain ⟨u,hu⟩:∃ u,u=IntKind.i64.wrap (t+1):=⟨_,rfl⟩
 have HU:Hid (u=zgk l.length (fun i=>recT tp 2 (l.getD i 0))):=by rw [hu,ht];exact rfl
 have hu':IntKind.i64.wrap (t+1)=u:=hu.symm;clear CT ht hu
 by_cases hb:1000000000<u
 ·go_wp2_with (refine zaF 74 _ _ rfl rfl (w.heap.size) rfl (cs:=[.int .i64 2,.int .i64 0]) rfl (HO.out.b1) zg5 rfl rfl (zlP _ _) ?_;intro w9 X9 C9 z9)
  refine zbl Tryz.results86 rfl X9 Tryz.underlying74 zg5 rfl rfl ?_;have zz:=C9.size;exact ⟨l,2,0,HL.out,.inl ⟨by rw [← HU.out];exact hb,rfl,rfl⟩,rfl,HO.out.bel.trans (C9.bel (fun b hb=>by simp at hb;omega) HO.out.bel.size)⟩
 ·have hd:decide (1000000000<u)=false:=decide_eq_false hb
  go_wp2_with (refine zaF 74 _ _ rfl rfl (w.heap.size) rfl (cs:=[.int .i64 0,.int .i64 u]) rfl (HO.out.b1) zg5 rfl rfl (zlP _ _) ?_;intro w9 X9 C9 z9)
  refine zbl Tryz.results86 rfl X9 Tryz.underlying74 zg5 rfl rfl ?_;have zz:=C9.size;exact ⟨l,0,u,HL.out,.inr ⟨by rw [← HU.out];omega,rfl,HU.out⟩,rfl,HO.out.bel.trans (C9.bel (fun b hb=>by simp at hb;omega) HO.out.bel.size)⟩
end Go.Proofs.YtclclojenogpbaaGreat
