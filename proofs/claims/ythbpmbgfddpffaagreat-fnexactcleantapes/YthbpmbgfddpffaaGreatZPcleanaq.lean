/- The work that lays a record, under power and where it fails; withPower over it. -/
import Derived.Shelf.Abstract
import Derived.Test.YthbpmbgfddpffaaGreatZPcleanap
set_option linter.unusedVariables false
set_option linter.unusedSimpArgs false
set_option maxHeartbeats 16000000
namespace Go.Proofs.YthbpmbgfddpffaaGreat
open Go.RowKit F256
inductive Outc where
 | done (c:Int) (d:WorldD)
 | cut (d:WorldD)
def rawO (ch:WorldD→WorldD) (d:WorldD):Outc:=if d.stop≠-1∧d.stop≤d.writes then .cut d else .done 0 { ch d with writes:=d.writes+1 }
def Outc.next (o:Outc) (f:WorldD→Outc):Outc:=match o with
 | .done c d=>if c=0 then f d else .done c d
 | .cut d=>.cut d
def runO (f:Nat→WorldD→Outc):Nat→Nat→WorldD→Outc
 | 0,_,d=>.done 0 d
 | m+1,k,d=>(f k d).next (runO f m (k+1))
def EncB (w:World) (E:Nat) (d:WorldD) (K:List Nat):Prop:=∃ cs,Box w E (([.int .i32 0,.int .u32 0,.int .u32 0,.int .i32 0,.int .u32 0]:List Value)++cs).toArray 110∧EncO w E d cs K
def EncF (w:World) (E:Nat) (d:WorldD) (K:List Nat):Prop:=∃ cs,Box w E (([.int .i32 0,.int .u32 0,.int .u32 1,.int .i32 0,.int .u32 0]:List Value)++cs).toArray 110∧EncO w E (cutW d) cs K
def RunP (rv:Int→Value) (o:Outc) (E:Nat) (w:World) (K:List Nat) (e:Ending) (w':World):Prop:=match o with
 | .done c d=>e=.returned (rv c)∧∃ K',EncB w' E d K'∧(∀ b,b∈K'→b∈K∨w.heap.size≤b)∧ChgL (E::K) w w'
 | .cut d=>e=.panicked [{ v:=.iface 215 (.agg #[]),recovered:=false }]∧∃ K',EncF w' E d K'∧(∀ b,b∈K'→b∈K∨w.heap.size≤b)∧ChgL (E::K) w w'
theorem EncB.lt {w:World} {E:Nat} {d:WorldD} {K:List Nat} (h:EncB w E d K):E<w.heap.size:=by
 obtain ⟨cs,h1,_⟩:=h;exact h1.lt
theorem EncB.Klt {w:World} {E:Nat} {d:WorldD} {K:List Nat} (h:EncB w E d K):∀ b,b∈K→b<w.heap.size:=by
 obtain ⟨cs,_,h2⟩:=h;exact fun b hb=>zae.own_lt h2.own b hb
theorem EncB.below {w w':World} {E:Nat} {d:WorldD} {K:List Nat} (h:EncB w E d K) (hb:Below w.heap.size w w'):EncB w' E d K:=by
 obtain ⟨cs,h1,h2⟩:=h;exact ⟨cs,h1.below hb h1.lt,Lay.own_kept _ h2.own (fun b hk=>hb.block b (zae.own_lt h2.own b hk)),h2.nd,h2.ne⟩
theorem zcj {E:Nat} {K K1:List Nat} {w w1 w2:World} (h:ChgL (E::K) w w1) (hk:∀ b,b∈K1→b∈K∨w.heap.size≤b) (h2:ChgL (E::K1) w1 w2):ChgL (E::K) w w2:=
 ⟨h2.os.trans h.os,h2.tape.trans h.tape,h2.output.trans h.output,Nat.le_trans h.size h2.size,fun b hb hn=>by
  refine (h2.block b (Nat.lt_of_lt_of_le hb h.size) (fun hm=>?_)).trans (h.block b hb hn)
  rcases List.mem_cons.1 hm with rfl | hm
  ·exact hn (List.mem_cons_self ..)
  ·rcases hk b hm with h3 | h3
   ·exact hn (List.mem_cons_of_mem _ h3)
   ·omega⟩
theorem RunP.after {rv:Int→Value} {o:Outc} {E:Nat} {w w1 w2:World} {K K1:List Nat} {e:Ending} (hk:∀ b,b∈K1→b∈K∨w.heap.size≤b) (hc:ChgL (E::K) w w1) (h:RunP rv o E w1 K1 e w2):RunP rv o E w K e w2:=by
 have hz:=hc.size
 cases o with
 | done c d=>
  obtain ⟨h1,K',h2,h3,h4⟩:=h
  exact ⟨h1,K',h2,fun b hb=>by
   rcases h3 b hb with h | h
   ·exact hk b h
   ·exact .inr (by omega),zcj hc hk h4⟩
 | cut d=>
  obtain ⟨h1,K',h2,h3,h4⟩:=h
  exact ⟨h1,K',h2,fun b hb=>by
   rcases h3 b hb with h | h
   ·exact hk b h
   ·exact .inr (by omega),zcj hc hk h4⟩
def ziy (F:Nat):Prop:=∀ (args:Array Value) (w:World),(callFunc F args).run Tryz.prog w=.ok (.enter F args) w
def TaskV (F:Nat) (caps:Array Value) (f:WorldD→Outc) (fit:WorldD→Prop) (B:Nat) (w0:World):Prop:=
 ziy F∧∀ (w:World) (E:Nat) (d:WorldD) (K:List Nat),Below B w0 w→B≤E→(∀ b,b∈K→B≤b)→EncB w E d K→fit d→Calls Tryz.prog F (#[.pointer (some ⟨E,0,none⟩)]++caps) w (RunP (fun c=>.int .i64 c) (f d) E w K)
theorem TaskV.later {F:Nat} {caps:Array Value} {f:WorldD→Outc} {fit:WorldD→Prop} {B B':Nat} {w0 w1:World} (h:TaskV F caps f fit B w0) (hb:Below B w0 w1) (hB:B≤B'):TaskV F caps f fit B' w1:=
 ⟨h.1,fun w E d K h1 h2 h3 h4 h5=>h.2 w E d K (hb.trans (h1.mono hB)) (by omega) (fun b hk=>by have:=h3 b hk;omega) h4 h5⟩
def zfY (o:Outc) (P:WorldD→Prop):Prop:=match o with
 | .done c d=>c=0→P d
 | .cut _=>True
def zdN (f:Nat→WorldD→Outc) (fit:Nat→WorldD→Prop):Nat→Nat→WorldD→Prop
 | 0,_,_=>True
 | m+1,k,d=>fit k d∧zfY (f k d) (zdN f fit m (k+1))
set_option maxRecDepth 20000 in
theorem zk6 (F:Nat→Nat) (caps:Nat→Array Value) (f:Nat→WorldD→Outc) (fit:Nat→WorldD→Prop) (B n b off cap:Nat) (w:World) (E:Nat) (d:WorldD) (K:List Nat)
 (hT:∀ i,i<n→TaskV (F i) (caps i) (f i) (fit i) B w) (hc:∀ i,i<n→w.cell? ⟨b,off+i,none⟩=some (.func (.func (F i)) #[] (caps i))) (hb:b<w.heap.size) (hbE:b≠E∧b∉K) (hBE:B≤E) (hBK:∀ b,b∈K→B≤b) (hn:n≤1000000) (hX:EncB w E d K) (hf:zdN f fit n 0 d) :
 Calls Tryz.prog 48 #[.pointer (some ⟨E,0,none⟩),.slice (some ⟨b,off,none⟩) n cap] w (RunP (fun c=>.int .i64 c) (runO f n 0 d) E w K):=by
 have HX:=hid hX;have HT:=hid hT;have HBE:=hid hbE;have HBK:=hid hBK;have HF:=hid hf;have HC:=hid hc;clear hX hT hbE hBK hf hc
 go_enter Tryz.func48,Tryz.ntmps48
 go_wp2
 go_loopw [10] (fun i wr=>∃ (k m:Nat) (d1:WorldD) (K1:List Nat),k+m=n∧i=.int .i64 k∧EncB wr E d1 K1∧(∀ x,x∈K1→x∈K∨w.heap.size≤x)∧ChgL (E::K) w wr∧zdN f fit m k d1∧runO f n 0 d=runO f m k d1) (fun i _=>n-(intOf i).toNat)
 case atStart=>exact ⟨0,n,d,K,by omega,rfl,HX.out,fun x hx=>.inl hx,ChgL.refl _ _,HF.out,rfl⟩
 case round=>
  obtain ⟨k,m,d1,K1,hkm,rfl,hX1,hK1,hC1,hf1,ho⟩:=hrel;have HX1:=hid hX1;have HK1:=hid hK1;have HC1:=hid hC1;have HO:=hid ho;have HF1:=hid hf1;have zr:=hC1.size;clear hX1 hK1 hf1 ho
  cases m with
  | zero=>
   obtain rfl:k=n:=by omega
   clear hC1 hkm;go_wp2;go_ret;rw [HO.out];exact ⟨rfl,K1,HX1.out,HK1.out,HC1.out⟩
  | succ m=>
   have hlt:k<n:=by omega
   have t1:(k:Int)<(n:Int):=by omega
   have ck:wr.cell? ⟨b,off+k,none⟩=some (.func (.func (F k)) #[] (caps k)):=(World.cell?_of_block (hC1.block b hb (fun hm=>by
    rcases List.mem_cons.1 hm with h | h
    ·exact HBE.out.1 h
    ·exact HBE.out.2 h))).trans (HC.out k hlt)
   have CT:=(HT.out k hlt).2 wr E d1 K1 (hC1.bel (fun x hx=>by
    rcases List.mem_cons.1 hx with rfl | h
    ·exact hBE
    ·exact HBK.out x h) (by have:=HX.out.lt;omega)) hBE (fun x hx=>by
     rcases HK1.out x hx with h | h
     ·exact HBK.out x h
     ·have:=HX.out.lt;omega) HX1.out HF1.out.1
   obtain ⟨Fk,hFk⟩:∃ x,x=F k:=⟨_,rfl⟩;obtain ⟨ck9,hck9⟩:∃ x,x=caps k:=⟨_,rfl⟩;have eF:=(HT.out k hlt).1;rw [← hFk,← hck9] at ck CT;rw [← hFk] at eF;unfold ziy at eF;obtain ⟨oc,hoc⟩:∃ x,x=f k d1:=⟨_,rfl⟩;have HOC:=hid hoc;rw [← hoc] at CT
   have HF2:Hid (zfY oc (zdN f fit m (k+1))):=by rw [hoc];exact HF1.out.2
   have HO2:Hid (runO f n 0 d=oc.next (runO f m (k+1))):=by rw [hoc];exact HO.out
   clear hC1 hFk hck9 hoc
   cases oc with
   | cut d2=>
    go_wp2_with (go_at_fn Fk;refine CT.mono ?_;rintro e w5 ⟨rfl,K5,X5,s5,C5⟩)
    exact ⟨rfl,by
     rw [HO2.out]
     exact RunP.after (rv:=fun c=>.int .i64 c) (o:=.cut d2) HK1.out HC1.out ⟨rfl,K5,X5,s5,C5⟩⟩
   | done c d2=>
    by_cases hc0:c=0
    ·subst hc0
     go_wp2_with (go_at_fn Fk;refine CT.mono ?_;rintro e w5 ⟨rfl,K5,X5,s5,C5⟩)
     go_roundw
     case rel=>exact ⟨k+1,m,d2,K5,by omega,by go_num,X5,fun x hx=>by
      rcases s5 x hx with h | h
      ·exact HK1.out x h
      ·exact .inr (by omega),zcj HC1.out HK1.out C5,HF2.out rfl,by rw [HO2.out];simp [Outc.next]⟩
     case measure=>simp [intOf];omega
    ·have hne:(c != 0)=true:=by simpa using hc0
     have HNE:=hid hc0;clear hc0
     go_wp2_with (go_at_fn Fk;refine CT.mono ?_;rintro e w5 ⟨rfl,K5,X5,s5,C5⟩)
     go_ret;rw [HO2.out]
     have e:(Outc.done c d2).next (runO f m (k+1))=.done c d2:=by simp [Outc.next,HNE.out]
     rw [e];exact RunP.after (rv:=fun c=>.int .i64 c) (o:=.done c d2) HK1.out HC1.out ⟨rfl,K5,X5,s5,C5⟩
theorem ziz {F : Nat} {fn : Func} (hfn : Tryz.prog.funcs[F]? = some fn) (hnm : (fn.name == "runtime.NumGoroutine") = false) (hbd : fn.body.isSome = true) : ziy F := fun args w => by
 have hn' : ¬ fn.name = "runtime.NumGoroutine" := by simpa using hnm
 have hb':¬ fn.body=none:=by intro h;rw [h] at hbd;cases hbd
 simp [callFunc,hfn,hn',hb']
theorem zk7 (E:Nat) (d:WorldD) (K:List Nat) (T:Nat) (kd sq:Int) (w:World) (hX:EncB w E d K) (hT:T<d.tapes.1) (hn:(d.tapes.2 T).recs.1≤1048576) (hwr:-9223372036854775808≤d.writes∧d.writes+1≤9223372036854775807) :
 Calls Tryz.prog 96 #[.pointer (some ⟨E,0,none⟩),.int .i64 (T:Int),.int .i64 kd,.int .i64 sq] w (RunP (fun _=>.tuple #[]) (rawO (fun d=>zcP d T kd sq) d) E w K):=by
 obtain ⟨cs,hB,hO⟩:=hX;obtain ⟨v0,v1,v2,v3,v4,v5,v6,v7,v8,vp0,vl0,vq0,vp1,vl1,vq1,vp2,vl2,vq2,v9,v10,vb,rfl⟩:=zcu hO.own;have st:=zmf hO.own;have wt:=zex hO.own
 by_cases hf:d.stop≠-1∧d.stop≤d.writes
 ·unfold rawO
  rw [if_pos hf];obtain ⟨KC,kc1,kc2,kc3⟩:=zj6 hO.own hO.nd;refine (zjx E v0 v1 v2 v3 v4 v5 v6 v7 v8 vp0 vl0 vq0 vp1 vl1 vq1 vp2 vl2 vq2 v9 v10 vb d K T kd sq w hB (fun x hx=>zae.own_one kc1 x hx) (by rw [st];exact hf.1) (by rw [st,wt];exact hf.2)).mono ?_;rintro e w' ⟨rfl,X5,C5⟩;refine ⟨rfl,KC,⟨_,X5,Lay.own_chgL _ kc1 C5 (fun b hb hm=>?_),kc2,fun hm=>hO.ne (kc3 _ hm)⟩,fun b hb=>.inl (kc3 b hb),C5.mono (fun b hb=>by simp at hb;simp [hb])⟩
  simp at hm
  exact hO.ne (hm ▸ kc3 b hb)
 ·unfold rawO
  rw [if_neg hf];refine (zmh E v0 v1 v2 v3 v4 v5 v6 v7 v8 vp0 vl0 vq0 vp1 vl1 vq1 vp2 vl2 vq2 v9 v10 vb d K T kd sq w hB hO hT hn (by rw [st,wt];exact hf) hwr).mono ?_;rintro e w' ⟨rfl,cs',K',X5,O5,s5,C5⟩;exact ⟨rfl,K',⟨cs',X5,O5⟩,s5,C5⟩
def CarP (o:Outc) (E cb:Nat) (w:World) (K:List Nat) (e:Ending) (w':World):Prop:=match o with
 | .done c d=>e=.returned (.tuple #[])∧∃ K',EncB w' E d K'∧(∀ b,b∈K'→b∈K∨w.heap.size≤b)∧Box w' cb #[.int .i64 c] 2∧ChgL (E::cb::K) w w'
 | .cut d=>e=.panicked [{ v:=.iface 215 (.agg #[]),recovered:=false }]∧∃ K',EncF w' E d K'∧(∀ b,b∈K'→b∈K∨w.heap.size≤b)∧ChgL (E::K) w w'
def Outc.told:Outc→WorldResultD
 | .done _ d=>⟨0,d⟩
 | .cut d=>⟨9,cutW d⟩
def Outc.code:Outc→Int
 | .done c _=>c
 | .cut _=>0
def PowP (o:Outc) (cb:Nat) (w:World) (e:Ending) (w':World):Prop:=∃ cs,e=.returned (.agg cs.toArray)∧OwnT zaC w' w.heap.size w'.heap.size o.told cs∧Box w' cb #[.int .i64 o.code] 2∧ChgL [cb] w w'
theorem zhk (F:Nat→Nat) (caps:Nat→Array Value) (f:Nat→WorldD→Outc) (fit:Nat→WorldD→Prop) (B n b off cap tb cb:Nat) (w:World) (E:Nat) (d:WorldD) (K:List Nat)
 (hT:∀ i,i<n→TaskV (F i) (caps i) (f i) (fit i) B w) (hc:∀ i,i<n→w.cell? ⟨b,off+i,none⟩=some (.func (.func (F i)) #[] (caps i))) (hb:b<w.heap.size) (hbE:b≠E∧b∉K) (hBE:B≤E) (hBK:∀ b,b∈K→B≤b) (hn:n≤1000000) (hX:EncB w E d K) (hf:zdN f fit n 0 d)
 (htb:w.cell? ⟨tb,0,none⟩=some (.slice (some ⟨b,off,none⟩) n cap)) (hcb:Box w cb #[.int .i64 0] 2) (hcE:cb≠E∧cb∉K) :
 Calls Tryz.prog 47 #[.pointer (some ⟨E,0,none⟩),.pointer (some ⟨tb,0,none⟩),.pointer (some ⟨cb,0,none⟩)] w (CarP (runO f n 0 d) E cb w K):=by
 have CR:=zk6 F caps f fit B n b off cap w E d K hT hc hb hbE hBE hBK hn hX hf;have HCE:=hid hcE;have HCB:=hid hcb;obtain ⟨oc,hoc⟩:∃ x,x=runO f n 0 d:=⟨_,rfl⟩;rw [← hoc] at CR ⊢;clear hT hc hb hbE hBE hBK hX hf hcE hcb hoc
 go_enter Tryz.func47,Tryz.ntmps47
 cases oc with
 | cut d2=>
  go_wp2_with (go_at_call 48;refine CR.mono ?_;rintro e w5 ⟨rfl,K5,X5,s5,C5⟩)
  exact ⟨rfl,rfl,K5,X5,s5,C5⟩
 | done c d2=>
  go_wp2_with (go_at_call 48;refine CR.mono ?_;rintro e w5 ⟨rfl,K5,X5,s5,C5⟩;have cb5:=HCB.out.chgl C5 (fun hm=>by rcases List.mem_cons.1 hm with h | h;exact HCE.out.1 h;exact HCE.out.2 h);have cx0:=cb5.cell 0;have cy0:=cb5.frozen 0)
  go_end0
  have hcl:=HCB.out.lt
  have ncb:cb∉K5:=fun hm=>by
   rcases s5 cb hm with h | h
   ·exact HCE.out.2 h
   ·omega
  have CS:ChgL [cb] w5 (w5.setCell ⟨cb,0,none⟩ (.int .i64 c)):=ChgL.store _ _ _ _ _ (by simp)
  refine ⟨rfl,K5,?_,s5,cb5.setc 0 _,(C5.mono (fun x hx=>by
   rcases List.mem_cons.1 hx with h | h
   ·simp [h]
   ·exact List.mem_cons_of_mem _ (List.mem_cons_of_mem _ h))).trans (CS.mono (fun x hx=>by simp at hx;simp [hx]))⟩
  obtain ⟨cs5,B5,O5⟩:=X5;exact ⟨cs5,B5.chgl CS (by simp;exact fun h=>HCE.out.1 h.symm),Lay.own_chgL _ O5.own CS (fun x hx hm=>by simp at hm;exact ncb (hm ▸ hx)),O5.nd,O5.ne⟩
set_option maxRecDepth 100000 in
theorem zjy (d:WorldD) (cs:List Value) (hi tb cb:Nat) (w:World) (h:zae.rd w hi d cs) (hhi:hi≤w.heap.size) (hsz:zbg d≤1048576) (o:Outc) (hcb:Box w cb #[.int .i64 0] 2)
 (HW:∀ (W3:World) (E:Nat) (K:List Nat),Below w.heap.size w W3→w.heap.size≤E→(∀ b,b∈K→w.heap.size≤b)→EncB W3 E d K→Calls Tryz.prog 47 #[.pointer (some ⟨E,0,none⟩),.pointer (some ⟨tb,0,none⟩),.pointer (some ⟨cb,0,none⟩)] W3 (CarP o E cb W3 K)) :
 Calls Tryz.prog 46 #[.agg cs.toArray,.func (.func 47) #[] #[.pointer (some ⟨tb,0,none⟩),.pointer (some ⟨cb,0,none⟩)]] w (PowP o cb w):=by
 obtain ⟨v0,v1,v2,v3,v4,v5,v6,v7,v8,vp0,vl0,vq0,vp1,vl1,vq1,vp2,vl2,vq2,v9,v10,vb,rfl⟩:=zg2 h;have hmf:∀ (fn:Fn) (first cap:Array Value) (w:World),(Instr.makeFunc fn first cap).run Tryz.prog w=.ok (.func fn first cap) w:=fun _ _ _ _=>rfl;have hcl:=hcb.lt;have T0:=zaz w #[.int .i64 v0,.int .i64 v1,.int .i64 v2,.int .i64 v3,.int .i64 v4,.int .i64 v5,.int .i64 v6,.int .i64 v7,.int .i64 v8,.slice vp0 vl0 vq0,.slice vp1 vl1 vq1,.slice vp2 vl2 vq2,.int .i64 v9,.int .i64 v10,.bool vb] #[.int .i64 0,.int .i64 0,.int .i64 0,.int .i64 0,.int .i64 0,.int .i64 0,.int .i64 0,.int .i64 0,.int .i64 0,.int .i64 0,.slice none 0 0,.slice none 0 0,.slice none 0 0,.int .i64 0,.int .i64 0,.bool false] 34 36;have CC:=fun w' (hb:Below w.heap.size w w')=>zix [.int .i64 v0,.int .i64 v1,.int .i64 v2,.int .i64 v3,.int .i64 v4,.int .i64 v5,.int .i64 v6,.int .i64 v7,.int .i64 v8,.slice vp0 vl0 vq0,.slice vp1 vl1 vq1,.slice vp2 vl2 vq2,.int .i64 v9,.int .i64 v10,.bool vb] d hi w' (zae.rd_below h hb hhi) (Nat.le_trans hhi hb.size) hsz;clear h
 go_enter_defers Tryz.func46,Tryz.ntmps46
 go_wp2_with (refine zav 34 (.tmp 2) rfl rfl (w.heap.size) rfl (T0.b1) Tryz.underlying34 zbL rfl ?_)
 refine (CC _ T0.bel).mono ?_;rintro e w2 ⟨c2,rfl,o2,b2⟩;obtain ⟨u0,u1,u2,u3,u4,u5,u6,u7,u8,up0,ul0,uq0,up1,ul1,uq1,up2,ul2,uq2,u9,u10,ub,rfl⟩:=zjY o2;have T2:=T0.call b2;have z2:w.heap.size+1<w2.heap.size:=T2.b2.lt;have TB:=zaz w2 #[.int .i32 0,.int .u32 0,.int .u32 0,.int .i32 0,.int .u32 0,.int .i64 u0,.int .i64 u1,.int .i64 u2,.int .i64 u3,.int .i64 u4,.int .i64 u5,.int .i64 u6,.int .i64 u7,.int .i64 u8,.slice up0 ul0 uq0,.slice up1 ul1 uq1,.slice up2 ul2 uq2,.int .i64 u9,.int .i64 u10,.bool ub] #[.pointer (some ⟨w2.heap.size,0,none⟩)] 110 91;obtain ⟨K,hk1,hk2,hk3⟩:=o2;have hkz:∀ b,b∈K→w.heap.size≤b∧b<w2.heap.size:=fun b hb=>⟨by have:=hk3 b hb;simp at this;omega,(hk3 b hb).2⟩
 go_upto_region 2 with fail
 obtain ⟨W3,hW3⟩:∃ x,x=(w2.alloc (.cells #[.int .i32 0,.int .u32 0,.int .u32 0,.int .i32 0,.int .u32 0,.int .i64 u0,.int .i64 u1,.int .i64 u2,.int .i64 u3,.int .i64 u4,.int .i64 u5,.int .i64 u6,.int .i64 u7,.int .i64 u8,.slice up0 ul0 uq0,.slice up1 ul1 uq1,.slice up2 ul2 uq2,.int .i64 u9,.int .i64 u10,.bool ub] 110)).alloc (.cells #[.pointer (some ⟨w2.heap.size,0,none⟩)] 91):=⟨_,rfl⟩;rw [← hW3] at TB ⊢;clear hW3;have T3:=T2.call TB.bel;have O3:EncB W3 w2.heap.size d K:=⟨[.int .i64 u0,.int .i64 u1,.int .i64 u2,.int .i64 u3,.int .i64 u4,.int .i64 u5,.int .i64 u6,.int .i64 u7,.int .i64 u8,.slice up0 ul0 uq0,.slice up1 ul1 uq1,.slice up2 ul2 uq2,.int .i64 u9,.int .i64 u10,.bool ub],TB.b1,Lay.own_kept _ hk1 (fun b hb=>TB.bel.block b (hkz b hb).2),hk2,fun hb=>by have:=hkz _ hb;omega⟩;have z3:w2.heap.size+1<W3.heap.size:=TB.b2.lt;have x5:W3.cell? ⟨w2.heap.size+1,0,none⟩=some (.pointer (some ⟨w2.heap.size,0,none⟩)):=TB.b2.cell 0;have CB3:=hcb.below T3.bel hcl;have CF0:=HW W3 w2.heap.size K T3.bel (by omega) (fun b hb=>(hkz b hb).1) O3
 have hRn:w.heap.size+1∉K:=fun hm=>by have:=hk3 _ hm;have:=T0.b2.lt;omega
 clear HW hcb CC
 cases o with
 | cut d2=>
  have CF:=CF0.mono (R':=fun e w'=>e=.panicked [{ v:=.iface 215 (.agg #[]),recovered:=false }]∧∃ y0 y1 y2 y3 y4 y5 y6 y7 y8 yp0 yl0 yq0 yp1 yl1 yq1 yp2 yl2 yq2 y9 y10 yb K',Box w' w2.heap.size #[.int .i32 0,.int .u32 0,.int .u32 1,.int .i32 0,.int .u32 0,.int .i64 y0,.int .i64 y1,.int .i64 y2,.int .i64 y3,.int .i64 y4,.int .i64 y5,.int .i64 y6,.int .i64 y7,.int .i64 y8,.slice yp0 yl0 yq0,.slice yp1 yl1 yq1,.slice yp2 yl2 yq2,.int .i64 y9,.int .i64 y10,.bool yb] 110∧EncO w' w2.heap.size (cutW d2) [.int .i64 y0,.int .i64 y1,.int .i64 y2,.int .i64 y3,.int .i64 y4,.int .i64 y5,.int .i64 y6,.int .i64 y7,.int .i64 y8,.slice yp0 yl0 yq0,.slice yp1 yl1 yq1,.slice yp2 yl2 yq2,.int .i64 y9,.int .i64 y10,.bool yb] K'∧(∀ b,b∈K'→b∈K∨W3.heap.size≤b)∧ChgL (w2.heap.size::K) W3 w') (fun e w' ⟨he,K',⟨cs',hX',hO'⟩,hs',hC'⟩=>by
   obtain ⟨y0,y1,y2,y3,y4,y5,y6,y7,y8,yp0,yl0,yq0,yp1,yl1,yq1,yp2,yl2,yq2,y9,y10,yb,rfl⟩:=zcu hO'.own
   exact ⟨he,y0,y1,y2,y3,y4,y5,y6,y7,y8,yp0,yl0,yq0,yp1,yl1,yq1,yp2,yl2,yq2,y9,y10,yb,K',hX',hO',hs',hC'⟩)
  clear CF0
  go_wp2_with (go_at_call 47;refine CF.mono ?_;rintro e w5 ⟨rfl,y0,y1,y2,y3,y4,y5,y6,y7,y8,yp0,yl0,yq0,yp1,yl1,yq1,yp2,yl2,yq2,y9,y10,yb,K5,X5,O5,s5,C5⟩)
  have nin:∀ x,x<w2.heap.size→x∉K→x∉w2.heap.size::K:=fun x h1 h2 hm=>by
   rcases List.mem_cons.1 hm with h | h
   ·omega
   ·exact h2 h
  have hR5:=T3.b2.chgl C5 (nin _ z2 hRn)
  have P5:=TB.b2.chgl C5 (fun hm=>by
   rcases List.mem_cons.1 hm with h | h
   ·omega
   ·have:=hkz _ h;omega)
  have CB5:=CB3.chgl C5 (nin _ (by omega) (fun hm=>by have:=hkz _ hm;omega));refine leaves_cons (f:=87) (args:=#[.pointer (some ⟨w.heap.size+1,0,none⟩),.pointer (some ⟨w2.heap.size+1,0,none⟩)]) (by simp) (by simp [go_sem]) ?_;refine (zk5 _ _ (w.heap.size+1) (w2.heap.size+1) w2.heap.size 0 1 0 _ _ _ _ _ _ _ _ _ _ _ _ _ _ _ _ _ _ _ _ _ _ hR5 (P5.cell 0) X5 (by omega) (by omega)).mono ?_;rintro e u' w7 ⟨rfl,rfl,R7,C7⟩
  simp only [settle,Leaves,List.dropWhile]
  have z5:=C5.size;have z7:=C7.size;have h5:=fun b hb=>zae.own_lt O5.own b hb
  have hK5:∀ b,b∈K5→w.heap.size≤b∧b≠w.heap.size+1:=fun b hb=>by
   rcases s5 b hb with h | h
   ·exact ⟨(hkz b h).1,fun e=>hRn (e ▸ h)⟩
   ·omega
  have B5:Below w.heap.size w w5:=T3.bel.trans (C5.bel (fun b hb=>by
   rcases List.mem_cons.1 hb with h | h
   ·omega
   ·exact (hkz b h).1) T3.bel.size)
  have B7:Below w.heap.size w w7:=B5.trans (C7.bel (fun b hb=>by simp at hb;omega) B5.size);have CB7:=CB5.chgl C7 (by simp;omega);have C7w:ChgL [cb] w w7:=ChgL.of_below B7;have O7:OwnT zae w7 w.heap.size w7.heap.size (cutW d2) [.int .i64 y0,.int .i64 y1,.int .i64 y2,.int .i64 y3,.int .i64 y4,.int .i64 y5,.int .i64 y6,.int .i64 y7,.int .i64 y8,.slice yp0 yl0 yq0,.slice yp1 yl1 yq1,.slice yp2 yl2 yq2,.int .i64 y9,.int .i64 y10,.bool yb]:=⟨K5,Lay.own_chgL _ O5.own C7 (fun b hb hm=>by simp at hm;exact (hK5 b hb).2 hm),O5.nd,fun b hb=>⟨(hK5 b hb).1,by have:=h5 b hb;omega⟩⟩;refine ⟨_,results_cell_row Tryz.results46 _ w7 (w.heap.size+1) 36 #[.int .i64 9,.int .i64 y0,.int .i64 y1,.int .i64 y2,.int .i64 y3,.int .i64 y4,.int .i64 y5,.int .i64 y6,.int .i64 y7,.int .i64 y8,.slice yp0 yl0 yq0,.slice yp1 yl1 yq1,.slice yp2 yl2 yq2,.int .i64 y9,.int .i64 y10,.bool yb] (0,0) (.struct _) rfl R7 Tryz.underlying36 rfl (by rw [za3];rfl),?_⟩;exact ⟨[.int .i64 9,.int .i64 y0,.int .i64 y1,.int .i64 y2,.int .i64 y3,.int .i64 y4,.int .i64 y5,.int .i64 y6,.int .i64 y7,.int .i64 y8,.slice yp0 yl0 yq0,.slice yp1 yl1 yq1,.slice yp2 yl2 yq2,.int .i64 y9,.int .i64 y10,.bool yb],rfl,zcY 9 (by decide) O7,CB7,C7w⟩
 | done c d2=>
  have CF:=CF0.mono (R':=fun e w'=>e=.returned (.tuple #[])∧∃ y0 y1 y2 y3 y4 y5 y6 y7 y8 yp0 yl0 yq0 yp1 yl1 yq1 yp2 yl2 yq2 y9 y10 yb K',Box w' w2.heap.size #[.int .i32 0,.int .u32 0,.int .u32 0,.int .i32 0,.int .u32 0,.int .i64 y0,.int .i64 y1,.int .i64 y2,.int .i64 y3,.int .i64 y4,.int .i64 y5,.int .i64 y6,.int .i64 y7,.int .i64 y8,.slice yp0 yl0 yq0,.slice yp1 yl1 yq1,.slice yp2 yl2 yq2,.int .i64 y9,.int .i64 y10,.bool yb] 110∧EncO w' w2.heap.size d2 [.int .i64 y0,.int .i64 y1,.int .i64 y2,.int .i64 y3,.int .i64 y4,.int .i64 y5,.int .i64 y6,.int .i64 y7,.int .i64 y8,.slice yp0 yl0 yq0,.slice yp1 yl1 yq1,.slice yp2 yl2 yq2,.int .i64 y9,.int .i64 y10,.bool yb] K'∧(∀ b,b∈K'→b∈K∨W3.heap.size≤b)∧Box w' cb #[.int .i64 c] 2∧ChgL (w2.heap.size::cb::K) W3 w') (fun e w' ⟨he,K',⟨cs',hX',hO'⟩,hs',hb',hC'⟩=>by
   obtain ⟨y0,y1,y2,y3,y4,y5,y6,y7,y8,yp0,yl0,yq0,yp1,yl1,yq1,yp2,yl2,yq2,y9,y10,yb,rfl⟩:=zcu hO'.own
   exact ⟨he,y0,y1,y2,y3,y4,y5,y6,y7,y8,yp0,yl0,yq0,yp1,yl1,yq1,yp2,yl2,yq2,y9,y10,yb,K',hX',hO',hs',hb',hC'⟩)
  have nin:∀ x,x≠w2.heap.size→x≠cb→x∉K→x∉w2.heap.size::cb::K:=fun x h1 h2 h3 hm=>by
   rcases List.mem_cons.1 hm with h | h
   ·exact h1 h
   ·rcases List.mem_cons.1 h with h | h
    ·exact h2 h
    ·exact h3 h
  have hRK:=nin (w.heap.size+1) (by omega) (by omega) hRn;clear CF0
  go_wp2_with (first | (go_at_call 47;refine CF.mono ?_;rintro e w5 ⟨rfl,y0,y1,y2,y3,y4,y5,y6,y7,y8,yp0,yl0,yq0,yp1,yl1,yq1,yp2,yl2,yq2,y9,y10,yb,K5,X5,O5,s5,CB5,C5⟩;have hR5:=T3.b2.chgl C5 hRK) | (refine zav 36 (.tmp 4) rfl rfl (w.heap.size+1) rfl (hR5) Tryz.underlying36 za3 rfl ?_) | (refine zbb 36 _ _ rfl rfl (w.heap.size+1) rfl (cs:=[.int .i64 0,.int .i64 0,.int .i64 0,.int .i64 0,.int .i64 0,.int .i64 0,.int .i64 0,.int .i64 0,.int .i64 0,.int .i64 0,.slice none 0 0,.slice none 0 0,.slice none 0 0,.int .i64 0,.int .i64 0,.bool false]) rfl hR5 za3 rfl rfl (ze6 0 (by decide) w) ?_;intro w6 R6 C6 z6))
  have z5:=C5.size;have P5:=TB.b2.chgl C5 (nin _ (by omega) (by omega) (fun hm=>by have:=hkz _ hm;omega));have P6:=P5.chgl C6 (by simp;omega);have X6:=X5.chgl C6 (by simp;omega);refine leaves_cons (f:=87) (args:=#[.pointer (some ⟨w.heap.size+1,0,none⟩),.pointer (some ⟨w2.heap.size+1,0,none⟩)]) (by simp) (by simp [go_sem]) ?_;refine (zmg (w.heap.size+1) (w2.heap.size+1) w2.heap.size 0 0 0 _ _ _ _ _ _ _ _ _ _ _ _ _ _ _ _ _ _ _ _ _ _ R6 (P6.cell 0) X6 (by omega) (by omega)).mono ?_;rintro e u' w7 ⟨rfl,rfl,R7,C7⟩
  simp only [settle,Leaves]
  have z7:=C7.size;have h5:=fun b hb=>zae.own_lt O5.own b hb
  have hK5:∀ b,b∈K5→w.heap.size≤b∧b≠w.heap.size+1:=fun b hb=>by
   rcases s5 b hb with h | h
   ·exact ⟨(hkz b h).1,fun e=>hRn (e ▸ h)⟩
   ·omega
  have C5w:ChgL [cb] w w5:=⟨C5.os.trans T3.bel.os,C5.tape.trans T3.bel.tape,C5.output.trans T3.bel.output,Nat.le_trans T3.bel.size z5,fun b hb hm=>by
   refine (C5.block b (Nat.lt_of_lt_of_le hb T3.bel.size) (nin b (by omega) (fun h=>hm (by simp [h])) (fun h=>by have:=hkz b h;omega))).trans (T3.bel.block b hb)⟩
  have C67:ChgL [w.heap.size+1] w5 w7:=C6.trans C7;have C7w:ChgL [cb] w w7:=⟨C67.os.trans C5w.os,C67.tape.trans C5w.tape,C67.output.trans C5w.output,Nat.le_trans C5w.size C67.size,fun b hb hm=>(C67.block b (Nat.lt_of_lt_of_le hb C5w.size) (by simp;omega)).trans (C5w.block b hb hm)⟩;have CB7:=CB5.chgl C67 (by simp;omega);have O7:OwnT zae w7 w.heap.size w7.heap.size d2 [.int .i64 y0,.int .i64 y1,.int .i64 y2,.int .i64 y3,.int .i64 y4,.int .i64 y5,.int .i64 y6,.int .i64 y7,.int .i64 y8,.slice yp0 yl0 yq0,.slice yp1 yl1 yq1,.slice yp2 yl2 yq2,.int .i64 y9,.int .i64 y10,.bool yb]:=⟨K5,Lay.own_chgL _ O5.own C67 (fun b hb hm=>by simp at hm;exact (hK5 b hb).2 hm),O5.nd,fun b hb=>⟨(hK5 b hb).1,by have:=h5 b hb;have:=C67.size;omega⟩⟩;refine ⟨_,results_cell_row Tryz.results46 _ w7 (w.heap.size+1) 36 #[.int .i64 0,.int .i64 y0,.int .i64 y1,.int .i64 y2,.int .i64 y3,.int .i64 y4,.int .i64 y5,.int .i64 y6,.int .i64 y7,.int .i64 y8,.slice yp0 yl0 yq0,.slice yp1 yl1 yq1,.slice yp2 yl2 yq2,.int .i64 y9,.int .i64 y10,.bool yb] (0,0) (.struct _) rfl R7 Tryz.underlying36 rfl (by rw [za3];rfl),?_⟩;exact ⟨[.int .i64 0,.int .i64 y0,.int .i64 y1,.int .i64 y2,.int .i64 y3,.int .i64 y4,.int .i64 y5,.int .i64 y6,.int .i64 y7,.int .i64 y8,.slice yp0 yl0 yq0,.slice yp1 yl1 yq1,.slice yp2 yl2 yq2,.int .i64 y9,.int .i64 y10,.bool yb],rfl,zcY 0 (by decide) O7,CB7,C7w⟩
def Outc.final:Outc→WorldResultD
 | .done c d=>if c=0 then ⟨0,d⟩ else ⟨c,zgS⟩
 | .cut d=>⟨9,cutW d⟩
theorem zj7:(Tryz.prog.info? 36).map (fun i=>(i.zero.map (·.cells),i.size))=some (some #[.int .i64 0,.int .i64 0,.int .i64 0,.int .i64 0,.int .i64 0,.int .i64 0,.int .i64 0,.int .i64 0,.int .i64 0,.int .i64 0,.slice none 0 0,.slice none 0 0,.slice none 0 0,.int .i64 0,.int .i64 0,.bool false],16):=by kernel_rfl
theorem znL {w:World} {lo hi:Nat} {q:WorldResultD} {cs:List Value} (h:OwnT zaC w lo hi q cs):∃ r0 y0 y1 y2 y3 y4 y5 y6 y7 y8 yp0 yl0 yq0 yp1 yl1 yq1 yp2 yl2 yq2 y9 y10 yb,cs=[.int .i64 r0,.int .i64 y0,.int .i64 y1,.int .i64 y2,.int .i64 y3,.int .i64 y4,.int .i64 y5,.int .i64 y6,.int .i64 y7,.int .i64 y8,.slice yp0 yl0 yq0,.slice yp1 yl1 yq1,.slice yp2 yl2 yq2,.int .i64 y9,.int .i64 y10,.bool yb]:=by
 obtain ⟨M,h1,_⟩:=h;obtain ⟨c,d',K1,M1,rfl,_,⟨rfl,_⟩,h2⟩:=h1;obtain ⟨y0,y1,y2,y3,y4,y5,y6,y7,y8,yp0,yl0,yq0,yp1,yl1,yq1,yp2,yl2,yq2,y9,y10,yb,rfl⟩:=zcu h2;exact ⟨_,y0,y1,y2,y3,y4,y5,y6,y7,y8,yp0,yl0,yq0,yp1,yl1,yq1,yp2,yl2,yq2,y9,y10,yb,rfl⟩
set_option maxRecDepth 100000 in
theorem ziA (d:WorldD) (cs:List Value) (hi:Nat) (F:Nat→Nat) (caps:Nat→Array Value) (f:Nat→WorldD→Outc) (fit:Nat→WorldD→Prop) (n b off cap:Nat) (w:World) (h:zae.rd w hi d cs) (hhi:hi≤w.heap.size) (hsz:zbg d≤1048576)
 (hT:∀ i,i<n→TaskV (F i) (caps i) (f i) (fit i) w.heap.size w) (hc:∀ i,i<n→w.cell? ⟨b,off+i,none⟩=some (.func (.func (F i)) #[] (caps i))) (hb:b<w.heap.size) (hn:n≤1000000) (hf:zdN f fit n 0 d) (hco:-9223372036854775808≤(runO f n 0 d).code∧(runO f n 0 d).code≤9223372036854775807) :
 Calls Tryz.prog 25 #[.agg cs.toArray,.slice (some ⟨b,off,none⟩) n cap] w fun e w'=>∃ cs',e=.returned (.agg cs'.toArray)∧OwnT zaC w' w.heap.size w'.heap.size (runO f n 0 d).final cs'∧Below w.heap.size w w':=by
 obtain ⟨v0,v1,v2,v3,v4,v5,v6,v7,v8,vp0,vl0,vq0,vp1,vl1,vq1,vp2,vl2,vq2,v9,v10,vb,rfl⟩:=zg2 h;have hmf:∀ (fn:Fn) (first cap:Array Value) (w:World),(Instr.makeFunc fn first cap).run Tryz.prog w=.ok (.func fn first cap) w:=fun _ _ _ _=>rfl;have T0:=zbQ w (rwV v0 v1 v2 v3 v4 v5 v6 v7 v8 vp0 vl0 vq0 vp1 vl1 vq1 vp2 vl2 vq2 v9 v10 vb).toArray #[.slice (some ⟨b,off,none⟩) n cap] rwZ.toArray 34 89 36;have HRD:=hid h;clear h;obtain ⟨oc,hoc⟩:∃ x,x=runO f n 0 d:=⟨_,rfl⟩;rw [← hoc] at hco ⊢
 go_enter Tryz.func25,Tryz.ntmps25
 go_upto_region 1 with fail
 obtain ⟨W1,hW1⟩:∃ x,x=(((w.alloc (.cells (rwV v0 v1 v2 v3 v4 v5 v6 v7 v8 vp0 vl0 vq0 vp1 vl1 vq1 vp2 vl2 vq2 v9 v10 vb).toArray 34)).alloc (.cells #[.slice (some ⟨b,off,none⟩) n cap] 89)).alloc (.cells rwZ.toArray 36)):=⟨_,rfl⟩;rw [← hW1] at T0 ⊢
 have z1:W1.heap.size=w.heap.size+1+1+1:=by rw [hW1];simp
 clear hW1;have XC:=zaq W1 #[.int .i64 0] 2;have bC:=bAl W1 (.cells #[.int .i64 0] 2);have T1:=T0.call bC
 go_upto_region 2 with fail
 obtain ⟨W2,hW2⟩:∃ x,x=W1.alloc (.cells #[.int .i64 0] 2):=⟨_,rfl⟩;rw [← hW2] at XC bC T1 ⊢
 have z2:W2.heap.size=w.heap.size+1+1+1+1:=by rw [hW2];simp [z1]
 clear hW2 T0 bC;rw [z1] at XC;have bW:Below w.heap.size w W2:=T1.bel
 have CP:=zjy d (rwV v0 v1 v2 v3 v4 v5 v6 v7 v8 vp0 vl0 vq0 vp1 vl1 vq1 vp2 vl2 vq2 v9 v10 vb) hi (w.heap.size+1) (w.heap.size+1+1+1) W2 (zae.rd_below HRD.out bW hhi) (by omega) hsz (runO f n 0 d) XC (fun W3 E K hB hE hK hX=>by
  have b3:Below w.heap.size w W3:=bW.trans (hB.mono (by omega))
  exact zhk F caps f fit w.heap.size n b off cap (w.heap.size+1) (w.heap.size+1+1+1) W3 E d K (fun i hi=>(hT i hi).later b3 (Nat.le_refl _)) (fun i hi=>(b3.cell (p:=⟨b,off+i,none⟩) hb).trans (hc i hi)) (by have:=b3.size;omega) ⟨by omega,fun hm=>by have:=hK b hm;omega⟩ (by omega) (fun x hx=>by have:=hK x hx;omega) hn hX hf
   ((hB.cell (p:=⟨w.heap.size+1,0,none⟩) (by show w.heap.size+1<_;omega)).trans (T1.b2.cell 0)) (XC.below hB (by omega)) ⟨by omega,fun hm=>by have:=hK _ hm;omega⟩)
 rw [← hoc] at CP;have HCO:=hid hco;clear hT hc hf hoc hco
 have CQ:=CP.mono (R':=fun e w'=>∃ r0 y0 y1 y2 y3 y4 y5 y6 y7 y8 yp0 yl0 yq0 yp1 yl1 yq1 yp2 yl2 yq2 y9 y10 yb,e=.returned (.agg (.int .i64 r0::rwV y0 y1 y2 y3 y4 y5 y6 y7 y8 yp0 yl0 yq0 yp1 yl1 yq1 yp2 yl2 yq2 y9 y10 yb).toArray)∧OwnT zaC w' W2.heap.size w'.heap.size oc.told (.int .i64 r0::rwV y0 y1 y2 y3 y4 y5 y6 y7 y8 yp0 yl0 yq0 yp1 yl1 yq1 yp2 yl2 yq2 y9 y10 yb)∧Box w' (w.heap.size+1+1+1) #[.int .i64 oc.code] 2∧ChgL [w.heap.size+1+1+1] W2 w') (fun e w' ⟨cs',he,ho,hb',hc'⟩=>by
  obtain ⟨r0,y0,y1,y2,y3,y4,y5,y6,y7,y8,yp0,yl0,yq0,yp1,yl1,yq1,yp2,yl2,yq2,y9,y10,yb,rfl⟩:=znL ho
  exact ⟨r0,y0,y1,y2,y3,y4,y5,y6,y7,y8,yp0,yl0,yq0,yp1,yl1,yq1,yp2,yl2,yq2,y9,y10,yb,he,ho,hb',hc'⟩)
 clear CP;obtain ⟨c,hcc⟩:∃ x,x=oc.code:=⟨_,rfl⟩;have HCC:=hid hcc;rw [← hcc] at CQ;clear hcc
 by_cases hc0:c=0
 ·subst hc0
  have HT1:=hid T1
  go_wp2_with (first | (refine zav 34 (.tmp 2) rfl rfl (w.heap.size) rfl (T1.b1) Tryz.underlying34 zbL rfl ?_) | (go_at_call 46;refine CQ.mono ?_;rintro e w5 ⟨r0,y0,y1,y2,y3,y4,y5,y6,y7,y8,yp0,yl0,yq0,yp1,yl1,yq1,yp2,yl2,yq2,y9,y10,yb,rfl,O5,CB5,C5⟩;have R5:=HT1.out.b3.chgl C5 (by simp)) | (refine zbd 36 6 (.tmp 9) _ _ 16 rfl rfl rfl rfl rfl rfl rfl rfl zj7 rfl rfl O5.one ?_;have bN:=bAl w5 (.cells (.int .i64 r0::rwV y0 y1 y2 y3 y4 y5 y6 y7 y8 yp0 yl0 yq0 yp1 yl1 yq1 yp2 yl2 yq2 y9 y10 yb).toArray 36);have XN:=zaq w5 (.int .i64 r0::rwV y0 y1 y2 y3 y4 y5 y6 y7 y8 yp0 yl0 yq0 yp1 yl1 yq1 yp2 yl2 yq2 y9 y10 yb).toArray 36;have cx:=(CB5.below bN CB5.lt).cell 0;have R6:=R5.below bN R5.lt) | (refine zav 36 (.tmp 6) rfl rfl (w5.heap.size) rfl (XN) Tryz.underlying36 za3 rfl ?_) | (refine zbb 36 _ _ rfl rfl (w.heap.size+1+1) rfl (cs:=(.int .i64 r0::rwV y0 y1 y2 y3 y4 y5 y6 y7 y8 yp0 yl0 yq0 yp1 yl1 yq1 yp2 yl2 yq2 y9 y10 yb)) rfl R6 za3 rfl rfl O5.one ?_;intro w9 X9 C9 z9))
  refine zcz Tryz.results25 rfl X9 Tryz.underlying36 za3 rfl rfl ?_;have z5:=C5.size;have zz:=C9.size
  have e:oc.final=oc.told:=by
   cases oc with
   | cut d2=>rfl
   | done c2 d2=>show (if c2=0 then _ else _)=_;rw [if_pos (show c2=0 from HCC.out.symm)];rfl
  rw [e];have B5:Below w.heap.size w w5:=bW.trans (C5.bel (fun x hx=>by simp at hx;omega) (by omega));have BN:Below w.heap.size w (w5.alloc (.cells (.int .i64 r0::rwV y0 y1 y2 y3 y4 y5 y6 y7 y8 yp0 yl0 yq0 yp1 yl1 yq1 yp2 yl2 yq2 y9 y10 yb).toArray 36)):=B5.trans (bN.mono B5.size)
  have sN:(w5.alloc (.cells (.int .i64 r0::rwV y0 y1 y2 y3 y4 y5 y6 y7 y8 yp0 yl0 yq0 yp1 yl1 yq1 yp2 yl2 yq2 y9 y10 yb).toArray 36)).heap.size=w5.heap.size+1:=by simp
  refine ⟨_,rfl,?_,BN.trans (C9.bel (fun x hx=>by simp at hx;omega) BN.size)⟩;exact (((O5.below bN (Nat.le_refl _)).chgk C9 (fun x hx=>by simp at hx;omega)).weaken (by omega) (by omega))
 ·have hne:(c != 0)=true:=by simpa using hc0
  have HNE:=hid hc0;clear hc0;have HT1:=hid T1
  go_wp2_with (first | (refine zav 34 (.tmp 2) rfl rfl (w.heap.size) rfl (T1.b1) Tryz.underlying34 zbL rfl ?_) | (go_at_call 46;refine CQ.mono ?_;rintro e w5 ⟨r0,y0,y1,y2,y3,y4,y5,y6,y7,y8,yp0,yl0,yq0,yp1,yl1,yq1,yp2,yl2,yq2,y9,y10,yb,rfl,O5,CB5,C5⟩;have R5:=HT1.out.b3.chgl C5 (by simp)) | (refine zbd 36 6 (.tmp 9) _ _ 16 rfl rfl rfl rfl rfl rfl rfl rfl zj7 rfl rfl O5.one ?_;have bN:=bAl w5 (.cells (.int .i64 r0::rwV y0 y1 y2 y3 y4 y5 y6 y7 y8 yp0 yl0 yq0 yp1 yl1 yq1 yp2 yl2 yq2 y9 y10 yb).toArray 36);have cx:=(CB5.below bN CB5.lt).cell 0;have R6:=R5.below bN R5.lt) | (refine zbb 36 _ _ rfl rfl (w.heap.size+1+1) rfl (cs:=(.int .i64 c::rwY)) rfl R6 za3 rfl rfl (ze6 c (by rw [HCC.out];exact HCO.out) w) ?_;intro w9 X9 C9 z9))
  refine zcz Tryz.results25 rfl X9 Tryz.underlying36 za3 rfl rfl ?_;have z5:=C5.size;have zz:=C9.size
  have e:oc.final=⟨c,zgS⟩:=by
   cases oc with
   | cut d2=>exact absurd HCC.out HNE.out
   | done c2 d2=>
    have e2:c=c2:=HCC.out
    show (if c2=0 then _ else _)=_
    rw [← e2,if_neg HNE.out]
  rw [e];have B5:Below w.heap.size w w5:=bW.trans (C5.bel (fun x hx=>by simp at hx;omega) (by omega));have BN:Below w.heap.size w (w5.alloc (.cells (.int .i64 r0::rwV y0 y1 y2 y3 y4 y5 y6 y7 y8 yp0 yl0 yq0 yp1 yl1 yq1 yp2 yl2 yq2 y9 y10 yb).toArray 36)):=B5.trans (bN.mono B5.size)
  have sN:(w5.alloc (.cells (.int .i64 r0::rwV y0 y1 y2 y3 y4 y5 y6 y7 y8 yp0 yl0 yq0 yp1 yl1 yq1 yp2 yl2 yq2 y9 y10 yb).toArray 36)).heap.size=w5.heap.size+1:=by simp
  refine ⟨_,rfl,?_,BN.trans (C9.bel (fun x hx=>by simp at hx;omega) BN.size)⟩;exact zd2 w9 c (by rw [HCC.out];exact HCO.out) _ _
set_option maxRecDepth 20000 in
theorem zk8 (b:Nat) (v0 v1 v2 v3 v4 v5 v6 v7 v8 vp0 vl0 vq0 vp1 vl1 vq1 vp2 vl2 vq2 v9 v10 vb:_) (w:World) (hB:Box w b #[.int .i64 v0,.int .i64 v1,.int .i64 v2,.int .i64 v3,.int .i64 v4,.int .i64 v5,.int .i64 v6,.int .i64 v7,.int .i64 v8,.slice vp0 vl0 vq0,.slice vp1 vl1 vq1,.slice vp2 vl2 vq2,.int .i64 v9,.int .i64 v10,.bool vb] 34) (hd:vb=false) (hs:v10≠-1) (hw:v10≤v9) :
 Calls Tryz.prog 74 #[.pointer (some ⟨b,0,none⟩)] w fun e w'=>e=.returned (.bool false)∧Box w' b #[.int .i64 v0,.int .i64 v1,.int .i64 v2,.int .i64 v3,.int .i64 v4,.int .i64 v5,.int .i64 v6,.int .i64 v7,.int .i64 v8,.slice vp0 vl0 vq0,.slice none 0 0,.slice vp2 vl2 vq2,.int .i64 v9,.int .i64 v10,.bool true] 34∧ChgL [b] w w':=by
 subst hd
 have d1:(v10 != -1)=true:=by simpa using hs
 have d2:decide (v10≤v9)=true:=by simpa using hw
 have x12:w.cell? ⟨b,12,none⟩=some (.int .i64 v9):=hB.cell 12;have x13:w.cell? ⟨b,13,none⟩=some (.int .i64 v10):=hB.cell 13;have x14:w.cell? ⟨b,14,none⟩=some (.bool false):=hB.cell 14;clear hs hw
 go_enter Tryz.func74,Tryz.ntmps74
 go_upto_region 3 with fail
 go_quiet (fail)
 go_upto_region 4 with fail
 obtain ⟨W,hW⟩:∃ x,x=w.drewN nq:=⟨_,rfl⟩;rw [← hW]
 have X1:Box W b (rwV v0 v1 v2 v3 v4 v5 v6 v7 v8 vp0 vl0 vq0 vp1 vl1 vq1 vp2 vl2 vq2 v9 v10 false).toArray 34:=by rw [hW];exact hB
 have C1:ChgL [b] w W:=by rw [hW];exact ⟨rfl,rfl,rfl,Nat.le_refl _,fun _ _ _=>rfl⟩
 clear hW x12 x13 x14 hB;have y0:W.cell? ⟨b,14,none⟩=some (.bool false):=X1.cell 14;have yf0:W.frozen? ⟨b,14,none⟩=false:=X1.frozen 14;have X2:Box (W.setCell ⟨b,14,none⟩ (.bool true)) b (rwV v0 v1 v2 v3 v4 v5 v6 v7 v8 vp0 vl0 vq0 vp1 vl1 vq1 vp2 vl2 vq2 v9 v10 true).toArray 34:=X1.setc 14 _;have y1:(W.setCell ⟨b,14,none⟩ (.bool true)).cell? ⟨b,10,none⟩=some (.slice vp1 vl1 vq1):=X2.cell 10;have yf1:(W.setCell ⟨b,14,none⟩ (.bool true)).frozen? ⟨b,10,none⟩=false:=X2.frozen 10;have X3:Box ((W.setCell ⟨b,14,none⟩ (.bool true)).setCell ⟨b,10,none⟩ (.slice none 0 0)) b (rwV v0 v1 v2 v3 v4 v5 v6 v7 v8 vp0 vl0 vq0 none 0 0 vp2 vl2 vq2 v9 v10 true).toArray 34:=X2.setc 10 _;have C3:ChgL [b] w ((W.setCell ⟨b,14,none⟩ (.bool true)).setCell ⟨b,10,none⟩ (.slice none 0 0)):=(C1.st _ 14 _ (by simp)).st _ 10 _ (by simp);clear X1 X2 C1;go_wp2;go_ret;exact ⟨rfl,X3,C3⟩
set_option maxRecDepth 20000 in
theorem zmi (b:Nat) (v0 v1 v2 v3 v4 v5 v6 v7 v8 vp0 vl0 vq0 vp1 vl1 vq1 vp2 vl2 vq2 v9 v10 vb:_) (w:World) (hB:Box w b #[.int .i64 v0,.int .i64 v1,.int .i64 v2,.int .i64 v3,.int .i64 v4,.int .i64 v5,.int .i64 v6,.int .i64 v7,.int .i64 v8,.slice vp0 vl0 vq0,.slice vp1 vl1 vq1,.slice vp2 vl2 vq2,.int .i64 v9,.int .i64 v10,.bool vb] 34) (hd:vb=false) (d1:(v10 != -1)=false) (hwr:-9223372036854775808≤v9∧v9+1≤9223372036854775807) :
 Calls Tryz.prog 74 #[.pointer (some ⟨b,0,none⟩)] w fun e w'=>e=.returned (.bool true)∧Box w' b #[.int .i64 v0,.int .i64 v1,.int .i64 v2,.int .i64 v3,.int .i64 v4,.int .i64 v5,.int .i64 v6,.int .i64 v7,.int .i64 v8,.slice vp0 vl0 vq0,.slice vp1 vl1 vq1,.slice vp2 vl2 vq2,.int .i64 (v9+1),.int .i64 v10,.bool vb] 34∧ChgL [b] w w':=by
 have HD:=hid hd;obtain ⟨vc,hvc⟩:∃ x:Bool,x=vb:=⟨_,rfl⟩
 have zz:IntKind.i64.wrap (v9+1)=v9+1:=by rw [IntKind.wrap_i64];omega
 have x12:w.cell? ⟨b,12,none⟩=some (.int .i64 v9):=hB.cell 12;have x13:w.cell? ⟨b,13,none⟩=some (.int .i64 v10):=hB.cell 13
 have x14:w.cell? ⟨b,14,none⟩=some (.bool false):=by rw [← HD.out];exact hB.cell 14
 clear hwr hd
 go_enter Tryz.func74,Tryz.ntmps74
 go_upto_region 3 with fail
 go_quiet (fail)
 go_upto_region 7 with fail
 obtain ⟨W,hW⟩:∃ x,x=w.drewN nq:=⟨_,rfl⟩;rw [← hW]
 have X1:Box W b (rwV v0 v1 v2 v3 v4 v5 v6 v7 v8 vp0 vl0 vq0 vp1 vl1 vq1 vp2 vl2 vq2 v9 v10 vb).toArray 34:=by rw [hW];exact hB
 have C1:ChgL [b] w W:=by rw [hW];exact ⟨rfl,rfl,rfl,Nat.le_refl _,fun _ _ _=>rfl⟩
 clear hW x12 x13 x14 hB;have y0:W.cell? ⟨b,12,none⟩=some (.int .i64 v9):=X1.cell 12;have yf0:W.frozen? ⟨b,12,none⟩=false:=X1.frozen 12;have X2:Box (W.setCell ⟨b,12,none⟩ (.int .i64 (v9+1))) b #[.int .i64 v0,.int .i64 v1,.int .i64 v2,.int .i64 v3,.int .i64 v4,.int .i64 v5,.int .i64 v6,.int .i64 v7,.int .i64 v8,.slice vp0 vl0 vq0,.slice vp1 vl1 vq1,.slice vp2 vl2 vq2,.int .i64 (v9+1),.int .i64 v10,.bool vb] 34:=X1.setc 12 _;have C2':ChgL [b] w (W.setCell ⟨b,12,none⟩ (.int .i64 (v9+1))):=C1.st _ 12 _ (by simp);clear X1 C1;go_wp2;go_ret;exact ⟨rfl,X2,C2'⟩
set_option maxRecDepth 20000 in
theorem zmj (b:Nat) (v0 v1 v2 v3 v4 v5 v6 v7 v8 vp0 vl0 vq0 vp1 vl1 vq1 vp2 vl2 vq2 v9 v10 vb:_) (w:World) (hB:Box w b #[.int .i64 v0,.int .i64 v1,.int .i64 v2,.int .i64 v3,.int .i64 v4,.int .i64 v5,.int .i64 v6,.int .i64 v7,.int .i64 v8,.slice vp0 vl0 vq0,.slice vp1 vl1 vq1,.slice vp2 vl2 vq2,.int .i64 v9,.int .i64 v10,.bool vb] 34) (hd:vb=false) (d1:(v10 != -1)=true) (d2:decide (v10≤v9)=false) (hwr:-9223372036854775808≤v9∧v9+1≤9223372036854775807) :
 Calls Tryz.prog 74 #[.pointer (some ⟨b,0,none⟩)] w fun e w'=>e=.returned (.bool true)∧Box w' b #[.int .i64 v0,.int .i64 v1,.int .i64 v2,.int .i64 v3,.int .i64 v4,.int .i64 v5,.int .i64 v6,.int .i64 v7,.int .i64 v8,.slice vp0 vl0 vq0,.slice vp1 vl1 vq1,.slice vp2 vl2 vq2,.int .i64 (v9+1),.int .i64 v10,.bool vb] 34∧ChgL [b] w w':=by
 have HD:=hid hd;obtain ⟨vc,hvc⟩:∃ x:Bool,x=vb:=⟨_,rfl⟩
 have zz:IntKind.i64.wrap (v9+1)=v9+1:=by rw [IntKind.wrap_i64];omega
 have x12:w.cell? ⟨b,12,none⟩=some (.int .i64 v9):=hB.cell 12;have x13:w.cell? ⟨b,13,none⟩=some (.int .i64 v10):=hB.cell 13
 have x14:w.cell? ⟨b,14,none⟩=some (.bool false):=by rw [← HD.out];exact hB.cell 14
 clear hwr hd
 go_enter Tryz.func74,Tryz.ntmps74
 go_upto_region 3 with fail
 go_quiet (fail)
 go_upto_region 7 with fail
 obtain ⟨W,hW⟩:∃ x,x=w.drewN nq:=⟨_,rfl⟩;rw [← hW]
 have X1:Box W b (rwV v0 v1 v2 v3 v4 v5 v6 v7 v8 vp0 vl0 vq0 vp1 vl1 vq1 vp2 vl2 vq2 v9 v10 vb).toArray 34:=by rw [hW];exact hB
 have C1:ChgL [b] w W:=by rw [hW];exact ⟨rfl,rfl,rfl,Nat.le_refl _,fun _ _ _=>rfl⟩
 clear hW x12 x13 x14 hB;have y0:W.cell? ⟨b,12,none⟩=some (.int .i64 v9):=X1.cell 12;have yf0:W.frozen? ⟨b,12,none⟩=false:=X1.frozen 12;have X2:Box (W.setCell ⟨b,12,none⟩ (.int .i64 (v9+1))) b #[.int .i64 v0,.int .i64 v1,.int .i64 v2,.int .i64 v3,.int .i64 v4,.int .i64 v5,.int .i64 v6,.int .i64 v7,.int .i64 v8,.slice vp0 vl0 vq0,.slice vp1 vl1 vq1,.slice vp2 vl2 vq2,.int .i64 (v9+1),.int .i64 v10,.bool vb] 34:=X1.setc 12 _;have C2':ChgL [b] w (W.setCell ⟨b,12,none⟩ (.int .i64 (v9+1))):=C1.st _ 12 _ (by simp);clear X1 C1;go_wp2;go_ret;exact ⟨rfl,X2,C2'⟩
theorem zm1 (b:Nat) (v0 v1 v2 v3 v4 v5 v6 v7 v8 vp0 vl0 vq0 vp1 vl1 vq1 vp2 vl2 vq2 v9 v10 vb:_) (w:World) (hB:Box w b #[.int .i64 v0,.int .i64 v1,.int .i64 v2,.int .i64 v3,.int .i64 v4,.int .i64 v5,.int .i64 v6,.int .i64 v7,.int .i64 v8,.slice vp0 vl0 vq0,.slice vp1 vl1 vq1,.slice vp2 vl2 vq2,.int .i64 v9,.int .i64 v10,.bool vb] 34) (hd:vb=false) (hpw:¬ (v10≠-1∧v10≤v9)) (hwr:-9223372036854775808≤v9∧v9+1≤9223372036854775807) :
 Calls Tryz.prog 74 #[.pointer (some ⟨b,0,none⟩)] w fun e w'=>e=.returned (.bool true)∧Box w' b #[.int .i64 v0,.int .i64 v1,.int .i64 v2,.int .i64 v3,.int .i64 v4,.int .i64 v5,.int .i64 v6,.int .i64 v7,.int .i64 v8,.slice vp0 vl0 vq0,.slice vp1 vl1 vq1,.slice vp2 vl2 vq2,.int .i64 (v9+1),.int .i64 v10,.bool vb] 34∧ChgL [b] w w':=by
 by_cases hs:v10=-1
 ·exact zmi b v0 v1 v2 v3 v4 v5 v6 v7 v8 vp0 vl0 vq0 vp1 vl1 vq1 vp2 vl2 vq2 v9 v10 vb w hB hd (by simpa using hs) hwr
 ·exact zmj b v0 v1 v2 v3 v4 v5 v6 v7 v8 vp0 vl0 vq0 vp1 vl1 vq1 vp2 vl2 vq2 v9 v10 vb w hB hd (by simpa using hs) (by simp only [decide_eq_false_iff_not];exact fun h=>hpw ⟨hs,h⟩) hwr
def SpB (w:World) (B:Nat) (d:WorldD) (K:List Nat):Prop:=∃ cs,Box w B cs.toArray 34∧EncO w B d cs K
def SpP (o:Outc) (B:Nat) (w:World) (K:List Nat) (e:Ending) (w':World):Prop:=match o with
 | .done _ d=>e=.returned (.bool true)∧∃ K',SpB w' B d K'∧(∀ b,b∈K'→b∈K∨w.heap.size≤b)∧ChgL (B::K) w w'
 | .cut d=>e=.returned (.bool false)∧∃ K',SpB w' B (cutW d) K'∧(∀ b,b∈K'→b∈K∨w.heap.size≤b)∧ChgL (B::K) w w'
theorem SpB.lt {w:World} {B:Nat} {d:WorldD} {K:List Nat} (h:SpB w B d K):B<w.heap.size:=by
 obtain ⟨cs,h1,_⟩:=h;exact h1.lt
theorem zm2 (B:Nat) (d:WorldD) (K:List Nat) (w:World) (hX:SpB w B d K) (hd:d.down=false) (hwr:-9223372036854775808≤d.writes∧d.writes+1≤9223372036854775807) :
 Calls Tryz.prog 74 #[.pointer (some ⟨B,0,none⟩)] w fun e w'=>((d.stop≠-1∧d.stop≤d.writes)∧e=.returned (.bool false)∧(∃ K',SpB w' B (cutW d) K'∧∀ b,b∈K'→b∈K)∧ChgL [B] w w')∨(¬ (d.stop≠-1∧d.stop≤d.writes)∧e=.returned (.bool true)∧SpB w' B { d with writes:=d.writes+1 } K∧ChgL [B] w w'):=by
 obtain ⟨cs,hB,hO⟩:=hX;obtain ⟨v0,v1,v2,v3,v4,v5,v6,v7,v8,vp0,vl0,vq0,vp1,vl1,vq1,vp2,vl2,vq2,v9,v10,vb,rfl⟩:=zcu hO.own;have st:=zmf hO.own;have wt:=zex hO.own;have dn:=znw hO.T.rd
 by_cases hf:d.stop≠-1∧d.stop≤d.writes
 ·obtain ⟨KC,kc1,kc2,kc3⟩:=zj6 hO.own hO.nd
  refine (zk8 B v0 v1 v2 v3 v4 v5 v6 v7 v8 vp0 vl0 vq0 vp1 vl1 vq1 vp2 vl2 vq2 v9 v10 vb w hB (by rw [dn];exact hd) (by rw [st];exact hf.1) (by rw [st,wt];exact hf.2)).mono ?_;rintro e w' ⟨rfl,X5,C5⟩;refine .inl ⟨hf,rfl,⟨KC,⟨_,X5,Lay.own_chgL _ kc1 C5 (fun b hb hm=>?_),kc2,fun hm=>hO.ne (kc3 _ hm)⟩,kc3⟩,C5⟩
  simp at hm
  exact hO.ne (hm ▸ kc3 b hb)
 ·refine (zm1 B v0 v1 v2 v3 v4 v5 v6 v7 v8 vp0 vl0 vq0 vp1 vl1 vq1 vp2 vl2 vq2 v9 v10 vb w hB (by rw [dn];exact hd) (by rw [st,wt];exact hf) (by rw [wt];exact hwr)).mono ?_
  rintro e w' ⟨rfl,X5,C5⟩;have O2:=zd9 (d.writes+1) (by omega) hO.own;rw [wt] at X5;exact .inr ⟨hf,rfl,⟨_,X5,Lay.own_chgL _ O2 C5 (fun b hb hm=>by simp at hm;exact hO.ne (hm ▸ hb)),hO.nd,hO.ne⟩,C5⟩
structure Fit2 (n:Nat) (d:WorldD):Prop where
 two:d.tapes.1=2
 few:∀ T,T<2→(d.tapes.2 T).recs.1≤1048576
 up:d.down=false
 low:-9223372036854775808≤d.writes
 room:d.writes+n≤9223372036854775807
def zaE (kd sq:Int) (k:Nat):WorldD→Outc:=rawO (fun d=>zcP d k kd sq)
theorem zk9 (p:Nat×(Nat→RecD)) (kd sq:Int):(zbr p kd sq).1≤p.1:=by
 show (zai (fun i=>zaM kd sq (p.2 i)) p.1).length≤p.1
 unfold zai;exact Nat.le_trans (List.length_filter_le _ _) (by simp)
theorem zdh {n:Nat} {d d2:WorldD} {c kd sq:Int} {k:Nat} (h:Fit2 (n+1) d) (hk:k<2) (e:zaE kd sq k d=.done c d2):Fit2 n d2:=by
 unfold zaE rawO at e
 split at e
 ·cases e
 ·simp only [Outc.done.injEq] at e
  obtain ⟨_,rfl⟩:=e;have hr:=h.room;have hl:=h.low;refine ⟨h.two,fun T hT=>?_,h.up,?_,?_⟩
  ·show ((upd d.tapes.2 k (zdC (d.tapes.2 k) kd sq)) T).recs.1≤_
   by_cases c:T=k
   ·subst c
    rw [zaZ];exact Nat.le_trans (zk9 _ _ _) (h.few T hT)
   ·rw [za5 _ _ c]
    exact h.few T hT
  ·show _≤d.writes+1
   omega
  ·show d.writes+1+n≤_
   have:((n+1:Nat):Int)=(n:Int)+1:=by omega
   omega
set_option maxRecDepth 20000 in
theorem zdO (B:Nat) (d:WorldD) (K:List Nat) (kd sq:Int) (w:World) (hX:SpB w B d K) (hf:Fit2 2 d) :
 Calls Tryz.prog 42 #[.pointer (some ⟨B,0,none⟩),.int .i64 kd,.int .i64 sq] w (SpP (runO (zaE kd sq) 2 0 d) B w K):=by
 have HX:Hid (SpB w B d K):=hX;have HF:Hid (Fit2 2 d):=hf;clear hX hf
 go_enter Tryz.func42,Tryz.ntmps42
 go_wp2
 go_loopw [7] (fun i wr=>∃ (k m:Nat) (d1:WorldD) (K1:List Nat),k+m=2∧i=.int .i64 k∧SpB wr B d1 K1∧(∀ x,x∈K1→x∈K∨w.heap.size≤x)∧ChgL (B::K) w wr∧Fit2 m d1∧runO (zaE kd sq) 2 0 d=runO (zaE kd sq) m k d1) (fun i _=>2-(intOf i).toNat)
 case atStart=>exact ⟨0,2,d,K,by omega,rfl,HX.out,fun x hx=>.inl hx,ChgL.refl _ _,HF.out,rfl⟩
 case round=>
  obtain ⟨k,m,d1,K1,hkm,rfl,hX1,hK1,hC1,hf1,ho⟩:=hrel;have HK1:Hid (∀ x,x∈K1→x∈K∨w.heap.size≤x):=hK1;have HC1:Hid (ChgL (B::K) w wr):=hC1;have HO:Hid (runO (zaE kd sq) 2 0 d=runO (zaE kd sq) m k d1):=ho;have HF1:Hid (Fit2 m d1):=hf1;have HX1:Hid (SpB wr B d1 K1):=hX1;have zr:=hC1.size;clear hK1 hC1 ho hX1
  cases m with
  | zero=>
   obtain rfl:k=2:=by omega
   clear hf1 hkm;go_wp2;go_ret;rw [HO.out];exact ⟨rfl,K1,HX1.out,HK1.out,HC1.out⟩
  | succ m=>
   have hk2:k<2:=by omega
   have t1:(k:Int)<2:=by omega
   have CR:=zm2 B d1 K1 wr HX1.out hf1.up (by have:=hf1.low;have:=hf1.room;omega);clear hf1
   go_wp2_with fail
   refine CR.mono ?_;rintro e w5 (⟨hfl,rfl,⟨K5,X5,s5⟩,C5⟩ | ⟨hfl,rfl,X5,C5⟩)
   ·clear CR
    go_wp2;go_ret;rw [HO.out]
    have e:runO (zaE kd sq) (m+1) k d1=.cut d1:=by
     show (zaE kd sq k d1).next _=_
     unfold zaE rawO;rw [if_pos hfl];rfl
    rw [e];exact ⟨rfl,K5,X5,fun b hb=>HK1.out b (s5 b hb),HC1.out.trans (C5.mono (fun b hb=>by simp at hb;simp [hb]))⟩
   ·have HFL:Hid (¬ (d1.stop≠-1∧d1.stop≤d1.writes)):=hfl
    have HC5:Hid (ChgL [B] wr w5):=C5;have z5:=C5.size;clear CR hfl C5;obtain ⟨cs5,B5,O5⟩:=X5;have O5d:EncO w5.drew B { d1 with writes:=d1.writes+1 } cs5 K1:=O5.chg (ChgL.refl [B] _).drew;obtain ⟨p1,c1,p2,c2,p3,c3,K1',K2',K3',rfl,rfl,WO⟩:=O5d.open;have two:=HF1.out.two;obtain ⟨gt,cap,ce,Ls,e3,eL,S3⟩:=zbP WO.t (by show d1.tapes.1≠0;omega)
    simp only [List.cons.injEq,Value.slice.injEq,and_true,true_and] at e3
    obtain ⟨rfl,rfl⟩:=e3;subst eL
    have hT:k<d1.tapes.1:=by omega
    have nd3:(gt::catN d1.tapes.1 Ls).Nodup:=(List.nodup_append.1 (List.nodup_append.1 WO.nd).2.1).2.1;obtain ⟨ao9,cap9,K9,e9,eK9,o9⟩:=ze5 (S3.each k hT);have in9:∀ b,b∈K9→b∈gt::catN d1.tapes.1 Ls:=fun b hb=>SlO.sub k hT b (by rw [eK9];exact hb);have inK:∀ b,b∈gt::catN d1.tapes.1 Ls→b∈K1'++(K2'++(gt::catN d1.tapes.1 Ls)):=fun b hb=>List.mem_append_right _ (List.mem_append_right _ hb);have hgt:gt∉K9:=fun hb=>(List.nodup_cons.1 nd3).1 (zaJ.2 ⟨k,hT,by rw [eK9];exact hb⟩);have hB9:B∉K9:=fun hb=>O5.ne (inK _ (in9 _ hb));have x11:w5.drew.cell? ⟨B,11,none⟩=some (.slice (some ⟨gt,0,none⟩) d1.tapes.1 c3):=B5.cell 11;have y1:w5.drew.cell? ⟨gt,k*2+1,none⟩=some (.slice ao9 (d1.tapes.2 k).recs.1 cap9):=(S3.cell hT (j:=1) (by decide)).trans (by rw [e9];rfl);have hgl:gt<w5.drew.heap.size:=S3.lt;have hBl:B<w5.drew.heap.size:=B5.lt;have KS:∀ w',ChgL K9 w5.drew w'→(w'.cell? ⟨B,11,none⟩=some (.slice (some ⟨gt,0,none⟩) d1.tapes.1 c3)∧w'.cell? ⟨gt,k*2+1,none⟩=some (.slice ao9 (d1.tapes.2 k).recs.1 cap9)):=fun w' hc=>⟨(World.cell?_of_block (hc.block B hBl hB9)).trans x11,(World.cell?_of_block (hc.block gt hgl hgt)).trans y1⟩;have CC:=zk4 o9 (by rw [← eK9];exact zen (List.nodup_cons.1 nd3).2 hT) (HF1.out.few k hk2) kd sq
    have i1:(0:Int)≤(k:Int):=by omega
    have i2:(k:Int)<(d1.tapes.1:Int):=by omega
    have HNE:Hid (B∉K1'++(K2'++(gt::catN d1.tapes.1 Ls))):=O5.ne;have HBX:Hid (Box w5.drew B _ 34):=B5;clear two O5d O5 B5
    go_upto_region 6 with fail
    refine zb0 18 (fun w'=>w'.cell? ⟨B,11,none⟩=some (.slice (some ⟨gt,0,none⟩) d1.tapes.1 c3)∧w'.cell? ⟨gt,k*2+1,none⟩=some (.slice ao9 (d1.tapes.2 k).recs.1 cap9)) (by kernel_rfl) (KS _ (ChgL.refl _ _)) (fun hHeld=>?_);refine zn6 0 rfl ?_
    try simp only [Act.put,SL]
    refine zn6 1 rfl ?_
    try simp only [Act.put,SL]
    refine zn6 2 rfl ?_
    try simp only [Act.put,SL]
    refine zn6 3 rfl ?_
    try simp only [Act.put,SL]
    refine zn6 4 rfl ?_
    try simp only [Act.put,SL]
    refine zn6 5 rfl ?_
    try simp only [Act.put,SL]
    refine zn6 6 rfl ?_
    try simp only [Act.put,SL]
    refine zn6 7 rfl ?_
    try simp only [Act.put,SL]
    refine zn6 8 rfl ?_
    try simp only [Act.put,SL]
    refine zn6 9 rfl ?_
    try simp only [Act.put,SL]
    refine zn6 10 rfl ?_
    try simp only [Act.put,SL]
    refine zn6 11 rfl ?_
    try simp only [Act.put,SL]
    refine zn6 12 rfl ?_
    try simp only [Act.put,SL]
    refine zn6 13 rfl ?_
    try simp only [Act.put,SL]
    refine zn6 14 rfl ?_
    try simp only [Act.put,SL]
    refine zaX (i:=15) (o:=_) rfl (by kernel_rfl) (fun KC hKC=>?_)
    refine zbJ rfl 75 _ _ rfl #[.slice ao9 (d1.tapes.2 k).recs.1 cap9,.int .i64 kd,.int .i64 sq] ?_ Tryz.func75 (by kernel_rfl) (by kernel_rfl) CC ?_;(simp [Act.eval,Act.put]);rintro ee w6 ⟨ao',cap',K',rfl,TT⟩;have k1:=KS w6 TT.chg;have f1:w6.frozen? ⟨gt,k*2+1,none⟩=false:=(World.frozen?_of_block (a:=⟨gt,k*2+1,none⟩) (TT.chg.block gt S3.lt hgt)).trans (S3.frozen _);have t1:w6.cell? ⟨gt,k*2+1,none⟩=some (.slice ao9 (d1.tapes.2 k).recs.1 cap9):=k1.2;refine ⟨_,rfl,?_⟩
    refine hKC.out _ _ (k1) (fun hHeld=>?_);clear hKC KC
    try simp only [Act.put,SL]
    refine zn6 16 rfl ?_
    try simp only [Act.put,SL]
    refine zn6 17 rfl ?_
    try simp only [Act.put,SL]
    refine zbY (o:=_) rfl (by kernel_rfl) (fun KC hKC=>?_);go_simp;refine hKC.out _ _ ?_;clear hKC KC
    try simp only [Act.put,SL]
    refine zbZ (by kernel_rfl) ?_ _;have TK:=zfW e9 TT;rw [← eK9] at TK;obtain ⟨T7,-⟩:=S3.turn_cell nd3 hT (j:=1) (by decide) _ TK (w':=w6.setCell ⟨gt,k*zaj.sz+1,none⟩ (.slice ao' (zbr (d1.tapes.2 k).recs kd sq).1 cap')) rfl;have WO7:=WO.tapes (Nat.le_refl _) (Nat.zero_le _) T7;have hin:∀ b,b∈gt::catN d1.tapes.1 Ls→b≠B:=fun b hb he=>HNE.out (by rw [← he];exact inK b hb);have X7:=HBX.out.chgl T7.chg (fun hb=>hin B hb rfl)
    have sub7:∀ b,b∈K1'++(K2'++(gt::catN d1.tapes.1 (upd Ls k K')))→b∈K1'++(K2'++(gt::catN d1.tapes.1 Ls))∨w5.heap.size≤b:=fun b hb=>by
     rcases List.mem_append.1 hb with h | h
     ·exact .inl (List.mem_append_left _ h)
     ·rcases List.mem_append.1 h with h | h
      ·exact .inl (List.mem_append_right _ (List.mem_append_left _ h))
      ·rcases T7.sub b h with h | h
       ·exact .inl (inK b h)
       ·exact .inr h.1
    have hE7:B∉K1'++(K2'++(gt::catN d1.tapes.1 (upd Ls k K'))):=fun hm=>by
     rcases sub7 B hm with h | h
     ·exact HNE.out h
     ·have:B<w5.heap.size:=hBl
      omega
    have O7:=WO7.encO hE7;rw [List.append_nil] at O7;obtain ⟨W7,hW7⟩:∃ x,x=w6.setCell ⟨gt,k*zaj.sz+1,none⟩ (.slice ao' (zbr (d1.tapes.2 k).recs kd sq).1 cap'):=⟨_,rfl⟩
    have S7:SpB W7 B ({ zcP d1 k kd sq with writes:=d1.writes+1 }) (K1'++(K2'++(gt::catN d1.tapes.1 (upd Ls k K')))):=by rw [hW7];refine ⟨_,?_,O7⟩;exact X7
    have C7:ChgL (B::(K1'++(K2'++(gt::catN d1.tapes.1 Ls)))) wr W7:=by
     have h1:ChgL (B::(K1'++(K2'++(gt::catN d1.tapes.1 Ls)))) wr w5.drew:=(HC5.out.mono (fun b hb=>by simp at hb;simp [hb])).trans ((ChgL.refl _ _).drew);rw [hW7];exact h1.trans (T7.chg.mono (fun b hb=>List.mem_cons_of_mem _ (inK b hb)))
    have HS7:Hid (SpB W7 B ({ zcP d1 k kd sq with writes:=d1.writes+1 }) (K1'++(K2'++(gt::catN d1.tapes.1 (upd Ls k K'))))):=S7;have HC7:Hid (ChgL (B::(K1'++(K2'++(gt::catN d1.tapes.1 Ls)))) wr W7):=C7
    have HS8:Hid (∀ b,b∈K1'++(K2'++(gt::catN d1.tapes.1 (upd Ls k K')))→b∈K∨w.heap.size≤b):=fun b hb=>by
     rcases sub7 b hb with h | h
     ·exact HK1.out b h
     ·exact .inr (by omega)
    clear S7 C7 O7 X7 WO7 T7 TK TT S3 nd3 e9 eK9 o9 KS CC k1 WO
    go_upto_region 3 with fail
    change Code.wp Tryz.prog _ _ _ (w6.setCell ⟨gt,k*zaj.sz+1,none⟩ (.slice ao' (zbr (d1.tapes.2 k).recs kd sq).1 cap'))
    rw [← hW7];clear hW7;go_wp2
    go_roundw
    case rel=>
     have e1:zaE kd sq k d1=.done 0 { zcP d1 k kd sq with writes:=d1.writes+1 }:=by unfold zaE rawO;rw [if_neg HFL.out]
     refine ⟨k+1,m,_,_,by omega,by go_num,HS7.out,HS8.out,zcj HC1.out HK1.out HC7.out,zdh HF1.out hk2 e1,?_⟩;rw [HO.out]
     show (zaE kd sq k d1).next _=_
     rw [e1]
     simp [Outc.next]
    case measure=>simp [intOf];omega
end Go.Proofs.YthbpmbgfddpffaaGreat
namespace Go.Proofs.YthbpmbgfddpffaaGreat
open Go.RowKit
section
variable {ops:Array Oper} {Q:Exit→Act→World→Prop} {md:Region.Mode} {S:World→Prop} {L:Nat}
theorem zgC {o:Oper} {a:Act} (T:TypeId) (x:Operand) (ho:o.op=.load T x) (hg:o.guard=none) (b:Nat) (hx:a.eval x=.pointer (some ⟨b,0,none⟩)) {cs:List Value} (hB:∀ w,S w→Box w b cs.toArray T) {fs:Array Field} (hu:Tryz.prog.underlying T=some (.struct fs)) {n:Nat} (hi:(Tryz.prog.info? T).map (·.size)=some n) (hl:cs.length=n):YieldsIf Tryz.prog ops S o (.agg cs.toArray) a:=by
 refine .inl ⟨by simp [Region.wanted,hg],fun w hS=>?_⟩;unfold execOp
 simp only [ho,hx,Instr.loadAt,Instr.sureAddr,Sem.run_bind,Sem.run_pure,Result.andThen_ok,run_loadVar_row w b T T cs.toArray (0,0) (.struct fs) (hB w hS) hu rfl (by rw [hi];simp [hl])]
end
theorem zla (w:World):Below w.heap.size w w.drew:=⟨rfl,rfl,rfl,Nat.le_refl _,fun _ _=>rfl⟩
end Go.Proofs.YthbpmbgfddpffaaGreat
namespace Go.Proofs.YthbpmbgfddpffaaGreat
open Go.RowKit F256
structure Cap2 (w wc:World) (c1:Array Value) (x y:Int) (c4:Array Value) (t1 t4:TypeId):Prop where
 b1:Box wc w.heap.size c1 t1
 b2:Box wc (w.heap.size+1) #[.int .i64 x] 2
 b3:Box wc (w.heap.size+1+1) #[.int .i64 y] 2
 b4:Box wc (w.heap.size+1+1+1) c4 t4
 bel:Below w.heap.size w wc
def AskAns (d:WorldD) (x:Int):Prop:=(x≠0∧WldAns d x)∨(WldAns d 0∧((d.down=true∧x=9)∨(d.down=false∧x=0)))
theorem AskAns.one {d:WorldD} {x y:Int} (h:AskAns d x) (k:AskAns d y):x=y:=by
 rcases h with ⟨h1,h2⟩ | ⟨h1,h2⟩<;>rcases k with ⟨k1,k2⟩ | ⟨k1,k2⟩
 ·exact h2.one k2
 ·exact absurd (h2.one k1) h1
 ·exact absurd (k2.one h1) k1
 ·rcases h2 with ⟨a,rfl⟩ | ⟨a,rfl⟩<;>rcases k2 with ⟨b,rfl⟩ | ⟨b,rfl⟩
  ·rfl
  ·rw [a] at b;cases b
  ·rw [a] at b;cases b
  ·rfl
def zmk (P:Int→Prop) (w:World) (e:Ending) (w':World):Prop:=∃ x,e=.returned (.int .i64 x)∧P x∧Below w.heap.size w w'
set_option maxRecDepth 20000 in
theorem zjz (d:WorldD) (cs:List Value) (hi:Nat) (w:World) (h:zae.rd w hi d cs) (hhi:hi≤w.heap.size) (hsz:zbg d≤1048576) :
 Calls Tryz.prog 16 #[.agg cs.toArray] w (zmk (AskAns d) w):=by
 have C:=fun w' hb=>zgT d cs hi w' (zae.rd_below h (B:=w.heap.size) hb hhi);obtain ⟨ao1,cap1,ao2,cap2,ao3,cap3,rfl,-⟩:=zaV h;have T0:=zaK w (rwW d ao1 cap1 ao2 cap2 ao3 cap3).toArray 34;clear h
 go_enter Tryz.func16,Tryz.ntmps16
 go_wp2_with (refine zav 34 (.tmp 1) rfl rfl w.heap.size rfl T0.b1 Tryz.underlying34 zbL rfl ?_)
 refine (C _ T0.bel (Nat.le_trans hhi T0.bel.size) (zeT hsz)).mono ?_;rintro e w1 ⟨x,rfl,hx,b1⟩;have T1:=T0.call b1;have HX:=hid hx;have HB:=hid T1.bel;have c14:w1.cell? ⟨w.heap.size,14,none⟩=some (.bool d.down):=T1.b1.cell 14;clear T0 T1 b1 C hx
 by_cases hx0:x=0
 ·subst hx0
  obtain ⟨dn,hdn⟩:∃ b,b=d.down:=⟨_,rfl⟩;rw [← hdn] at c14;have HD:=hid hdn;clear hdn
  cases dn with
  | true=>
   go_wp2;go_ret;exact ⟨9,rfl,.inr ⟨HX.out,.inl ⟨HD.out.symm,rfl⟩⟩,HB.out⟩
  | false=>
   go_wp2;go_ret;exact ⟨0,rfl,.inr ⟨HX.out,.inr ⟨HD.out.symm,rfl⟩⟩,HB.out⟩
 ·have hne:(x != 0)=true:=by simp [hx0]
  go_wp2;go_ret;exact ⟨x,rfl,.inl ⟨hx0,HX.out⟩,HB.out⟩
set_option maxRecDepth 20000 in
theorem zjA (d:WorldD) (cs:List Value) (hi:Nat) (w:World) (h:zae.rd w hi d cs) (hhi:hi≤w.heap.size) (hsz:zbg d≤1048576) :
 Calls Tryz.prog 24 #[.agg cs.toArray] w (zmk (AskAns d) w):=by
 have C:=fun w' hb=>zg1 d cs hi w' (zae.rd_below h (B:=w.heap.size) hb hhi);obtain ⟨ao1,cap1,ao2,cap2,ao3,cap3,rfl,-⟩:=zaV h;have T0:=zaK w (rwW d ao1 cap1 ao2 cap2 ao3 cap3).toArray 34;clear h
 go_enter Tryz.func24,Tryz.ntmps24
 go_wp2_with (refine zav 34 (.tmp 1) rfl rfl w.heap.size rfl T0.b1 Tryz.underlying34 zbL rfl ?_)
 refine (C _ T0.bel (Nat.le_trans hhi T0.bel.size) (zeT hsz)).mono ?_;rintro e w1 ⟨x,rfl,hx,b1⟩;have T1:=T0.call b1;have HX:=hid hx;have HB:=hid T1.bel;have c14:w1.cell? ⟨w.heap.size,14,none⟩=some (.bool d.down):=T1.b1.cell 14;clear T0 T1 b1 C hx
 by_cases hx0:x=0
 ·subst hx0
  obtain ⟨dn,hdn⟩:∃ b,b=d.down:=⟨_,rfl⟩;rw [← hdn] at c14;have HD:=hid hdn;clear hdn
  cases dn with
  | true=>
   go_wp2;go_ret;exact ⟨9,rfl,.inr ⟨HX.out,.inl ⟨HD.out.symm,rfl⟩⟩,HB.out⟩
  | false=>
   go_wp2;go_ret;exact ⟨0,rfl,.inr ⟨HX.out,.inr ⟨HD.out.symm,rfl⟩⟩,HB.out⟩
 ·have hne:(x != 0)=true:=by simp [hx0]
  go_wp2;go_ret;exact ⟨x,rfl,.inl ⟨hx0,HX.out⟩,HB.out⟩
theorem zey {d:WorldD} {x:Int} (h:AskAns d x):(-9223372036854775808≤x∧x≤9223372036854775807):=by
 rcases h with ⟨_,h⟩ | ⟨_,h | h⟩
 ·exact zlE h
 ·rw [h.2];decide
 ·rw [h.2];decide
theorem znj {d:WorldD} (h:AskAns d 0):OkWorld d:=by
 rcases h with ⟨h,_⟩ | ⟨h,_⟩
 ·exact absurd rfl h
 ·exact h.ok
theorem znk {d:WorldD} (h:AskAns d 0):d.down=false:=by
 rcases h with ⟨h,_⟩ | ⟨_,⟨_,h⟩ | ⟨h,_⟩⟩
 ·exact absurd rfl h
 ·cases h
 ·exact h
end Go.Proofs.YthbpmbgfddpffaaGreat
