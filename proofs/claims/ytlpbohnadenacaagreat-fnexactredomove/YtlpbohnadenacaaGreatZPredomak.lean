/- The work that strikes records, under power and where it fails; withPower over it. -/
import Derived.Shelf.Abstract
import Derived.Test.YtlpbohnadenacaaGreatZPredomaj
set_option linter.unusedVariables false
set_option linter.unusedSimpArgs false
set_option maxHeartbeats 16000000
namespace Go.Proofs.YtlpbohnadenacaaGreat
open Go.RowKit F256
inductive Outc where
 | done (c:Int) (d:WorldD)
 | cut (d:WorldD)
def rawO (ch:WorldD→WorldD) (d:WorldD):Outc:=if d.stop≠-1∧d.stop≤d.writes then .cut d else .done 0 { ch d with writes:=d.writes+1 }
def Outc.next (o:Outc) (f:WorldD→Outc):Outc:=match o with
 | .done c d=>if c=0 then f d else .done c d
 | .cut d=>.cut d
def runO (f:Nat→WorldD→Outc):Nat→Nat→WorldD→Outc
 | 0,_,d=>.done 0 d
 | m+1,k,d=>(f k d).next (runO f m (k+1))
def EncB (w:World) (E:Nat) (d:WorldD) (K:List Nat):Prop:=∃ cs,Box w E (([.int .i32 0,.int .u32 0,.int .u32 0,.int .i32 0,.int .u32 0]:List Value)++cs).toArray 133∧EncO w E d cs K
def EncF (w:World) (E:Nat) (d:WorldD) (K:List Nat):Prop:=∃ cs,Box w E (([.int .i32 0,.int .u32 0,.int .u32 1,.int .i32 0,.int .u32 0]:List Value)++cs).toArray 133∧EncO w E (cutW d) cs K
def RunP (rv:Int→Value) (o:Outc) (E:Nat) (w:World) (K:List Nat) (e:Ending) (w':World):Prop:=match o with
 | .done c d=>e=.returned (rv c)∧∃ K',EncB w' E d K'∧(∀ b,b∈K'→b∈K∨w.heap.size≤b)∧ChgL (E::K) w w'
 | .cut d=>e=.panicked [{ v:=.iface 187 (.agg #[]),recovered:=false }]∧∃ K',EncF w' E d K'∧(∀ b,b∈K'→b∈K∨w.heap.size≤b)∧ChgL (E::K) w w'
theorem EncB.lt {w:World} {E:Nat} {d:WorldD} {K:List Nat} (h:EncB w E d K):E<w.heap.size:=by
 obtain ⟨cs,h1,_⟩:=h;exact h1.lt
theorem zcZ {E:Nat} {K K1:List Nat} {w w1 w2:World} (h:ChgL (E::K) w w1) (hk:∀ b,b∈K1→b∈K∨w.heap.size≤b) (h2:ChgL (E::K1) w1 w2):ChgL (E::K) w w2:=
 ⟨h2.os.trans h.os,h2.tape.trans h.tape,h2.output.trans h.output,Nat.le_trans h.size h2.size,fun b hb hn=>by
  refine (h2.block b (Nat.lt_of_lt_of_le hb h.size) (fun hm=>?_)).trans (h.block b hb hn)
  rcases List.mem_cons.1 hm with rfl | hm
  ·exact hn (List.mem_cons_self ..)
  ·rcases hk b hm with h3 | h3
   ·exact hn (List.mem_cons_of_mem _ h3)
   ·omega⟩
theorem RunP.after {rv:Int→Value} {o:Outc} {E:Nat} {w w1 w2:World} {K K1:List Nat} {e:Ending} (hk:∀ b,b∈K1→b∈K∨w.heap.size≤b) (hc:ChgL (E::K) w w1) (h:RunP rv o E w1 K1 e w2):RunP rv o E w K e w2:=by
 have hz:=hc.size
 cases o with
 | done c d=>
  obtain ⟨h1,K',h2,h3,h4⟩:=h
  exact ⟨h1,K',h2,fun b hb=>by
   rcases h3 b hb with h | h
   ·exact hk b h
   ·exact .inr (by omega),zcZ hc hk h4⟩
 | cut d=>
  obtain ⟨h1,K',h2,h3,h4⟩:=h
  exact ⟨h1,K',h2,fun b hb=>by
   rcases h3 b hb with h | h
   ·exact hk b h
   ·exact .inr (by omega),zcZ hc hk h4⟩
def zkO (F:Nat):Prop:=∀ (args:Array Value) (w:World),(callFunc F args).run Tryz.prog w=.ok (.enter F args) w
def TaskV (F:Nat) (caps:Array Value) (f:WorldD→Outc) (fit:WorldD→Prop) (B:Nat) (w0:World):Prop:=
 zkO F∧∀ (w:World) (E:Nat) (d:WorldD) (K:List Nat),Below B w0 w→B≤E→(∀ b,b∈K→B≤b)→EncB w E d K→fit d→Calls Tryz.prog F (#[.pointer (some ⟨E,0,none⟩)]++caps) w (RunP (fun c=>.int .i64 c) (f d) E w K)
theorem TaskV.later {F:Nat} {caps:Array Value} {f:WorldD→Outc} {fit:WorldD→Prop} {B B':Nat} {w0 w1:World} (h:TaskV F caps f fit B w0) (hb:Below B w0 w1) (hB:B≤B'):TaskV F caps f fit B' w1:=
 ⟨h.1,fun w E d K h1 h2 h3 h4 h5=>h.2 w E d K (hb.trans (h1.mono hB)) (by omega) (fun b hk=>by have:=h3 b hk;omega) h4 h5⟩
def zir (o:Outc) (P:WorldD→Prop):Prop:=match o with
 | .done c d=>c=0→P d
 | .cut _=>True
def zfm (f:Nat→WorldD→Outc) (fit:Nat→WorldD→Prop):Nat→Nat→WorldD→Prop
 | 0,_,_=>True
 | m+1,k,d=>fit k d∧zir (f k d) (zfm f fit m (k+1))
set_option maxRecDepth 20000 in
theorem zjQ (F:Nat→Nat) (caps:Nat→Array Value) (f:Nat→WorldD→Outc) (fit:Nat→WorldD→Prop) (B n b off cap:Nat) (w:World) (E:Nat) (d:WorldD) (K:List Nat)
 (hT:∀ i,i<n→TaskV (F i) (caps i) (f i) (fit i) B w) (hc:∀ i,i<n→w.cell? ⟨b,off+i,none⟩=some (.func (.func (F i)) #[] (caps i))) (hb:b<w.heap.size) (hbE:b≠E∧b∉K) (hBE:B≤E) (hBK:∀ b,b∈K→B≤b) (hn:n≤1000000) (hX:EncB w E d K) (hf:zfm f fit n 0 d) :
 Calls Tryz.prog 80 #[.pointer (some ⟨E,0,none⟩),.slice (some ⟨b,off,none⟩) n cap] w (RunP (fun c=>.int .i64 c) (runO f n 0 d) E w K):=by
 have HX:=hid hX;have HT:=hid hT;have HBE:=hid hbE;have HBK:=hid hBK;have HF:=hid hf;have HC:=hid hc;clear hX hT hbE hBK hf hc
 go_enter Tryz.func80,Tryz.ntmps80
 go_wp2
 go_loopw [10] (fun i wr=>∃ (k m:Nat) (d1:WorldD) (K1:List Nat),k+m=n∧i=.int .i64 k∧EncB wr E d1 K1∧(∀ x,x∈K1→x∈K∨w.heap.size≤x)∧ChgL (E::K) w wr∧zfm f fit m k d1∧runO f n 0 d=runO f m k d1) (fun i _=>n-(intOf i).toNat)
 case atStart=>exact ⟨0,n,d,K,by omega,rfl,HX.out,fun x hx=>.inl hx,ChgL.refl _ _,HF.out,rfl⟩
 case round=>
  obtain ⟨k,m,d1,K1,hkm,rfl,hX1,hK1,hC1,hf1,ho⟩:=hrel;have HX1:=hid hX1;have HK1:=hid hK1;have HC1:=hid hC1;have HO:=hid ho;have HF1:=hid hf1;have zr:=hC1.size;clear hX1 hK1 hf1 ho
  cases m with
  | zero=>
   obtain rfl:k=n:=by omega
   clear hC1 hkm;go_wp2;go_ret;rw [HO.out];exact ⟨rfl,K1,HX1.out,HK1.out,HC1.out⟩
  | succ m=>
   have hlt:k<n:=by omega
   have t1:(k:Int)<(n:Int):=by omega
   have ck:wr.cell? ⟨b,off+k,none⟩=some (.func (.func (F k)) #[] (caps k)):=(World.cell?_of_block (hC1.block b hb (fun hm=>by
    rcases List.mem_cons.1 hm with h | h
    ·exact HBE.out.1 h
    ·exact HBE.out.2 h))).trans (HC.out k hlt)
   have CT:=(HT.out k hlt).2 wr E d1 K1 (hC1.bel (fun x hx=>by
    rcases List.mem_cons.1 hx with rfl | h
    ·exact hBE
    ·exact HBK.out x h) (by have:=HX.out.lt;omega)) hBE (fun x hx=>by
     rcases HK1.out x hx with h | h
     ·exact HBK.out x h
     ·have:=HX.out.lt;omega) HX1.out HF1.out.1
   obtain ⟨Fk,hFk⟩:∃ x,x=F k:=⟨_,rfl⟩;obtain ⟨ck9,hck9⟩:∃ x,x=caps k:=⟨_,rfl⟩;have eF:=(HT.out k hlt).1;rw [← hFk,← hck9] at ck CT;rw [← hFk] at eF;unfold zkO at eF;obtain ⟨oc,hoc⟩:∃ x,x=f k d1:=⟨_,rfl⟩;have HOC:=hid hoc;rw [← hoc] at CT
   have HF2:Hid (zir oc (zfm f fit m (k+1))):=by rw [hoc];exact HF1.out.2
   have HO2:Hid (runO f n 0 d=oc.next (runO f m (k+1))):=by rw [hoc];exact HO.out
   clear hC1 hFk hck9 hoc
   cases oc with
   | cut d2=>
    go_wp2_with (go_at_fn Fk;refine CT.mono ?_;rintro e w5 ⟨rfl,K5,X5,s5,C5⟩)
    exact ⟨rfl,by
     rw [HO2.out]
     exact RunP.after (rv:=fun c=>.int .i64 c) (o:=.cut d2) HK1.out HC1.out ⟨rfl,K5,X5,s5,C5⟩⟩
   | done c d2=>
    by_cases hc0:c=0
    ·subst hc0
     go_wp2_with (go_at_fn Fk;refine CT.mono ?_;rintro e w5 ⟨rfl,K5,X5,s5,C5⟩)
     go_roundw
     case rel=>exact ⟨k+1,m,d2,K5,by omega,by go_num,X5,fun x hx=>by
      rcases s5 x hx with h | h
      ·exact HK1.out x h
      ·exact .inr (by omega),zcZ HC1.out HK1.out C5,HF2.out rfl,by rw [HO2.out];simp [Outc.next]⟩
     case measure=>simp [intOf];omega
    ·have hne:(c != 0)=true:=by simpa using hc0
     have HNE:=hid hc0;clear hc0
     go_wp2_with (go_at_fn Fk;refine CT.mono ?_;rintro e w5 ⟨rfl,K5,X5,s5,C5⟩)
     go_ret;rw [HO2.out]
     have e:(Outc.done c d2).next (runO f m (k+1))=.done c d2:=by simp [Outc.next,HNE.out]
     rw [e];exact RunP.after (rv:=fun c=>.int .i64 c) (o:=.done c d2) HK1.out HC1.out ⟨rfl,K5,X5,s5,C5⟩
theorem zkP {F : Nat} {fn : Func} (hfn : Tryz.prog.funcs[F]? = some fn) (hnm : (fn.name == "runtime.NumGoroutine") = false) (hbd : fn.body.isSome = true) : zkO F := fun args w => by
 have hn' : ¬ fn.name = "runtime.NumGoroutine" := by simpa using hnm
 have hb':¬ fn.body=none:=by intro h;rw [h] at hbd;cases hbd
 simp [callFunc,hfn,hn',hb']
def CarP (o:Outc) (E cb:Nat) (w:World) (K:List Nat) (e:Ending) (w':World):Prop:=match o with
 | .done c d=>e=.returned (.tuple #[])∧∃ K',EncB w' E d K'∧(∀ b,b∈K'→b∈K∨w.heap.size≤b)∧Box w' cb #[.int .i64 c] 2∧ChgL (E::cb::K) w w'
 | .cut d=>e=.panicked [{ v:=.iface 187 (.agg #[]),recovered:=false }]∧∃ K',EncF w' E d K'∧(∀ b,b∈K'→b∈K∨w.heap.size≤b)∧ChgL (E::K) w w'
def Outc.told:Outc→WorldResultD
 | .done _ d=>⟨0,d⟩
 | .cut d=>⟨9,cutW d⟩
def Outc.code:Outc→Int
 | .done c _=>c
 | .cut _=>0
def PowP (o:Outc) (cb:Nat) (w:World) (e:Ending) (w':World):Prop:=∃ cs,e=.returned (.agg cs.toArray)∧OwnT zai w' w.heap.size w'.heap.size o.told cs∧Box w' cb #[.int .i64 o.code] 2∧ChgL [cb] w w'
theorem zgE (F:Nat→Nat) (caps:Nat→Array Value) (f:Nat→WorldD→Outc) (fit:Nat→WorldD→Prop) (B n b off cap tb cb:Nat) (w:World) (E:Nat) (d:WorldD) (K:List Nat)
 (hT:∀ i,i<n→TaskV (F i) (caps i) (f i) (fit i) B w) (hc:∀ i,i<n→w.cell? ⟨b,off+i,none⟩=some (.func (.func (F i)) #[] (caps i))) (hb:b<w.heap.size) (hbE:b≠E∧b∉K) (hBE:B≤E) (hBK:∀ b,b∈K→B≤b) (hn:n≤1000000) (hX:EncB w E d K) (hf:zfm f fit n 0 d)
 (htb:w.cell? ⟨tb,0,none⟩=some (.slice (some ⟨b,off,none⟩) n cap)) (hcb:Box w cb #[.int .i64 0] 2) (hcE:cb≠E∧cb∉K) :
 Calls Tryz.prog 79 #[.pointer (some ⟨E,0,none⟩),.pointer (some ⟨tb,0,none⟩),.pointer (some ⟨cb,0,none⟩)] w (CarP (runO f n 0 d) E cb w K):=by
 have CR:=zjQ F caps f fit B n b off cap w E d K hT hc hb hbE hBE hBK hn hX hf;have HCE:=hid hcE;have HCB:=hid hcb;obtain ⟨oc,hoc⟩:∃ x,x=runO f n 0 d:=⟨_,rfl⟩;rw [← hoc] at CR ⊢;clear hT hc hb hbE hBE hBK hX hf hcE hcb hoc
 go_enter Tryz.func79,Tryz.ntmps79
 cases oc with
 | cut d2=>
  go_wp2_with (go_at_call 80;refine CR.mono ?_;rintro e w5 ⟨rfl,K5,X5,s5,C5⟩)
  exact ⟨rfl,rfl,K5,X5,s5,C5⟩
 | done c d2=>
  go_wp2_with (go_at_call 80;refine CR.mono ?_;rintro e w5 ⟨rfl,K5,X5,s5,C5⟩;have cb5:=HCB.out.chgl C5 (fun hm=>by rcases List.mem_cons.1 hm with h | h;exact HCE.out.1 h;exact HCE.out.2 h);have cx0:=cb5.cell 0;have cy0:=cb5.frozen 0)
  go_end0
  have hcl:=HCB.out.lt
  have ncb:cb∉K5:=fun hm=>by
   rcases s5 cb hm with h | h
   ·exact HCE.out.2 h
   ·omega
  have CS:ChgL [cb] w5 (w5.setCell ⟨cb,0,none⟩ (.int .i64 c)):=ChgL.store _ _ _ _ _ (by simp)
  refine ⟨rfl,K5,?_,s5,cb5.setc 0 _,(C5.mono (fun x hx=>by
   rcases List.mem_cons.1 hx with h | h
   ·simp [h]
   ·exact List.mem_cons_of_mem _ (List.mem_cons_of_mem _ h))).trans (CS.mono (fun x hx=>by simp at hx;simp [hx]))⟩
  obtain ⟨cs5,B5,O5⟩:=X5;exact ⟨cs5,B5.chgl CS (by simp;exact fun h=>HCE.out.1 h.symm),Lay.own_chgL _ O5.own CS (fun x hx hm=>by simp at hm;exact ncb (hm ▸ hx)),O5.nd,O5.ne⟩
def HdrG (cs cs':List Value) (w w':World) (E:Nat):Prop:=cs'[9]?=cs[9]?∧∀ q n c,cs[9]?=some (.slice (some ⟨q,0,none⟩) n c)→q<w.heap.size→q≠E→w'.heap[q]?=w.heap[q]?
set_option maxRecDepth 20000 in
theorem zht (E:Nat) (d:WorldD) (cs:List Value) (K:List Nat) (q0 q1 q2 q3 G k R:Nat) (b:BlockD) (o1:Option Addr) (k1 hi:Nat) (hG:G<d.groups.1) (hk:k<(d.groups.2 G).1) (hR:R<((d.groups.2 G).2 k).blocks.1) (w:World) (hX:Box w E (([.int .i32 1,.int .u32 0,.int .u32 0,.int .i32 0,.int .u32 0]:List Value)++cs).toArray 133) (hO:EncO w E d cs K) (h0:Box w q0 #[.int .i64 b.stamp,.slice o1 b.bytes.1 k1] 99) (h1:w.cell? ⟨q1,0,none⟩=some (.int .i64 (G:Int))) (h2:w.cell? ⟨q2,0,none⟩=some (.int .i64 (k:Int))) (h3:w.cell? ⟨q3,0,none⟩=some (.int .i64 (R:Int))) (hr:zaf.rd w hi b [.int .i64 b.stamp,.slice o1 b.bytes.1 k1]) (hhi:hi≤w.heap.size) (hsz:zaG b≤1048576) (l1:q1<w.heap.size) (l2:q2<w.heap.size) (l3:q3<w.heap.size) :
 Calls Tryz.prog 124 #[.pointer (some ⟨E,5,none⟩),.pointer (some ⟨q0,0,none⟩),.pointer (some ⟨q1,0,none⟩),.pointer (some ⟨q2,0,none⟩),.pointer (some ⟨q3,0,none⟩)] w fun e w'=>e=.returned (.tuple #[])∧∃ cs' K',Box w' E (([.int .i32 1,.int .u32 0,.int .u32 0,.int .i32 0,.int .u32 0]:List Value)++cs').toArray 133∧EncO w' E (zch d G k R b) cs' K'∧(∀ b,b∈K'→b∈K∨w.heap.size≤b)∧ChgL (E::K) w w'∧HdrG cs cs' w w' E:=by
 have O0:EncO w.drew E d cs K:=hO.chg (ChgL.refl [E] _).drew;obtain ⟨p1,c1,p2,c2,p3,c3,K1,K2,K3,rfl,rfl,WO⟩:=O0.open;obtain ⟨g1,cc1,gg,cap,ce,Ls,e1,c0,S2,nd2,in2,in1,ng1,back⟩:=WO.drives2 (Nat.le_refl _) (Nat.zero_le _) hG (by omega)
 simp only [Value.slice.injEq,true_and] at e1
 obtain ⟨rfl,rfl⟩:=e1;obtain ⟨ao9,cap9,K9,e9,eK9,o9⟩:=zdh (S2.each k hk)
 have nd9:K9.Nodup:=by rw [← eK9];exact zcL (List.nodup_cons.1 nd2).2 hk
 obtain ⟨gb,cp9,cb,Lb,eb,eLb,SB⟩:=zbc o9 (by omega)
 simp only [List.cons.injEq,Value.slice.injEq,and_true,true_and] at eb
 obtain ⟨rfl,rfl⟩:=eb;subst eLb;have xg:w.cell? ⟨E,14,none⟩=some (.slice (some ⟨g1,0,none⟩) d.groups.1 c1):=hX.cell 14;have yk:w.drew.cell? ⟨gg,k*2+1,none⟩=some (.slice (some ⟨gb,0,none⟩) ((d.groups.2 G).2 k).blocks.1 cap9):=(S2.cell hk (j:=1) (by decide)).trans (by rw [e9];rfl);obtain ⟨a0,ca0,-,eR,-⟩:=zcJ (SB.each R hR);obtain ⟨u0,hu0⟩:∃ u,u=Value.int .i64 (((d.groups.2 G).2 k).blocks.2 R).stamp:=⟨_,rfl⟩;obtain ⟨u1,hu1⟩:∃ u,u=Value.slice a0 (((d.groups.2 G).2 k).blocks.2 R).bytes.1 ca0:=⟨_,rfl⟩;have y0:w.drew.cell? ⟨gb,R*2,none⟩=some u0:=(SB.cell hR (j:=0) (by decide)).trans (by rw [eR,hu0];rfl);have y1:w.drew.cell? ⟨gb,R*2+1,none⟩=some u1:=(SB.cell hR (j:=1) (by decide)).trans (by rw [eR,hu1];rfl);clear hu0 hu1 eR;have hEl:=hX.lt;have hql:=h0.lt;have hg1l:g1<w.heap.size:=(WO.inn g1 (List.mem_append_left _ in1)).2;have hggl:gg<w.heap.size:=S2.lt;have KS:∀ w',Below w.drew.heap.size w.drew w'→(w'.cell? ⟨E,14,none⟩=some (.slice (some ⟨g1,0,none⟩) d.groups.1 c1)∧w'.cell? ⟨g1,G,none⟩=some (.slice (some ⟨gg,0,none⟩) (d.groups.2 G).1 cap)∧w'.cell? ⟨gg,k*2+1,none⟩=some (.slice (some ⟨gb,0,none⟩) ((d.groups.2 G).2 k).blocks.1 cap9)∧w'.cell? ⟨q1,0,none⟩=some (.int .i64 (G:Int))∧w'.cell? ⟨q2,0,none⟩=some (.int .i64 (k:Int))∧w'.cell? ⟨q3,0,none⟩=some (.int .i64 (R:Int))∧w'.cell? ⟨q0,0,none⟩=some (.int .i64 b.stamp)∧w'.cell? ⟨q0,1,none⟩=some (.slice o1 b.bytes.1 k1)):=fun w' hb=>⟨(hb.cell (p:=⟨E,14,none⟩) hEl).trans xg,(hb.cell (p:=⟨g1,G,none⟩) hg1l).trans c0,(hb.cell (p:=⟨gg,k*2+1,none⟩) hggl).trans yk,(hb.cell (p:=⟨q1,0,none⟩) l1).trans h1,(hb.cell (p:=⟨q2,0,none⟩) l2).trans h2,(hb.cell (p:=⟨q3,0,none⟩) l3).trans h3,(hb.cell (p:=⟨q0,0,none⟩) hql).trans (h0.cell 0),(hb.cell (p:=⟨q0,1,none⟩) hql).trans (h0.cell 1)⟩
 have CC:=(zeF [.int .i64 b.stamp,.slice o1 b.bytes.1 k1] b hi w.drew (zaf.rd_below (B:=w.heap.size) hr ⟨rfl,rfl,rfl,Nat.le_refl _,fun _ _=>rfl⟩ hhi) hhi hsz).mono (R':=fun e w'=>∃ s1 m1,e=.returned (.agg #[.int .i64 b.stamp,.slice s1 b.bytes.1 m1])∧OwnT zaf w' w.drew.heap.size w'.heap.size b [.int .i64 b.stamp,.slice s1 b.bytes.1 m1]∧Below w.drew.heap.size w.drew w') (fun e w' ⟨cs',he,o5,b5⟩=>by
  obtain ⟨s1,m1,rfl⟩:=zhm o5
  exact ⟨s1,m1,he,o5,b5⟩)
 have i1:(0:Int)≤(G:Int):=by omega
 have i2:(G:Int)<(d.groups.1:Int):=by omega
 have i3:(0:Int)≤(k:Int):=by omega
 have i4:(k:Int)<((d.groups.2 G).1:Int):=by omega
 have i5:(0:Int)≤(R:Int):=by omega
 have i6:(R:Int)<(((d.groups.2 G).2 k).blocks.1:Int):=by omega
 have HX:Hid (Box w.drew E #[.int .i32 1,.int .u32 0,.int .u32 0,.int .i32 0,.int .u32 0,.int .i64 (d.shape 0),.int .i64 (d.shape 1),.int .i64 (d.shape 2),.int .i64 (d.shape 3),.int .i64 (d.shape 4),.int .i64 (d.shape 5),.int .i64 (d.shape 6),.int .i64 (d.shape 7),.int .i64 (d.shape 8),.slice (some ⟨g1,0,none⟩) d.groups.1 c1,.slice p2 d.on.1 c2,.slice p3 d.tapes.1 c3,.int .i64 d.writes,.int .i64 d.stop,.bool d.down] 133):=hX;have HNE:Hid (E∉K1++(K2++K3)):=hO.ne;clear hX hO O0 h0
 go_enter Tryz.func124,Tryz.ntmps124
 go_upto_region 0 with fail
 refine zbs 15 (fun w'=>w'.cell? ⟨E,14,none⟩=some (.slice (some ⟨g1,0,none⟩) d.groups.1 c1)∧w'.cell? ⟨g1,G,none⟩=some (.slice (some ⟨gg,0,none⟩) (d.groups.2 G).1 cap)∧w'.cell? ⟨gg,k*2+1,none⟩=some (.slice (some ⟨gb,0,none⟩) ((d.groups.2 G).2 k).blocks.1 cap9)∧w'.cell? ⟨q1,0,none⟩=some (.int .i64 (G:Int))∧w'.cell? ⟨q2,0,none⟩=some (.int .i64 (k:Int))∧w'.cell? ⟨q3,0,none⟩=some (.int .i64 (R:Int))∧w'.cell? ⟨q0,0,none⟩=some (.int .i64 b.stamp)∧w'.cell? ⟨q0,1,none⟩=some (.slice o1 b.bytes.1 k1)) (by kernel_rfl) (KS _ (Below.refl _ _)) (fun hHeld=>?_);refine zl2 0 rfl ?_
 try simp only [Act.put,SL]
 refine zl2 1 rfl ?_
 try simp only [Act.put,SL]
 refine zl2 2 rfl ?_
 try simp only [Act.put,SL]
 refine zl2 3 rfl ?_
 try simp only [Act.put,SL]
 refine zl2 4 rfl ?_
 try simp only [Act.put,SL]
 refine zl2 5 rfl ?_
 try simp only [Act.put,SL]
 refine zl2 6 rfl ?_
 try simp only [Act.put,SL]
 refine zl2 7 rfl ?_
 try simp only [Act.put,SL]
 refine zl2 8 rfl ?_
 try simp only [Act.put,SL]
 refine zl2 9 rfl ?_
 try simp only [Act.put,SL]
 refine zl2 10 rfl ?_
 try simp only [Act.put,SL]
 refine zl2 11 rfl ?_
 try simp only [Act.put,SL]
 refine zl2 12 rfl ?_
 try simp only [Act.put,SL]
 refine zat (i:=13) (o:=_) rfl (by kernel_rfl) (fun KC hKC=>?_)
 refine zaE rfl 125 _ _ rfl #[.agg #[.int .i64 b.stamp,.slice o1 b.bytes.1 k1]] ?_ Tryz.func125 (by kernel_rfl) (by kernel_rfl) CC ?_;(simp [Act.eval,Act.put]);rintro ee w5 ⟨s1,m1,rfl,o5,b5⟩;have k5:=KS w5 b5;have f0:w5.frozen? ⟨gb,R*2,none⟩=false:=(World.frozen?_of_block (a:=⟨gb,R*2,none⟩) (b5.block gb SB.lt)).trans (SB.frozen _);have f1:w5.frozen? ⟨gb,R*2+1,none⟩=false:=(World.frozen?_of_block (a:=⟨gb,R*2+1,none⟩) (b5.block gb SB.lt)).trans (SB.frozen _);have t0:w5.cell? ⟨gb,R*2,none⟩=some u0:=(World.cell?_of_block (a:=⟨gb,R*2,none⟩) (b5.block gb SB.lt)).trans y0;have t1:w5.cell? ⟨gb,R*2+1,none⟩=some u1:=(World.cell?_of_block (a:=⟨gb,R*2+1,none⟩) (b5.block gb SB.lt)).trans y1;refine ⟨_,rfl,?_⟩
 refine hKC.out _ _ (k5) (fun hHeld=>?_);clear hKC KC
 try simp only [Act.put,SL]
 refine zl2 14 rfl ?_
 try simp only [Act.put,SL]
 refine zbJ (o:=_) rfl (by kernel_rfl) (fun KC hKC=>?_);go_simp;refine hKC.out _ _ ?_;clear hKC KC
 try simp only [Act.put,SL]
 refine zbK (by kernel_rfl) ?_ _;obtain ⟨La,TB⟩:=Turn.fresh (K:=Lb R) o5 (Nat.le_refl _) (ChgL.of_below b5);have T6:=SB.turn_at nd9 hR TB (w':=(stN w5 gb (R*zaf.sz) [.int .i64 b.stamp,.slice s1 b.bytes.1 m1])) rfl;have T7:=zgy e9 T6;rw [← eK9] at T7;have T8:=S2.turn_in nd2 hk T7;obtain ⟨K1',WO7,sb7,ch7⟩:=back _ _ _ T8
 have HHD:Hid (HdrG (rwW d (some ⟨g1,0,none⟩) c1 p2 c2 p3 c3) (rwW d (some ⟨g1,0,none⟩) c1 p2 c2 p3 c3) w (stN w5 gb (R*zaf.sz) [.int .i64 b.stamp,.slice s1 b.bytes.1 m1]) E):=⟨rfl,fun q n c he hq _=>by
  simp at he
  obtain ⟨rfl,-,-⟩:=he
  exact T8.chg.block g1 hg1l ng1⟩
 have hE1:E∉K1:=fun h=>HNE.out (List.mem_append_left _ h);have X7:=HX.out.chgl ch7 hE1
 have hE7:E∉K1'++(K2++K3):=fun h=>by
  rcases List.mem_append.1 h with h | h
  ·rcases sb7 E h with h | h
   ·exact hE1 h
   ·have:w.drew.heap.size=w.heap.size:=rfl
    omega
  ·exact HNE.out (List.mem_append_right _ h)
 have HX7:Hid (Box (stN w5 gb (R*zaf.sz) [.int .i64 b.stamp,.slice s1 b.bytes.1 m1]) E #[.int .i32 1,.int .u32 0,.int .u32 0,.int .i32 0,.int .u32 0,.int .i64 (d.shape 0),.int .i64 (d.shape 1),.int .i64 (d.shape 2),.int .i64 (d.shape 3),.int .i64 (d.shape 4),.int .i64 (d.shape 5),.int .i64 (d.shape 6),.int .i64 (d.shape 7),.int .i64 (d.shape 8),.slice (some ⟨g1,0,none⟩) d.groups.1 c1,.slice p2 d.on.1 c2,.slice p3 d.tapes.1 c3,.int .i64 d.writes,.int .i64 d.stop,.bool d.down] 133):=X7;have HO7:Hid (EncO (stN w5 gb (R*zaf.sz) [.int .i64 b.stamp,.slice s1 b.bytes.1 m1]) E (zch d G k R b) (rwW d (some ⟨g1,0,none⟩) c1 p2 c2 p3 c3) (K1'++(K2++(K3++[])))):=WO7.encO hE7
 have HS:Hid (∀ b,b∈K1'++(K2++(K3++[]))→b∈K1++(K2++K3)∨w.heap.size≤b):=fun b hb=>by
  simp only [List.append_nil] at hb
  rcases List.mem_append.1 hb with h | h
  ·exact (sb7 b h).imp (fun h=>List.mem_append_left _ h) id
  ·exact .inl (List.mem_append_right _ h)
 have HC7:Hid (ChgL (E::(K1++(K2++K3))) w (stN w5 gb (R*zaf.sz) [.int .i64 b.stamp,.slice s1 b.bytes.1 m1])):=((ChgL.refl _ w).drew).trans (ch7.mono (fun b hb=>List.mem_cons_of_mem _ (List.mem_append_left _ hb)));clear X7 WO7 T8 T7 T6 TB WO S2 SB CC KS sb7 ch7 hE7 back k5 o5 b5 o9 nd9;go_wp2
 go_end0
 exact ⟨rfl,_,_,HX7.out,HO7.out,HS.out,HC7.out,HHD.out⟩
set_option maxRecDepth 100000 in
theorem zfn (E:Nat) (v0 v1 v2 v3 v4 v5 v6 v7 v8 vp0 vl0 vq0 vp1 vl1 vq1 vp2 vl2 vq2 v9 v10 vb:_) (d d':WorldD) (K:List Nat) (q0 q1 q2 q3:Nat) (w:World) (hX:Box w E #[.int .i32 0,.int .u32 0,.int .u32 0,.int .i32 0,.int .u32 0,.int .i64 v0,.int .i64 v1,.int .i64 v2,.int .i64 v3,.int .i64 v4,.int .i64 v5,.int .i64 v6,.int .i64 v7,.int .i64 v8,.slice vp0 vl0 vq0,.slice vp1 vl1 vq1,.slice vp2 vl2 vq2,.int .i64 v9,.int .i64 v10,.bool vb] 133) (hO:EncO w E d [.int .i64 v0,.int .i64 v1,.int .i64 v2,.int .i64 v3,.int .i64 v4,.int .i64 v5,.int .i64 v6,.int .i64 v7,.int .i64 v8,.slice vp0 vl0 vq0,.slice vp1 vl1 vq1,.slice vp2 vl2 vq2,.int .i64 v9,.int .i64 v10,.bool vb] K) (hpw:¬ (v10≠-1∧v10≤v9)) (hwr:-9223372036854775808≤d'.writes∧d'.writes+1≤9223372036854775807)
 (hch:∀ W,Box W E #[.int .i32 1,.int .u32 0,.int .u32 0,.int .i32 0,.int .u32 0,.int .i64 v0,.int .i64 v1,.int .i64 v2,.int .i64 v3,.int .i64 v4,.int .i64 v5,.int .i64 v6,.int .i64 v7,.int .i64 v8,.slice vp0 vl0 vq0,.slice vp1 vl1 vq1,.slice vp2 vl2 vq2,.int .i64 v9,.int .i64 v10,.bool vb] 133→EncO W E d [.int .i64 v0,.int .i64 v1,.int .i64 v2,.int .i64 v3,.int .i64 v4,.int .i64 v5,.int .i64 v6,.int .i64 v7,.int .i64 v8,.slice vp0 vl0 vq0,.slice vp1 vl1 vq1,.slice vp2 vl2 vq2,.int .i64 v9,.int .i64 v10,.bool vb] K→ChgL [E] w W→Calls Tryz.prog 124 #[.pointer (some ⟨E,5,none⟩),.pointer (some ⟨q0,0,none⟩),.pointer (some ⟨q1,0,none⟩),.pointer (some ⟨q2,0,none⟩),.pointer (some ⟨q3,0,none⟩)] W fun e w'=>e=.returned (.tuple #[])∧∃ cs' K',Box w' E ([.int .i32 1,.int .u32 0,.int .u32 0,.int .i32 0,.int .u32 0]++cs').toArray 133∧EncO w' E d' cs' K'∧(∀ b,b∈K'→b∈K∨W.heap.size≤b)∧ChgL (E::K) W w'∧HdrG [.int .i64 v0,.int .i64 v1,.int .i64 v2,.int .i64 v3,.int .i64 v4,.int .i64 v5,.int .i64 v6,.int .i64 v7,.int .i64 v8,.slice vp0 vl0 vq0,.slice vp1 vl1 vq1,.slice vp2 vl2 vq2,.int .i64 v9,.int .i64 v10,.bool vb] cs' W w' E) :
 Calls Tryz.prog 123 #[.pointer (some ⟨E,0,none⟩),.func (.func 124) #[] #[.pointer (some ⟨q0,0,none⟩),.pointer (some ⟨q1,0,none⟩),.pointer (some ⟨q2,0,none⟩),.pointer (some ⟨q3,0,none⟩)]] w fun e w'=>e=.returned (.tuple #[])∧∃ cs' K',Box w' E ([.int .i32 0,.int .u32 0,.int .u32 0,.int .i32 0,.int .u32 0]++cs').toArray 133∧EncO w' E { d' with writes:=d'.writes+1 } cs' K'∧(∀ b,b∈K'→b∈K∨w.heap.size≤b)∧ChgL (E::K) w w'∧HdrG [.int .i64 v0,.int .i64 v1,.int .i64 v2,.int .i64 v3,.int .i64 v4,.int .i64 v5,.int .i64 v6,.int .i64 v7,.int .i64 v8,.slice vp0 vl0 vq0,.slice vp1 vl1 vq1,.slice vp2 vl2 vq2,.int .i64 v9,.int .i64 v10,.bool vb] cs' w w' E:=by
 have HWR:=hid hwr;have CH:=hid hch;have hO':=hid hO
 by_cases hs:v10=-1
 ·have d1:(v10 != -1)=false:=by simpa using hs
  clear hpw hwr hch hO hs;have hE:E<w.heap.size:=hX.lt;have hmf:∀ (fn:Fn) (first cap:Array Value) (w:World),(Instr.makeFunc fn first cap).run Tryz.prog w=.ok (.func fn first cap) w:=fun _ _ _ _=>rfl;have bA:=bAl w (.cells #[.pointer (some ⟨E,0,none⟩)] 117);have P1:=zay w #[.pointer (some ⟨E,0,none⟩)] 117;have X1:=hX.below bA hE
  go_enter_defers Tryz.func123,Tryz.ntmps123
  go_upto_region 1 with fail
  obtain ⟨W1,hW1⟩:∃ x,x=w.alloc (.cells #[.pointer (some ⟨E,0,none⟩)] 117):=⟨_,rfl⟩;rw [← hW1] at bA P1 X1 ⊢
  have zW:W1.heap.size=w.heap.size+1:=by rw [hW1];simp
  clear hW1;have hp1:W1.cell? ⟨w.heap.size,0,none⟩=some (.pointer (some ⟨E,0,none⟩)):=P1.cell 0;have c0:W1.cell? ⟨E,0,none⟩=some (.int .i32 0):=X1.cell 0;have f0:W1.frozen? ⟨E,0,none⟩=false:=X1.frozen 0;have X2:Box (W1.setCell ⟨E,0,none⟩ (.int .i32 1)) E #[.int .i32 1,.int .u32 0,.int .u32 0,.int .i32 0,.int .u32 0,.int .i64 v0,.int .i64 v1,.int .i64 v2,.int .i64 v3,.int .i64 v4,.int .i64 v5,.int .i64 v6,.int .i64 v7,.int .i64 v8,.slice vp0 vl0 vq0,.slice vp1 vl1 vq1,.slice vp2 vl2 vq2,.int .i64 v9,.int .i64 v10,.bool vb] 133:=X1.setc 0 _;have P2:Box (W1.setCell ⟨E,0,none⟩ (.int .i32 1)) w.heap.size #[.pointer (some ⟨E,0,none⟩)] 117:=P1.seto 0 _ (by omega);have C2':ChgL [E] w (W1.setCell ⟨E,0,none⟩ (.int .i32 1)):=(ChgL.of_below bA).st _ 0 _ (by simp)
  go_upto_region 2 with (go_at_call 161;refine (zeP ⟨E,0,none⟩ _ c0 f0).mono ?_;rintro e w' ⟨rfl,rfl⟩)
  obtain ⟨W2,hW2⟩:∃ x,x=W1.setCell ⟨E,0,none⟩ (.int .i32 1):=⟨_,rfl⟩;rw [← hW2] at X2 P2 C2' ⊢
  have z2:W2.heap.size=w.heap.size+1:=by rw [hW2];simpa using zW
  clear hW2 hp1 c0 f0 X1 P1 bA hX;have hp2:W2.cell? ⟨w.heap.size,0,none⟩=some (.pointer (some ⟨E,0,none⟩)):=P2.cell 0;have x17:W2.cell? ⟨E,17,none⟩=some (.int .i64 v9):=X2.cell 17;have x18:W2.cell? ⟨E,18,none⟩=some (.int .i64 v10):=X2.cell 18
  go_upto_region 3 with fail
  go_quiet (fail)
  go_upto_region 6 with fail
  obtain ⟨W3,hW3⟩:∃ x,x=W2.drewN nq:=⟨_,rfl⟩;rw [← hW3]
  have X3:Box W3 E #[.int .i32 1,.int .u32 0,.int .u32 0,.int .i32 0,.int .u32 0,.int .i64 v0,.int .i64 v1,.int .i64 v2,.int .i64 v3,.int .i64 v4,.int .i64 v5,.int .i64 v6,.int .i64 v7,.int .i64 v8,.slice vp0 vl0 vq0,.slice vp1 vl1 vq1,.slice vp2 vl2 vq2,.int .i64 v9,.int .i64 v10,.bool vb] 133:=by rw [hW3];exact X2
  have P3:Box W3 w.heap.size #[.pointer (some ⟨E,0,none⟩)] 117:=by rw [hW3];exact P2
  have C3':ChgL [E] w W3:=by rw [hW3];exact ⟨C2'.os,C2'.tape,C2'.output,C2'.size,C2'.block⟩
  have z3:W3.heap.size=w.heap.size+1:=by rw [hW3];exact z2
  have hp3:W3.cell? ⟨w.heap.size,0,none⟩=some (.pointer (some ⟨E,0,none⟩)):=P3.cell 0;clear hW3 X2 P2 C2' z2 hp2 x17 x18;have O3:=hO'.out.chg C3'
  have CC:=(CH.out W3 X3 O3 C3').mono (R':=fun e w'=>e=.returned (.tuple #[])∧∃ y0 y1 y2 y3 y4 y5 y6 y7 y8 yp0 yl0 yq0 yp1 yl1 yq1 yp2 yl2 yq2 y9 y10 yb K',Box w' E #[.int .i32 1,.int .u32 0,.int .u32 0,.int .i32 0,.int .u32 0,.int .i64 y0,.int .i64 y1,.int .i64 y2,.int .i64 y3,.int .i64 y4,.int .i64 y5,.int .i64 y6,.int .i64 y7,.int .i64 y8,.slice yp0 yl0 yq0,.slice yp1 yl1 yq1,.slice yp2 yl2 yq2,.int .i64 y9,.int .i64 y10,.bool yb] 133∧EncO w' E d' (rwV y0 y1 y2 y3 y4 y5 y6 y7 y8 yp0 yl0 yq0 yp1 yl1 yq1 yp2 yl2 yq2 y9 y10 yb) K'∧(∀ b,b∈K'→b∈K∨W3.heap.size≤b)∧ChgL (E::K) W3 w'∧HdrG (rwV v0 v1 v2 v3 v4 v5 v6 v7 v8 vp0 vl0 vq0 vp1 vl1 vq1 vp2 vl2 vq2 v9 v10 vb) (rwV y0 y1 y2 y3 y4 y5 y6 y7 y8 yp0 yl0 yq0 yp1 yl1 yq1 yp2 yl2 yq2 y9 y10 yb) W3 w' E) (fun e w' ⟨he,cs',K',hX',hO',hs',hC',hH'⟩=>by
   obtain ⟨y0,y1,y2,y3,y4,y5,y6,y7,y8,yp0,yl0,yq0,yp1,yl1,yq1,yp2,yl2,yq2,y9,y10,yb,rfl⟩:=zb1 hO'.own
   exact ⟨he,y0,y1,y2,y3,y4,y5,y6,y7,y8,yp0,yl0,yq0,yp1,yl1,yq1,yp2,yl2,yq2,y9,y10,yb,K',hX',hO',hs',hC',hH'⟩)
  have hKl:∀ b,b∈K→b<w.heap.size:=fun b hb=>zab.own_lt hO'.out.own b hb
  go_wp2_with (go_at_call 124;refine CC.mono ?_;rintro e w5 ⟨rfl,y0,y1,y2,y3,y4,y5,y6,y7,y8,yp0,yl0,yq0,yp1,yl1,yq1,yp2,yl2,yq2,y9,y10,yb,K5,X5,O5,s5,C5,H5⟩;have HH5:=hid H5;clear H5;have P5:=P3.chgl C5 (by intro hm;rcases List.mem_cons.1 hm with h | h;omega;have:=hKl _ h;omega);have hp5:w5.cell? ⟨w.heap.size,0,none⟩=some (.pointer (some ⟨E,0,none⟩)):=P5.cell 0;have x17:w5.cell? ⟨E,17,none⟩=some (.int .i64 y9):=X5.cell 17;have f17:w5.frozen? ⟨E,17,none⟩=false:=X5.frozen 17;have HY9:=hid (zee O5.own);have zz:IntKind.i64.wrap (y9+1)=y9+1:=by rw [IntKind.wrap_i64];have:=HWR.out;have:=HY9.out;omega)
  refine leaves_cons (f:=162) (args:=#[.pointer (some ⟨E,0,none⟩)]) (by simp) (by simp [go_sem]) ?_;have X6:Box (w5.setCell ⟨E,17,none⟩ (.int .i64 (y9+1))) E #[.int .i32 1,.int .u32 0,.int .u32 0,.int .i32 0,.int .u32 0,.int .i64 y0,.int .i64 y1,.int .i64 y2,.int .i64 y3,.int .i64 y4,.int .i64 y5,.int .i64 y6,.int .i64 y7,.int .i64 y8,.slice yp0 yl0 yq0,.slice yp1 yl1 yq1,.slice yp2 yl2 yq2,.int .i64 (y9+1),.int .i64 y10,.bool yb] 133:=X5.setc 17 _;refine (zcY ⟨E,0,none⟩ _ _ (X6.cell 0) (X6.frozen 0)).mono ?_;rintro e u' w'' ⟨rfl,rfl,rfl⟩;have X7:Box ((w5.setCell ⟨E,17,none⟩ (.int .i64 (y9+1))).setCell ⟨E,0,none⟩ (.int .i32 0)) E #[.int .i32 0,.int .u32 0,.int .u32 0,.int .i32 0,.int .u32 0,.int .i64 y0,.int .i64 y1,.int .i64 y2,.int .i64 y3,.int .i64 y4,.int .i64 y5,.int .i64 y6,.int .i64 y7,.int .i64 y8,.slice yp0 yl0 yq0,.slice yp1 yl1 yq1,.slice yp2 yl2 yq2,.int .i64 (y9+1),.int .i64 y10,.bool yb] 133:=X6.setc 0 _;have C7:ChgL [E] w5 ((w5.setCell ⟨E,17,none⟩ (.int .i64 (y9+1))).setCell ⟨E,0,none⟩ (.int .i32 0)):=((ChgL.refl _ _).st _ 17 _ (by simp)).st _ 0 _ (by simp)
  have O7:EncO w5 E { d' with writes:=d'.writes+1 } [.int .i64 y0,.int .i64 y1,.int .i64 y2,.int .i64 y3,.int .i64 y4,.int .i64 y5,.int .i64 y6,.int .i64 y7,.int .i64 y8,.slice yp0 yl0 yq0,.slice yp1 yl1 yq1,.slice yp2 yl2 yq2,.int .i64 (y9+1),.int .i64 y10,.bool yb] K5:=by
   rw [← HY9.out];exact ⟨zdV (y9+1) (by have:=HWR.out;have:=HY9.out;omega) O5.own,O5.nd,O5.ne⟩
  simp only [Leaves,settle]
  refine ⟨_,results_none rfl _ _ _,rfl,_,K5,X7,O7.chg C7,fun b hb=>?_,?_,?_⟩
  ·rcases s5 b hb with h | h
   ·exact .inl h
   ·exact .inr (by omega)
  ·exact (C3'.mono (fun b hb=>by simp at hb;simp [hb])).trans (C5.trans (C7.mono (fun b hb=>by simp at hb;simp [hb])))
  ·refine ⟨HH5.out.1,fun q n c he hq hne=>?_⟩
   have hn:q∉[E]:=by simp;exact hne
   exact ((C7.block q (by have:=C5.size;have:=C3'.size;omega) hn).trans (HH5.out.2 q n c he (by have:=C3'.size;omega) hne)).trans (C3'.block q hq hn)
 ·have d1:(v10 != -1)=true:=by simpa using hs
  have d2:decide (v10≤v9)=false:=by
   simp only [decide_eq_false_iff_not]
   exact fun h=>hpw ⟨hs,h⟩
  clear hpw hwr hch hO hs;have hE:E<w.heap.size:=hX.lt;have hmf:∀ (fn:Fn) (first cap:Array Value) (w:World),(Instr.makeFunc fn first cap).run Tryz.prog w=.ok (.func fn first cap) w:=fun _ _ _ _=>rfl;have bA:=bAl w (.cells #[.pointer (some ⟨E,0,none⟩)] 117);have P1:=zay w #[.pointer (some ⟨E,0,none⟩)] 117;have X1:=hX.below bA hE
  go_enter_defers Tryz.func123,Tryz.ntmps123
  go_upto_region 1 with fail
  obtain ⟨W1,hW1⟩:∃ x,x=w.alloc (.cells #[.pointer (some ⟨E,0,none⟩)] 117):=⟨_,rfl⟩;rw [← hW1] at bA P1 X1 ⊢
  have zW:W1.heap.size=w.heap.size+1:=by rw [hW1];simp
  clear hW1;have hp1:W1.cell? ⟨w.heap.size,0,none⟩=some (.pointer (some ⟨E,0,none⟩)):=P1.cell 0;have c0:W1.cell? ⟨E,0,none⟩=some (.int .i32 0):=X1.cell 0;have f0:W1.frozen? ⟨E,0,none⟩=false:=X1.frozen 0;have X2:Box (W1.setCell ⟨E,0,none⟩ (.int .i32 1)) E #[.int .i32 1,.int .u32 0,.int .u32 0,.int .i32 0,.int .u32 0,.int .i64 v0,.int .i64 v1,.int .i64 v2,.int .i64 v3,.int .i64 v4,.int .i64 v5,.int .i64 v6,.int .i64 v7,.int .i64 v8,.slice vp0 vl0 vq0,.slice vp1 vl1 vq1,.slice vp2 vl2 vq2,.int .i64 v9,.int .i64 v10,.bool vb] 133:=X1.setc 0 _;have P2:Box (W1.setCell ⟨E,0,none⟩ (.int .i32 1)) w.heap.size #[.pointer (some ⟨E,0,none⟩)] 117:=P1.seto 0 _ (by omega);have C2':ChgL [E] w (W1.setCell ⟨E,0,none⟩ (.int .i32 1)):=(ChgL.of_below bA).st _ 0 _ (by simp)
  go_upto_region 2 with (go_at_call 161;refine (zeP ⟨E,0,none⟩ _ c0 f0).mono ?_;rintro e w' ⟨rfl,rfl⟩)
  obtain ⟨W2,hW2⟩:∃ x,x=W1.setCell ⟨E,0,none⟩ (.int .i32 1):=⟨_,rfl⟩;rw [← hW2] at X2 P2 C2' ⊢
  have z2:W2.heap.size=w.heap.size+1:=by rw [hW2];simpa using zW
  clear hW2 hp1 c0 f0 X1 P1 bA hX;have hp2:W2.cell? ⟨w.heap.size,0,none⟩=some (.pointer (some ⟨E,0,none⟩)):=P2.cell 0;have x17:W2.cell? ⟨E,17,none⟩=some (.int .i64 v9):=X2.cell 17;have x18:W2.cell? ⟨E,18,none⟩=some (.int .i64 v10):=X2.cell 18
  go_upto_region 3 with fail
  go_quiet (fail)
  go_upto_region 6 with fail
  obtain ⟨W3,hW3⟩:∃ x,x=W2.drewN nq:=⟨_,rfl⟩;rw [← hW3]
  have X3:Box W3 E #[.int .i32 1,.int .u32 0,.int .u32 0,.int .i32 0,.int .u32 0,.int .i64 v0,.int .i64 v1,.int .i64 v2,.int .i64 v3,.int .i64 v4,.int .i64 v5,.int .i64 v6,.int .i64 v7,.int .i64 v8,.slice vp0 vl0 vq0,.slice vp1 vl1 vq1,.slice vp2 vl2 vq2,.int .i64 v9,.int .i64 v10,.bool vb] 133:=by rw [hW3];exact X2
  have P3:Box W3 w.heap.size #[.pointer (some ⟨E,0,none⟩)] 117:=by rw [hW3];exact P2
  have C3':ChgL [E] w W3:=by rw [hW3];exact ⟨C2'.os,C2'.tape,C2'.output,C2'.size,C2'.block⟩
  have z3:W3.heap.size=w.heap.size+1:=by rw [hW3];exact z2
  have hp3:W3.cell? ⟨w.heap.size,0,none⟩=some (.pointer (some ⟨E,0,none⟩)):=P3.cell 0;clear hW3 X2 P2 C2' z2 hp2 x17 x18;have O3:=hO'.out.chg C3'
  have CC:=(CH.out W3 X3 O3 C3').mono (R':=fun e w'=>e=.returned (.tuple #[])∧∃ y0 y1 y2 y3 y4 y5 y6 y7 y8 yp0 yl0 yq0 yp1 yl1 yq1 yp2 yl2 yq2 y9 y10 yb K',Box w' E #[.int .i32 1,.int .u32 0,.int .u32 0,.int .i32 0,.int .u32 0,.int .i64 y0,.int .i64 y1,.int .i64 y2,.int .i64 y3,.int .i64 y4,.int .i64 y5,.int .i64 y6,.int .i64 y7,.int .i64 y8,.slice yp0 yl0 yq0,.slice yp1 yl1 yq1,.slice yp2 yl2 yq2,.int .i64 y9,.int .i64 y10,.bool yb] 133∧EncO w' E d' (rwV y0 y1 y2 y3 y4 y5 y6 y7 y8 yp0 yl0 yq0 yp1 yl1 yq1 yp2 yl2 yq2 y9 y10 yb) K'∧(∀ b,b∈K'→b∈K∨W3.heap.size≤b)∧ChgL (E::K) W3 w'∧HdrG (rwV v0 v1 v2 v3 v4 v5 v6 v7 v8 vp0 vl0 vq0 vp1 vl1 vq1 vp2 vl2 vq2 v9 v10 vb) (rwV y0 y1 y2 y3 y4 y5 y6 y7 y8 yp0 yl0 yq0 yp1 yl1 yq1 yp2 yl2 yq2 y9 y10 yb) W3 w' E) (fun e w' ⟨he,cs',K',hX',hO',hs',hC',hH'⟩=>by
   obtain ⟨y0,y1,y2,y3,y4,y5,y6,y7,y8,yp0,yl0,yq0,yp1,yl1,yq1,yp2,yl2,yq2,y9,y10,yb,rfl⟩:=zb1 hO'.own
   exact ⟨he,y0,y1,y2,y3,y4,y5,y6,y7,y8,yp0,yl0,yq0,yp1,yl1,yq1,yp2,yl2,yq2,y9,y10,yb,K',hX',hO',hs',hC',hH'⟩)
  have hKl:∀ b,b∈K→b<w.heap.size:=fun b hb=>zab.own_lt hO'.out.own b hb
  go_wp2_with (go_at_call 124;refine CC.mono ?_;rintro e w5 ⟨rfl,y0,y1,y2,y3,y4,y5,y6,y7,y8,yp0,yl0,yq0,yp1,yl1,yq1,yp2,yl2,yq2,y9,y10,yb,K5,X5,O5,s5,C5,H5⟩;have HH5:=hid H5;clear H5;have P5:=P3.chgl C5 (by intro hm;rcases List.mem_cons.1 hm with h | h;omega;have:=hKl _ h;omega);have hp5:w5.cell? ⟨w.heap.size,0,none⟩=some (.pointer (some ⟨E,0,none⟩)):=P5.cell 0;have x17:w5.cell? ⟨E,17,none⟩=some (.int .i64 y9):=X5.cell 17;have f17:w5.frozen? ⟨E,17,none⟩=false:=X5.frozen 17;have HY9:=hid (zee O5.own);have zz:IntKind.i64.wrap (y9+1)=y9+1:=by rw [IntKind.wrap_i64];have:=HWR.out;have:=HY9.out;omega)
  refine leaves_cons (f:=162) (args:=#[.pointer (some ⟨E,0,none⟩)]) (by simp) (by simp [go_sem]) ?_;have X6:Box (w5.setCell ⟨E,17,none⟩ (.int .i64 (y9+1))) E #[.int .i32 1,.int .u32 0,.int .u32 0,.int .i32 0,.int .u32 0,.int .i64 y0,.int .i64 y1,.int .i64 y2,.int .i64 y3,.int .i64 y4,.int .i64 y5,.int .i64 y6,.int .i64 y7,.int .i64 y8,.slice yp0 yl0 yq0,.slice yp1 yl1 yq1,.slice yp2 yl2 yq2,.int .i64 (y9+1),.int .i64 y10,.bool yb] 133:=X5.setc 17 _;refine (zcY ⟨E,0,none⟩ _ _ (X6.cell 0) (X6.frozen 0)).mono ?_;rintro e u' w'' ⟨rfl,rfl,rfl⟩;have X7:Box ((w5.setCell ⟨E,17,none⟩ (.int .i64 (y9+1))).setCell ⟨E,0,none⟩ (.int .i32 0)) E #[.int .i32 0,.int .u32 0,.int .u32 0,.int .i32 0,.int .u32 0,.int .i64 y0,.int .i64 y1,.int .i64 y2,.int .i64 y3,.int .i64 y4,.int .i64 y5,.int .i64 y6,.int .i64 y7,.int .i64 y8,.slice yp0 yl0 yq0,.slice yp1 yl1 yq1,.slice yp2 yl2 yq2,.int .i64 (y9+1),.int .i64 y10,.bool yb] 133:=X6.setc 0 _;have C7:ChgL [E] w5 ((w5.setCell ⟨E,17,none⟩ (.int .i64 (y9+1))).setCell ⟨E,0,none⟩ (.int .i32 0)):=((ChgL.refl _ _).st _ 17 _ (by simp)).st _ 0 _ (by simp)
  have O7:EncO w5 E { d' with writes:=d'.writes+1 } [.int .i64 y0,.int .i64 y1,.int .i64 y2,.int .i64 y3,.int .i64 y4,.int .i64 y5,.int .i64 y6,.int .i64 y7,.int .i64 y8,.slice yp0 yl0 yq0,.slice yp1 yl1 yq1,.slice yp2 yl2 yq2,.int .i64 (y9+1),.int .i64 y10,.bool yb] K5:=by
   rw [← HY9.out];exact ⟨zdV (y9+1) (by have:=HWR.out;have:=HY9.out;omega) O5.own,O5.nd,O5.ne⟩
  simp only [Leaves,settle]
  refine ⟨_,results_none rfl _ _ _,rfl,_,K5,X7,O7.chg C7,fun b hb=>?_,?_,?_⟩
  ·rcases s5 b hb with h | h
   ·exact .inl h
   ·exact .inr (by omega)
  ·exact (C3'.mono (fun b hb=>by simp at hb;simp [hb])).trans (C5.trans (C7.mono (fun b hb=>by simp at hb;simp [hb])))
  ·refine ⟨HH5.out.1,fun q n c he hq hne=>?_⟩
   have hn:q∉[E]:=by simp;exact hne
   exact ((C7.block q (by have:=C5.size;have:=C3'.size;omega) hn).trans (HH5.out.2 q n c he (by have:=C3'.size;omega) hne)).trans (C3'.block q hq hn)
set_option maxRecDepth 20000 in
theorem zkQ (E:Nat) (v0 v1 v2 v3 v4 v5 v6 v7 v8 vp0 vl0 vq0 vp1 vl1 vq1 vp2 vl2 vq2 v9 v10 vb:_) (d:WorldD) (K:List Nat) (G k R:Nat) (b:BlockD) (o1:Option Addr) (k1:Nat) (w:World) (hX:Box w E #[.int .i32 0,.int .u32 0,.int .u32 0,.int .i32 0,.int .u32 0,.int .i64 v0,.int .i64 v1,.int .i64 v2,.int .i64 v3,.int .i64 v4,.int .i64 v5,.int .i64 v6,.int .i64 v7,.int .i64 v8,.slice vp0 vl0 vq0,.slice vp1 vl1 vq1,.slice vp2 vl2 vq2,.int .i64 v9,.int .i64 v10,.bool vb] 133) (hO:EncO w E d [.int .i64 v0,.int .i64 v1,.int .i64 v2,.int .i64 v3,.int .i64 v4,.int .i64 v5,.int .i64 v6,.int .i64 v7,.int .i64 v8,.slice vp0 vl0 vq0,.slice vp1 vl1 vq1,.slice vp2 vl2 vq2,.int .i64 v9,.int .i64 v10,.bool vb] K) (hG:G<d.groups.1) (hk:k<(d.groups.2 G).1) (hR:R<((d.groups.2 G).2 k).blocks.1) (hr:∀ W',ChgL [E] w W'→zaf.rd W' W'.heap.size b [.int .i64 b.stamp,.slice o1 b.bytes.1 k1]) (hsr:zaG b≤1048576) (hpw:¬ (v10≠-1∧v10≤v9)) (hwr:-9223372036854775808≤d.writes∧d.writes+1≤9223372036854775807) :
 Calls Tryz.prog 83 #[.pointer (some ⟨E,0,none⟩),.int .i64 (G:Int),.int .i64 (k:Int),.int .i64 (R:Int),.agg #[.int .i64 b.stamp,.slice o1 b.bytes.1 k1]] w fun e w'=>e=.returned (.tuple #[])∧∃ cs' K',Box w' E (([.int .i32 0,.int .u32 0,.int .u32 0,.int .i32 0,.int .u32 0]:List Value)++cs').toArray 133∧EncO w' E { zch d G k R b with writes:=d.writes+1 } cs' K'∧(∀ b,b∈K'→b∈K∨w.heap.size≤b)∧ChgL (E::K) w w'∧HdrG [.int .i64 v0,.int .i64 v1,.int .i64 v2,.int .i64 v3,.int .i64 v4,.int .i64 v5,.int .i64 v6,.int .i64 v7,.int .i64 v8,.slice vp0 vl0 vq0,.slice vp1 vl1 vq1,.slice vp2 vl2 vq2,.int .i64 v9,.int .i64 v10,.bool vb] cs' w w' E:=by
 have hmf:∀ (fn:Fn) (first cap:Array Value) (w:World),(Instr.makeFunc fn first cap).run Tryz.prog w=.ok (.func fn first cap) w:=fun _ _ _ _=>rfl;have hE:E<w.heap.size:=hX.lt;have TB:=zeQ w #[.int .i64 (G:Int)] #[.int .i64 (k:Int)] #[.int .i64 (R:Int)] #[.int .i64 b.stamp,.slice o1 b.bytes.1 k1] 2 2 2 99;have X1:=hX.below TB.bel hE
 go_enter Tryz.func83,Tryz.ntmps83
 go_upto_region 1 with fail
 obtain ⟨W,hW⟩:∃ x,x=((((w.alloc (.cells #[.int .i64 (G:Int)] 2)).alloc (.cells #[.int .i64 (k:Int)] 2)).alloc (.cells #[.int .i64 (R:Int)] 2)).alloc (.cells #[.int .i64 b.stamp,.slice o1 b.bytes.1 k1] 99)):=⟨_,rfl⟩;rw [← hW] at TB X1 ⊢;have zW:w.heap.size≤W.heap.size:=TB.bel.size;clear hW hX;have O1:EncO W E d (rwV v0 v1 v2 v3 v4 v5 v6 v7 v8 vp0 vl0 vq0 vp1 vl1 vq1 vp2 vl2 vq2 v9 v10 vb) K:=⟨Lay.own_kept _ hO.own (fun b hb=>TB.bel.block b (zab.own_lt hO.own b hb)),hO.nd,hO.ne⟩;have CR:=zfn E v0 v1 v2 v3 v4 v5 v6 v7 v8 vp0 vl0 vq0 vp1 vl1 vq1 vp2 vl2 vq2 v9 v10 vb d (zch d G k R b) K (w.heap.size+1+1+1) w.heap.size (w.heap.size+1) (w.heap.size+1+1) W X1 O1 hpw hwr (fun W' hX' hO' hC'=>zht E d _ K _ _ _ _ G k R b o1 k1 _ hG hk hR W' hX' hO' (TB.b4.chgl hC' (by simp;omega)) ((World.cell?_of_block (hC'.block (w.heap.size) TB.b1.lt (by simp;omega))).trans (TB.b1.cell 0)) ((World.cell?_of_block (hC'.block (w.heap.size+1) TB.b2.lt (by simp;omega))).trans (TB.b2.cell 0)) ((World.cell?_of_block (hC'.block (w.heap.size+1+1) TB.b3.lt (by simp;omega))).trans (TB.b3.cell 0)) (hr W' ((ChgL.of_below TB.bel).trans hC')) (Nat.le_refl _) hsr (by have:=hC'.size;have:=TB.b4.lt;omega) (by have:=hC'.size;have:=TB.b4.lt;omega) (by have:=hC'.size;have:=TB.b4.lt;omega));have HCR:=CR;have HTB:=hid TB.bel;clear CR hO hpw hwr O1 X1
 go_wp2_with (go_at_call 123;refine HCR.mono ?_;rintro e w5 ⟨rfl,cs',K',X5,O5,s5,C5,H5⟩)
 go_end0
 exact ⟨rfl,cs',K',X5,O5,fun b hb=>(s5 b hb).imp id (fun h=>by omega),(ChgL.of_below TB.bel).trans C5,H5.1,fun q n c he hq hne=>(H5.2 q n c he (by omega) hne).trans (TB.bel.block q hq)⟩
def WrP (o:Outc) (E:Nat) (cs:List Value) (K:List Nat) (w:World) (e:Ending) (w':World):Prop:=match o with
 | .done _ d=>e=.returned (.tuple #[])∧∃ cs' K',Box w' E (([.int .i32 0,.int .u32 0,.int .u32 0,.int .i32 0,.int .u32 0]:List Value)++cs').toArray 133∧EncO w' E d cs' K'∧(∀ b,b∈K'→b∈K∨w.heap.size≤b)∧ChgL (E::K) w w'∧HdrG cs cs' w w' E
 | .cut d=>e=.panicked [{ v:=.iface 187 (.agg #[]),recovered:=false }]∧∃ K',EncF w' E d K'∧(∀ b,b∈K'→b∈K∨w.heap.size≤b)∧ChgL (E::K) w w'
theorem zfW (E:Nat) (cs:List Value) (d:WorldD) (K:List Nat) (G k R:Nat) (b:BlockD) (o1:Option Addr) (k1:Nat) (w:World) (hB:Box w E (([.int .i32 0,.int .u32 0,.int .u32 0,.int .i32 0,.int .u32 0]:List Value)++cs).toArray 133) (hO:EncO w E d cs K) (hG:G<d.groups.1) (hk:k<(d.groups.2 G).1) (hR:R<((d.groups.2 G).2 k).blocks.1) (hr:∀ W',ChgL [E] w W'→zaf.rd W' W'.heap.size b [.int .i64 b.stamp,.slice o1 b.bytes.1 k1]) (hsr:zaG b≤1048576) (hwr:-9223372036854775808≤d.writes∧d.writes+1≤9223372036854775807) :
 Calls Tryz.prog 83 #[.pointer (some ⟨E,0,none⟩),.int .i64 (G:Int),.int .i64 (k:Int),.int .i64 (R:Int),.agg #[.int .i64 b.stamp,.slice o1 b.bytes.1 k1]] w (WrP (rawO (fun d=>zch d G k R b) d) E cs K w):=by
 obtain ⟨v0,v1,v2,v3,v4,v5,v6,v7,v8,vp0,vl0,vq0,vp1,vl1,vq1,vp2,vl2,vq2,v9,v10,vb,rfl⟩:=zb1 hO.own;have st:=zkF hO.own;have wt:=zee hO.own
 by_cases hf:d.stop≠-1∧d.stop≤d.writes
 ·unfold rawO
  rw [if_pos hf];obtain ⟨KC,kc1,kc2,kc3⟩:=zi2 hO.own hO.nd;refine (zjJ E v0 v1 v2 v3 v4 v5 v6 v7 v8 vp0 vl0 vq0 vp1 vl1 vq1 vp2 vl2 vq2 v9 v10 vb d K G k R b o1 k1 0 w hB (fun x hx=>zab.own_one kc1 x hx) (by rw [st];exact hf.1) (by rw [st,wt];exact hf.2)).mono ?_;rintro e w' ⟨rfl,X5,C5⟩;refine ⟨rfl,KC,⟨_,X5,Lay.own_chgL _ kc1 C5 (fun b hb hm=>?_),kc2,fun hm=>hO.ne (kc3 _ hm)⟩,fun b hb=>.inl (kc3 b hb),C5.mono (fun b hb=>by simp at hb;simp [hb])⟩
  simp at hm
  exact hO.ne (hm ▸ kc3 b hb)
 ·unfold rawO
  rw [if_neg hf];refine (zkQ E v0 v1 v2 v3 v4 v5 v6 v7 v8 vp0 vl0 vq0 vp1 vl1 vq1 vp2 vl2 vq2 v9 v10 vb d K G k R b o1 k1 w hB hO hG hk hR hr hsr (by rw [st,wt];exact hf) hwr).mono ?_;rintro e w' ⟨rfl,cs',K',X5,O5,s5,C5,H5⟩;exact ⟨rfl,cs',K',X5,O5,s5,C5,H5⟩
end Go.Proofs.YtlpbohnadenacaaGreat
