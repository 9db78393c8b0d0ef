/- striking as a task; StrikeBoth of the program. -/
import Derived.Test.YthbpmbgfddpffaaGreatZPcleanaq
set_option linter.unusedVariables false
set_option linter.unusedSimpArgs false
set_option maxHeartbeats 16000000
namespace Go.Proofs.YthbpmbgfddpffaaGreat
open Go.RowKit F256
theorem zez (o:Outc):o.next (fun d=>.done 0 d)=o:=by
 cases o with
 | cut d=>rfl
 | done c d=>
  show (if c=0 then _ else _)=_
  split
  ·rename_i h;rw [h]
  ·rfl
theorem zml (f:Nat→WorldD→Outc) (d:WorldD):runO f 1 0 d=f 0 d:=zez _
theorem zhl {f:Nat→WorldD→Outc} (hf:∀ k d c d',f k d=.done c d'→c=0):∀ (m k:Nat) (d:WorldD) (c:Int) (d':WorldD),runO f m k d=.done c d'→c=0
 | 0,k,d,c,d',h=>by cases h;rfl
 | m+1,k,d,c,d',h=>by
  have h2:(f k d).next (runO f m (k+1))=.done c d':=h
  cases e:f k d with
  | cut x=>rw [e] at h2;cases h2
  | done c2 d2=>
   rw [e,hf k d c2 d2 e] at h2;exact zhl hf m (k+1) d2 c d' h2
theorem zcn (kd sq:Int):∀ (m k:Nat) (d:WorldD) (c:Int) (d':WorldD),runO (zaE kd sq) m k d=.done c d'→c=0:=zhl (fun k d c d' h=>by
 unfold zaE rawO at h
 split at h
 ·cases h
 ·cases h;rfl)
theorem zjB (kd sq:Int) (w:World):Calls Tryz.prog 53 #[.int .i64 kd,.int .i64 sq] w fun e w'=>e=.returned (.func (.func 95) #[] #[.pointer (some ⟨w.heap.size,0,none⟩),.pointer (some ⟨w.heap.size+1,0,none⟩)])∧Box w' w.heap.size #[.int .i64 kd] 2∧Box w' (w.heap.size+1) #[.int .i64 sq] 2∧Below w.heap.size w w':=by
 have hmf:∀ (fn:Fn) (first cap:Array Value) (w:World),(Instr.makeFunc fn first cap).run Tryz.prog w=.ok (.func fn first cap) w:=fun _ _ _ _=>rfl;have T0:=zaz w #[.int .i64 kd] #[.int .i64 sq] 2 2
 go_enter Tryz.func53,Tryz.ntmps53
 go_wp2;go_ret;exact ⟨by simp,T0.b1,T0.b2,T0.bel⟩
theorem Fit2.less {n m:Nat} {d:WorldD} (h:Fit2 n d) (hm:m≤n):Fit2 m d:=⟨h.two,h.few,h.up,h.low,by have:=h.room;omega⟩
structure Fit3 (n:Nat) (d:WorldD):Prop where
 two:d.tapes.1=2
 few:∀ T,T<2→(d.tapes.2 T).recs.1+n≤1000000
 up:d.down=false
 low:-9223372036854775808≤d.writes
 room:d.writes+n≤9223372036854775807
def znM (r:RecD) (k:Nat):WorldD→Outc:=rawO (fun d=>znK d k r)
def layF (r:RecD) (d:WorldD):Outc:=if 200<((d.tapes.2 0).recs.1:Int)+1∨200<((d.tapes.2 1).recs.1:Int)+1 then .done 2 d else runO (znM r) 2 0 d
def zoj (F:Nat) (caps:Array Value) (f:WorldD→Outc) (fit:WorldD→Prop) (B:Nat) (CL:List Nat) (w0:World):Prop:=
 ziy F∧∀ (w:World) (E:Nat) (d:WorldD) (K:List Nat),Below B w0 w→(∀ x,x∈CL→w.heap[x]?=w0.heap[x]?)→B≤E→(∀ b,b∈K→B≤b)→(∀ x,x∈CL→x≠E∧x∉K)→EncB w E d K→fit d→Calls Tryz.prog F (#[.pointer (some ⟨E,0,none⟩)]++caps) w (RunP (fun c=>.int .i64 c) (f d) E w K)
set_option maxRecDepth 20000 in
theorem zjC (F:Nat→Nat) (caps:Nat→Array Value) (f:Nat→WorldD→Outc) (fit:Nat→WorldD→Prop) (B n b off cap:Nat) (CL:List Nat) (w:World) (E:Nat) (d:WorldD) (K:List Nat)
 (hT:∀ i,i<n→zoj (F i) (caps i) (f i) (fit i) B CL w) (hc:∀ i,i<n→w.cell? ⟨b,off+i,none⟩=some (.func (.func (F i)) #[] (caps i))) (hb:b<w.heap.size) (hbE:b≠E∧b∉K) (hBE:B≤E) (hBK:∀ b,b∈K→B≤b) (hn:n≤1000000) (hX:EncB w E d K) (hf:zdN f fit n 0 d) (hCL:∀ x,x∈CL→x<w.heap.size∧x≠E∧x∉K) :
 Calls Tryz.prog 48 #[.pointer (some ⟨E,0,none⟩),.slice (some ⟨b,off,none⟩) n cap] w (RunP (fun c=>.int .i64 c) (runO f n 0 d) E w K):=by
 have HX:=hid hX;have HT:=hid hT;have HBE:=hid hbE;have HBK:=hid hBK;have HF:=hid hf;have HC:=hid hc;have HCL:=hid hCL;clear hX hT hbE hBK hf hc hCL
 go_enter Tryz.func48,Tryz.ntmps48
 go_wp2
 go_loopw [10] (fun i wr=>∃ (k m:Nat) (d1:WorldD) (K1:List Nat),k+m=n∧i=.int .i64 k∧EncB wr E d1 K1∧(∀ x,x∈K1→x∈K∨w.heap.size≤x)∧ChgL (E::K) w wr∧zdN f fit m k d1∧runO f n 0 d=runO f m k d1) (fun i _=>n-(intOf i).toNat)
 case atStart=>exact ⟨0,n,d,K,by omega,rfl,HX.out,fun x hx=>.inl hx,ChgL.refl _ _,HF.out,rfl⟩
 case round=>
  obtain ⟨k,m,d1,K1,hkm,rfl,hX1,hK1,hC1,hf1,ho⟩:=hrel;have HX1:=hid hX1;have HK1:=hid hK1;have HC1:=hid hC1;have HO:=hid ho;have HF1:=hid hf1;have zr:=hC1.size;clear hX1 hK1 hf1 ho
  cases m with
  | zero=>
   obtain rfl:k=n:=by omega
   clear hC1 hkm;go_wp2;go_ret;rw [HO.out];exact ⟨rfl,K1,HX1.out,HK1.out,HC1.out⟩
  | succ m=>
   have hlt:k<n:=by omega
   have t1:(k:Int)<(n:Int):=by omega
   have ck:wr.cell? ⟨b,off+k,none⟩=some (.func (.func (F k)) #[] (caps k)):=(World.cell?_of_block (hC1.block b hb (fun hm=>by
    rcases List.mem_cons.1 hm with h | h
    ·exact HBE.out.1 h
    ·exact HBE.out.2 h))).trans (HC.out k hlt)
   have CT:=(HT.out k hlt).2 wr E d1 K1 (hC1.bel (fun x hx=>by
    rcases List.mem_cons.1 hx with rfl | h
    ·exact hBE
    ·exact HBK.out x h) (by have:=HX.out.lt;omega)) (fun x hx=>hC1.block x (HCL.out x hx).1 (fun hm=>by
     rcases List.mem_cons.1 hm with h | h
     ·exact (HCL.out x hx).2.1 h
     ·exact (HCL.out x hx).2.2 h)) hBE (fun x hx=>by
     rcases HK1.out x hx with h | h
     ·exact HBK.out x h
     ·have:=HX.out.lt;omega) (fun x hx=>⟨(HCL.out x hx).2.1,fun hm=>by
      rcases HK1.out x hm with h | h
      ·exact (HCL.out x hx).2.2 h
      ·have:=(HCL.out x hx).1;omega⟩) HX1.out HF1.out.1
   obtain ⟨Fk,hFk⟩:∃ x,x=F k:=⟨_,rfl⟩;obtain ⟨ck9,hck9⟩:∃ x,x=caps k:=⟨_,rfl⟩;have eF:=(HT.out k hlt).1;rw [← hFk,← hck9] at ck CT;rw [← hFk] at eF;unfold ziy at eF;obtain ⟨oc,hoc⟩:∃ x,x=f k d1:=⟨_,rfl⟩;have HOC:=hid hoc;rw [← hoc] at CT
   have HF2:Hid (zfY oc (zdN f fit m (k+1))):=by rw [hoc];exact HF1.out.2
   have HO2:Hid (runO f n 0 d=oc.next (runO f m (k+1))):=by rw [hoc];exact HO.out
   clear hC1 hFk hck9 hoc
   cases oc with
   | cut d2=>
    go_wp2_with (go_at_fn Fk;refine CT.mono ?_;rintro e w5 ⟨rfl,K5,X5,s5,C5⟩)
    exact ⟨rfl,by
     rw [HO2.out]
     exact RunP.after (rv:=fun c=>.int .i64 c) (o:=.cut d2) HK1.out HC1.out ⟨rfl,K5,X5,s5,C5⟩⟩
   | done c d2=>
    by_cases hc0:c=0
    ·subst hc0
     go_wp2_with (go_at_fn Fk;refine CT.mono ?_;rintro e w5 ⟨rfl,K5,X5,s5,C5⟩)
     go_roundw
     case rel=>exact ⟨k+1,m,d2,K5,by omega,by go_num,X5,fun x hx=>by
      rcases s5 x hx with h | h
      ·exact HK1.out x h
      ·exact .inr (by omega),zcj HC1.out HK1.out C5,HF2.out rfl,by rw [HO2.out];simp [Outc.next]⟩
     case measure=>simp [intOf];omega
    ·have hne:(c != 0)=true:=by simpa using hc0
     have HNE:=hid hc0;clear hc0
     go_wp2_with (go_at_fn Fk;refine CT.mono ?_;rintro e w5 ⟨rfl,K5,X5,s5,C5⟩)
     go_ret;rw [HO2.out]
     have e:(Outc.done c d2).next (runO f m (k+1))=.done c d2:=by simp [Outc.next,HNE.out]
     rw [e];exact RunP.after (rv:=fun c=>.int .i64 c) (o:=.done c d2) HK1.out HC1.out ⟨rfl,K5,X5,s5,C5⟩
noncomputable def cntL (d:WorldD):List Nat:=Classical.choose (zj4 (recT d.tapes.2 2) (lenT d.tapes.2 2))
theorem zmm {d:WorldD} {l:List Nat} (h:Cnt (recT d.tapes.2 2) (lenT d.tapes.2 2) l):l=cntL d:=h.uniq (Classical.choose_spec (zj4 (recT d.tapes.2 2) (lenT d.tapes.2 2)))
noncomputable def nxtD (d:WorldD):Int:=zoh (cntL d).length (fun i=>recT d.tapes.2 2 ((cntL d).getD i 0))
noncomputable def nextF (r:RecD) (d:WorldD):Outc:=if 1000000000<nxtD d then .done 2 d else layF { r with seq:=nxtD d } d
set_option maxRecDepth 20000 in
theorem zgd (kd sq:Int) (a1 a2 B:Nat) (w0:World) (h1:w0.cell? ⟨a1,0,none⟩=some (.int .i64 kd)) (h2:w0.cell? ⟨a2,0,none⟩=some (.int .i64 sq)) (CL:List Nat) (l1:a1∈CL) (l2:a2∈CL) :
 zoj 95 #[.pointer (some ⟨a1,0,none⟩),.pointer (some ⟨a2,0,none⟩)] (runO (zaE kd sq) 2 0) (Fit2 2) B CL w0:=by
 refine ⟨ziz Tryz.func95 (by kernel_rfl) (by kernel_rfl),fun w E d K hB hCL hBE hBK hNE hX hf=>?_⟩
 show Calls Tryz.prog 95 #[.pointer (some ⟨E,0,none⟩),.pointer (some ⟨a1,0,none⟩),.pointer (some ⟨a2,0,none⟩)] w _
 have g1:=(World.cell?_of_block (a:=⟨a1,0,none⟩) (hCL a1 l1)).trans h1;have g2:=(World.cell?_of_block (a:=⟨a2,0,none⟩) (hCL a2 l2)).trans h2;have HN1:Hid (a1<w.heap.size∧a1≠E∧a1∉K):=⟨World.block_lt_of_cell? w _ g1,hNE a1 l1⟩;have HN2:Hid (a2<w.heap.size∧a2≠E∧a2∉K):=⟨World.block_lt_of_cell? w _ g2,hNE a2 l2⟩;have HX:Hid (EncB w E d K):=hX;have HF:Hid (Fit2 2 d):=hf;have HBK:Hid (∀ b,b∈K→B≤b):=hBK;clear hX hf hBK h1 h2 hB hCL hNE
 go_enter Tryz.func95,Tryz.ntmps95
 go_wp2
 go_loopw [6] (fun i wr=>∃ (k m:Nat) (d1:WorldD) (K1:List Nat),k+m=2∧i=.int .i64 k∧EncB wr E d1 K1∧(∀ x,x∈K1→x∈K∨w.heap.size≤x)∧ChgL (E::K) w wr∧Fit2 m d1∧runO (zaE kd sq) 2 0 d=runO (zaE kd sq) m k d1) (fun i _=>2-(intOf i).toNat)
 case atStart=>exact ⟨0,2,d,K,by omega,rfl,HX.out,fun x hx=>.inl hx,ChgL.refl _ _,HF.out,rfl⟩
 case round=>
  obtain ⟨k,m,d1,K1,hkm,rfl,hX1,hK1,hC1,hf1,ho⟩:=hrel;have HK1:Hid (∀ x,x∈K1→x∈K∨w.heap.size≤x):=hK1;have HC1:Hid (ChgL (E::K) w wr):=hC1;have HO:Hid (runO (zaE kd sq) 2 0 d=runO (zaE kd sq) m k d1):=ho;have HF1:Hid (Fit2 m d1):=hf1;have HX1:Hid (EncB wr E d1 K1):=hX1;have zr:=hC1.size;have zE:=HX.out.lt;have g1':=(World.cell?_of_block (a:=⟨a1,0,none⟩) (hC1.block a1 HN1.out.1 (fun h=>(List.mem_cons.1 h).elim HN1.out.2.1 HN1.out.2.2))).trans g1;have g2':=(World.cell?_of_block (a:=⟨a2,0,none⟩) (hC1.block a2 HN2.out.1 (fun h=>(List.mem_cons.1 h).elim HN2.out.2.1 HN2.out.2.2))).trans g2;clear hK1 hC1 ho hX1
  cases m with
  | zero=>
   obtain rfl:k=2:=by omega
   clear hf1 hkm;go_wp2;go_ret;rw [HO.out];exact ⟨rfl,K1,HX1.out,HK1.out,HC1.out⟩
  | succ m=>
   have hk2:k<2:=by omega
   have t1:(k:Int)<2:=by omega
   have CR:=zk7 E d1 K1 k kd sq wr HX1.out (by have:=hf1.two;omega) (hf1.few k hk2) (by have:=hf1.low;have:=hf1.room;omega);obtain ⟨oc,hoc⟩:∃ x,x=rawO (fun d=>zcP d k kd sq) d1:=⟨_,rfl⟩;have HOC:Hid (oc=zaE kd sq k d1):=hoc;rw [← hoc] at CR;clear hf1 hoc
   cases oc with
   | cut d2=>
    go_wp2_with (go_at_call 96;refine CR.mono ?_;rintro e w5 ⟨rfl,K5,X5,s5,C5⟩)
    refine ⟨rfl,?_⟩;rw [HO.out]
    have e:runO (zaE kd sq) (m+1) k d1=.cut d2:=by
     show (zaE kd sq k d1).next _=_
     rw [← HOC.out];rfl
    rw [e];exact RunP.after (rv:=fun c=>.int .i64 c) (o:=.cut d2) HK1.out HC1.out ⟨rfl,K5,X5,s5,C5⟩
   | done c d2=>
    go_wp2_with (go_at_call 96;refine CR.mono ?_;rintro e w5 ⟨rfl,K5,X5,s5,C5⟩)
    go_roundw
    case rel=>
     have c0:c=0:=zcn kd sq 1 k d1 c d2 (by
      show (zaE kd sq k d1).next _=_
      rw [← HOC.out];exact zez _)
     refine ⟨k+1,m,d2,K5,by omega,by go_num,X5,fun x hx=>by
      rcases s5 x hx with h | h
      ·exact HK1.out x h
      ·exact .inr (by omega),zcj HC1.out HK1.out C5,zdh HF1.out hk2 HOC.out.symm,?_⟩
     rw [HO.out]
     show (zaE kd sq k d1).next _=_
     rw [← HOC.out,c0]
     simp [Outc.next]
    case measure=>simp [intOf];omega
noncomputable def clnX (d:WorldD):Nat→RecD:=fun i=>recT d.tapes.2 2 ((cntL d).getD i 0)
noncomputable def clnM (d:WorldD):Nat:=(zbU (spa d.shape (clnX d) (cntL d).length) (cntL d).length).length
noncomputable def clnY (d:WorldD):Nat→RecD:=fun i=>clnX d (zck (spa d.shape (clnX d) (cntL d).length) (cntL d).length i)
def stkF (y:Nat→RecD) (j:Nat):WorldD→Outc:=runO (zaE (y j).kind (y j).seq) 2 0
noncomputable def clnK (d:WorldD):Nat:=(zai (cmpP (clnY d)) (clnM d)).length
noncomputable def clnR (d:WorldD):Nat→RecD:=fun i=>clnY d (selF (cmpP (clnY d)) (clnM d) i)
noncomputable def za0 (d:WorldD):Outc:=runO (stkF (clnR d)) (clnK d) 0 d
def FitC (d:WorldD):Prop:=OkWorld d∧Fit2 4000000 d
theorem zmn {d:WorldD} (h:OkWorld d) (hd:d.down=false):FitC d:=by
 obtain ⟨hc,_⟩:=h.count;unfold InP at hc;refine ⟨h,h.form.2.2,fun T hT=>?_,hd,by omega,by omega⟩;have:=h.few T (by rw [h.form.2.2];exact hT);omega
theorem zm3 {y:Nat→RecD} {j:Nat} {d d2:WorldD} {c:Int} (h:stkF y j d=.done c d2):c=0:=zcn _ _ _ _ _ _ _ h
theorem zhm {y:Nat→RecD} {j n:Nat} {d d2:WorldD} {c:Int} (h:Fit2 (n+2) d) (e:stkF y j d=.done c d2):Fit2 n d2:=by
 have e2:(zaE (y j).kind (y j).seq 0 d).next (runO (zaE (y j).kind (y j).seq) 1 1)=.done c d2:=e
 cases e3:zaE (y j).kind (y j).seq 0 d with
 | cut x=>rw [e3] at e2;cases e2
 | done c1 d1=>
  have c0:c1=0:=zcn _ _ 1 0 d c1 d1 (by show (zaE (y j).kind (y j).seq 0 d).next _=_;rw [e3];exact zez _);subst c0;rw [e3] at e2;have f1:Fit2 (n+1) d1:=zdh h (by omega) e3
  have e5:runO (zaE (y j).kind (y j).seq) 1 1 d1=.done c d2:=by simpa [Outc.next] using e2
  have e4:(zaE (y j).kind (y j).seq 1 d1).next (fun d=>.done 0 d)=.done c d2:=e5;rw [zez] at e4;exact zdh f1 (by omega) e4
theorem zmo (y:Nat→RecD):∀ (m k:Nat) (d:WorldD),Fit2 (2*m) d→zdN (stkF y) (fun _=>Fit2 2) m k d
 | 0,_,_,_=>trivial
 | m+1,k,d,h=>by
  refine ⟨h.less (by omega),?_⟩
  show zfY (stkF y k d) _
  cases e:stkF y k d with
  | cut x=>trivial
  | done c d2=>exact fun _=>zmo y m (k+1) d2 (zhm (show Fit2 (2*m+2) d from h) e)
theorem ziB {y:Nat→RecD} {m k:Nat} {d d2:WorldD} {c:Int} (h:runO (stkF y) m k d=.done c d2):c=0:=zhl (fun k d c d' h=>zm3 h) m k d c d2 h
theorem zmp {d:WorldD} (h:OkWorld d):clnK d≤1000000:=by
 have h1:(zai (cmpP (clnY d)) (clnM d)).length≤clnM d:=zg3 _ _;have h2:(zbU (spa d.shape (clnX d) (cntL d).length) (cntL d).length).length≤(cntL d).length:=zhf _ _;have h3:=((Classical.choose_spec (zj4 (recT d.tapes.2 2) (lenT d.tapes.2 2))).sum (fun _=>0)).2
 have e2:lenT d.tapes.2 2=(d.tapes.2 0).recs.1+(d.tapes.2 1).recs.1:=by simp [lenT]
 have hn0:(d.tapes.2 0).recs.1≤400000:=Nat.le_trans (h.few 0 (by rw [h.form.2.2];omega)) (by decide);have hn1:(d.tapes.2 1).recs.1≤400000:=Nat.le_trans (h.few 1 (by rw [h.form.2.2];omega)) (by decide);have h4:(cntL d).length≤lenT d.tapes.2 2:=h3;unfold clnK;unfold clnM at h1 ⊢;omega
def clo (p:Nat):Value:=.func (.func 95) #[] #[.pointer (some ⟨p,0,none⟩),.pointer (some ⟨p+1,0,none⟩)]
def zeZ:Lay Nat:=Lay.plain clo (fun _=>True) (fun _=>rfl)
theorem zok:ElInfo zeZ 89 113 8 [.nilFunc]:=⟨by decide,rfl,Tryz.underlying89,by kernel_rfl,by decide⟩
theorem zmq:zfD zeZ:=zbW clo (fun _=>True) (fun _=>rfl)
theorem zeA {w:World} {lo hi n b:Nat} {v:Value} {ad:Nat→Nat} {ce:Nat→List Value} {c:Array Value} (h:View zeZ 113 w lo hi v n ad ce) (X:Box w b c 2):v.ownBlock≠some b:=fun e=>by
 rcases h.row.2 with ⟨rfl,_⟩ | ⟨g,cap,cur,rfl,_,hg,_⟩
 ·cases e
 ·have e2:g=b:=by simpa [Value.ownBlock] using e
  subst e2;unfold Box at X;rw [X] at hg
  simp at hg
theorem znN (E:Nat) (ao:Option Addr) (cap:Nat) (w:World):Calls Tryz.prog 48 #[.pointer (some ⟨E,0,none⟩),.slice ao 0 cap] w fun e w'=>e=.returned (.int .i64 0)∧w'=w:=by
 go_enter Tryz.func48,Tryz.ntmps48
 go_wp2
 go_loopw [10] (fun i wr=>i=.int .i64 0∧wr=w) (fun _ _=>0)
 case atStart=>exact ⟨rfl,rfl⟩
 case round=>
  obtain ⟨rfl,rfl⟩:=hrel;go_wp2;go_ret;exact ⟨rfl,rfl⟩
set_option maxRecDepth 100000 in
theorem zhn (B:Nat) (w0:World):TaskV 26 #[] za0 FitC B w0:=by
 refine ⟨ziz Tryz.func26 (by kernel_rfl) (by kernel_rfl),fun w E d K hB hBE hBK hX hf=>?_⟩
 show Calls Tryz.prog 26 #[.pointer (some ⟨E,0,none⟩)] w _
 have HX:=hid hX;have HF:=hid hf;have HBK:=hid hBK;have HBE:=hid hBE;have zE:=hX.lt;have HKLT:=hid hX.Klt;obtain ⟨cs,hBx,hO⟩:=hX;obtain ⟨v0,v1,v2,v3,v4,v5,v6,v7,v8,vp0,vl0,vq0,vp1,vl1,vq1,vp2,vl2,vq2,v9,v10,vb,rfl⟩:=zcu hO.own;have rdw:zae.rd w w.heap.size d (rwV v0 v1 v2 v3 v4 v5 v6 v7 v8 vp0 vl0 vq0 vp1 vl1 vq1 vp2 vl2 vq2 v9 v10 vb):=hO.T.rd
 have rg:w.rangeAt E 5 (rwV v0 v1 v2 v3 v4 v5 v6 v7 v8 vp0 vl0 vq0 vp1 vl1 vq1 vp2 vl2 vq2 v9 v10 vb):=fun j v hv=>by
  refine (hBx.cell (5+j)).trans ?_;rw [List.getElem?_toArray,List.getElem?_append_right (by simp)];rw [show 5+j-([.int .i32 0,.int .u32 0,.int .u32 0,.int .i32 0,.int .u32 0]:List Value).length=j by simp];exact hv
 have CR:=zhe d (rwV v0 v1 v2 v3 v4 v5 v6 v7 v8 vp0 vl0 vq0 vp1 vl1 vq1 vp2 vl2 vq2 v9 v10 vb) w.heap.size w rdw (Nat.le_refl _) hf.1;have hkd:∀ {l:List Nat},Cnt (recT d.tapes.2 2) (lenT d.tapes.2 2) l→∀ i,i<l.length→InP (recT d.tapes.2 2 (l.getD i 0)).kind 1 4:=fun hCt i hi'=>zjt hf.1 ((hCt.mem _).1 (by rw [zdH hi'];exact List.getElem_mem hi')).1;have hn0:(d.tapes.2 0).recs.1≤400000:=Nat.le_trans (hf.1.few 0 (by rw [hf.1.form.2.2];omega)) (by decide);have hn1:(d.tapes.2 1).recs.1≤400000:=Nat.le_trans (hf.1.few 1 (by rw [hf.1.form.2.2];omega)) (by decide);have hKK:=zmp hf.1;clear hf hBK hBE hBx hO rdw hB
 go_enter Tryz.func26,Tryz.ntmps26
 go_wp2_with (refine wpList_load_mid rfl 34 (.tmp 9) rfl E 5 (by simp [Act.eval,Act.put]) (rwV v0 v1 v2 v3 v4 v5 v6 v7 v8 vp0 vl0 vq0 vp1 vl1 vq1 vp2 vl2 vq2 v9 v10 vb) _ rg Tryz.underlying34 rfl zbL ?_)
 refine CR.mono ?_;rintro e w2 ⟨B_,l,ce,v,b1,b2,b3,b4,b5,rfl,hCt,hLd,hRd,bb2⟩;obtain rfl:=zmm hCt;have z2:w.heap.size≤w2.heap.size:=bb2.size
 have hlen:(cntL d).length≤1000000:=by
  have h1:=(hCt.sum (fun _=>0)).2
  have e2:lenT d.tapes.2 2=(d.tapes.2 0).recs.1+(d.tapes.2 1).recs.1:=by simp [lenT]
  omega
 have HB2:=hid bb2;have CU:=zfU hLd HF.out.1.shape hCt.csd hlen z2 hRd (hkd hCt);clear CR hLd hRd bb2 rg hkd hCt hn0 hn1
 go_wp2_with fail
 refine CU.mono ?_;rintro e w3 ⟨u,cu,rfl,V3,-,bb3⟩;have z3:w2.heap.size≤w3.heap.size:=bb3.size;have HB3:=hid (HB2.out.trans (bb3.mono z2));have hm:(zbU (spa d.shape (clnX d) (cntL d).length) (cntL d).length).length≤1048576:=Nat.le_trans (zhf _ _) (by omega);have CC:=zjp (x:=clnY d) (n:=clnM d) (V3.weakL (Nat.le_add_right _ 2)) z2 z3 hm;clear CU V3 bb3 hm
 go_wp2_with fail
 refine CC.mono ?_;rintro e w4 ⟨u4,cu4,rfl,V4,bb4⟩;have z4:w2.heap.size≤w4.heap.size:=Nat.le_trans z3 bb4.size;obtain ⟨KK,hK1⟩:∃ x,x=clnK d:=⟨_,rfl⟩;obtain ⟨R,hR1⟩:∃ x,x=clnR d:=⟨_,rfl⟩;have HKK:=hid hK1;have HRR:=hid hR1
 have V5:View zab 85 w4 w2.heap.size w.heap.size u4 KK R cu4:=by rw [hK1,hR1];exact V4
 have HB4:=hid (HB3.out.trans (bb4.mono z2));rw [← hK1] at hKK;obtain ⟨au,cau,hu⟩:=V5.form;subst hu;have HV4:=hid V5;clear CC V4 V5 bb4 hK1 hR1;go_wp2
 go_loopw [4,16] (fun tv i wr=>∃ (k:Nat) (ad:Nat→Nat),k≤KK∧i=.int .i64 k∧View zeZ 113 wr w4.heap.size 0 tv k ad (fun j=>[clo (ad j)])∧(∀ j,j<k→Box wr (ad j) #[.int .i64 (R j).kind] 2∧Box wr (ad j+1) #[.int .i64 (R j).seq] 2∧w4.heap.size≤ad j)∧Below w4.heap.size w4 wr) (fun _ i _=>KK-(intOf i).toNat)
 case atStart=>exact ⟨0,fun _=>0,Nat.zero_le _,rfl,View.nil _ _ _ _ _,fun j hj=>by omega,Below.refl _ _⟩
 case round=>
  obtain ⟨k,ad,hk,rfl,hT,hA,hb⟩:=hrel;obtain ⟨at_,ct,ht⟩:=hT.form;subst ht;have HT:=hid hT;have HA:=hid hA;have HB:=hid hb;have zr:=hb.size;clear hT hA
  by_cases hlt:k<KK
  ·have Vr:=HV4.out.below hb (by omega)
   obtain ⟨g4,c9,hu9⟩:=Vr.form0 (by omega)
   have hau:au=some ⟨g4,0,none⟩:=by cases hu9;rfl
   subst hau;have rgK:wr.rangeAt g4 (k*9) (cu4 k):=Vr.range hlt;obtain ⟨ao6,cap6,ao7,cap7,ao8,cap8,ec,-,-,-,-⟩:=zaD (Vr.each k hlt);obtain ⟨r,hr⟩:∃ r,r=R k:=⟨_,rfl⟩;have HR:=hid hr;rw [ec,← hr] at rgK
   have i1:(0:Int)≤(k:Int):=by omega
   have i2:(k:Int)<(KK:Int):=by omega
   clear Vr hu9 ec hr hb
   go_upto_region 6 with (refine wpList_load_mid rfl 85 (.tmp 18) rfl g4 (k*9) (by simp [Act.eval,Act.put]) (rwR r ao6 cap6 ao7 cap7 ao8 cap8) _ rgK Tryz.underlying85 rfl (zam rfl) ?_)
   have bA:=bAl wr (.cells (rwR r ao6 cap6 ao7 cap7 ao8 cap8).toArray 85);have X6:=zaq wr (rwR r ao6 cap6 ao7 cap7 ao8 cap8).toArray 85;obtain ⟨W6,hW6⟩:∃ y,y=wr.alloc (.cells (rwR r ao6 cap6 ao7 cap7 ao8 cap8).toArray 85):=⟨_,rfl⟩;rw [← hW6] at bA X6 ⊢;have z6:wr.heap.size<W6.heap.size:=X6.lt;have CK:=zjB r.kind r.seq W6;have y0:W6.cell? ⟨wr.heap.size,0,none⟩=some (.int .i64 r.kind):=X6.cell 0;have y1:W6.cell? ⟨wr.heap.size,1,none⟩=some (.int .i64 r.seq):=X6.cell 1;have HBA:=hid bA;clear hW6 bA X6 rgK i1 i2
   go_wp2_with fail
   refine CK.mono ?_;rintro e w7 ⟨rfl,q1,q2,b7⟩;have b67:Below wr.heap.size wr w7:=HBA.out.trans (b7.mono (by omega));have z7:W6.heap.size+1<w7.heap.size:=q2.lt;have bA2:=bAl w7 (.cells #[clo W6.heap.size] 113);have b6A:=b67.trans (bA2.mono (by omega));have VW:=HT.out.below b6A (Nat.zero_le _);obtain ⟨v8,w8,hrun,V8,G8,b8⟩:=zbn zok zmq 89 VW 1 (zd6 (E:=zeZ) (b:=w7.heap.size) (hi:=0) (y:=W6.heap.size) (cs:=[clo W6.heap.size]) (fun j hj=>((zaq w7 #[clo W6.heap.size] 113).cell j).trans (by simp)) ⟨rfl,trivial⟩) (by simp;omega) (Nat.zero_le _) (by omega) (fun e=>by cases e)
   have HV8:Hid (View zeZ 113 w8 w4.heap.size 0 v8 (k+1) (cat2 ad k (fun _=>W6.heap.size)) (fun j=>[clo ((cat2 ad k (fun _=>W6.heap.size)) j)])):=by
    refine V8.congr2 (fun i _=>rfl) (fun i hi'=>?_)
    by_cases c1:i<k
    ·rw [zbN _ _ c1,zbN _ _ c1]
    ·obtain rfl:i=k:=by omega
     have e9:=zbX ad i (fun _=>W6.heap.size) 0;have e8:=zbX (fun j=>[clo (ad j)]) i (fun _=>[clo W6.heap.size]) 0;rw [Nat.add_zero] at e9 e8;rw [e9,e8]
   have HA8:Hid (∀ j,j<k+1→Box w8 ((cat2 ad k (fun _=>W6.heap.size)) j) #[.int .i64 (R j).kind] 2∧Box w8 ((cat2 ad k (fun _=>W6.heap.size)) j+1) #[.int .i64 (R j).seq] 2∧w4.heap.size≤(cat2 ad k (fun _=>W6.heap.size)) j):=fun j hj=>by
    by_cases c1:j<k
    ·rw [zbN _ _ c1]
     obtain ⟨a1,a2,a3⟩:=HA.out j c1;have a1':=a1.below b6A a1.lt;have a2':=a2.below b6A a2.lt;exact ⟨(G8.block _ a1'.lt (fun e=>zeA VW a1' e.symm)).trans a1',(G8.block _ a2'.lt (fun e=>zeA VW a2' e.symm)).trans a2',a3⟩
    ·obtain rfl:j=k:=by omega
     have e9:=zbX ad j (fun _=>W6.heap.size) 0;rw [Nat.add_zero] at e9;rw [e9,← HR.out];have a1':=q1.below bA2 q1.lt;have a2':=q2.below bA2 q2.lt;exact ⟨(G8.block _ a1'.lt (fun e=>zeA VW a1' e.symm)).trans a1',(G8.block _ a2'.lt (fun e=>zeA VW a2' e.symm)).trans a2',by omega⟩
   have HB8:Hid (Below w4.heap.size w4 w8):=(HB.out.trans (b6A.mono zr)).trans b8
   simp only [clo] at hrun
   clear CK b7 b67 bA2 b6A VW V8 G8 b8 q1 q2 y0 y1
   go_wp2_with (at_builtin;refine zcm rfl (.tmp 20) (.tmp 26) rfl ?_ ?_ hrun ?_;(simp [Act.eval]);(simp [Act.eval]))
   clear hrun
   try go_wp2
   go_roundw
   case rel=>exact ⟨k+1,_,by omega,by go_num,HV8.out,HA8.out,HB8.out⟩
   case measure=>simp [intOf];omega
  ·obtain rfl:k=KK:=by omega
   have HBW:Hid (Below w.heap.size w wr):=HB4.out.trans (hb.mono (by omega));have X2:EncB wr E d K:=HX.out.below HBW.out
   by_cases h0:k=0
   ·subst h0
    have HCF:Hid (za0 d=.done 0 d):=by
     show za0 d=.done 0 d
     unfold za0;rw [← HKK.out];rfl
    have HX2:=hid X2;have CN:=znN E at_ ct wr;clear X2 hb
    go_wp2_with fail
    refine CN.mono ?_;rintro e w5 ⟨rfl,e5⟩;obtain rfl:=e5.symm;clear CN;go_wp2;go_ret;rw [HCF.out];exact ⟨rfl,K,HX2.out,fun b hb=>.inl hb,ChgL.of_below HBW.out⟩
   ·obtain ⟨g,cg,hg⟩:=HT.out.form0 h0
    have hat:at_=some ⟨g,0,none⟩:=by cases hg;rfl
    subst hat;have hgb:=HT.out.row.lt g rfl;have hmem:∀ i,i<k→ad i∈(List.range k).flatMap (fun j=>[ad j,ad j+1])∧ad i+1∈(List.range k).flatMap (fun j=>[ad j,ad j+1]):=fun i hi=>⟨List.mem_flatMap.2 ⟨i,List.mem_range.2 hi,by simp⟩,List.mem_flatMap.2 ⟨i,List.mem_range.2 hi,by simp⟩⟩
    have CRun:=zjC (fun _=>95) (fun j=>#[.pointer (some ⟨ad j,0,none⟩),.pointer (some ⟨ad j+1,0,none⟩)]) (stkF R) (fun _=>Fit2 2) B k g 0 ct ((List.range k).flatMap (fun j=>[ad j,ad j+1])) wr E d K
     (fun i hi=>by
      obtain ⟨a1,a2,a3⟩:=HA.out i hi
      exact zgd (R i).kind (R i).seq (ad i) (ad i+1) B wr (a1.cell 0) (a2.cell 0) _ (hmem i hi).1 (hmem i hi).2)
     (fun i hi=>by
      have h9:=HT.out.cell hi (show 0<zeZ.sz by decide);rw [show i*zeZ.sz+0=0+i by show i*1+0=0+i;omega] at h9
      exact h9)
     (by omega) ⟨by omega,fun hm=>by have:=HKLT.out g hm;omega⟩ HBE.out HBK.out (by omega) X2
     (zmo R k 0 d (HF.out.2.less (by omega)))
     (fun x hx=>by
      obtain ⟨i,hi,hx2⟩:=List.mem_flatMap.1 hx;have hi2:=List.mem_range.1 hi;obtain ⟨a1,a2,a3⟩:=HA.out i hi2;have l1:=a1.lt;have l2:=a2.lt
      have hx3:x=ad i∨x=ad i+1:=by simpa using hx2
      exact ⟨by omega,by omega,fun hm=>by have:=HKLT.out x hm;omega⟩)
    obtain ⟨oc,hoc⟩:∃ y,y=runO (stkF R) k 0 d:=⟨_,rfl⟩;rw [← hoc] at CRun
    have HCF:Hid (za0 d=oc):=by
     show za0 d=oc
     unfold za0;rw [hoc,← HKK.out,← HRR.out]
    clear X2 hb hoc h0 hg hmem
    cases oc with
    | cut d2=>
     go_wp2_with fail
     refine CRun.mono ?_;rintro e w5 ⟨rfl,K5,X5,s5,C5⟩
     have HG:RunP (fun c=>.int .i64 c) (za0 d) E w K (.panicked [{ v:=.iface 215 (.agg #[]),recovered:=false }]) w5:=by
      rw [HCF.out];exact RunP.after (rv:=fun c=>.int .i64 c) (o:=.cut d2) (fun b hb=>.inl hb) (ChgL.of_below HBW.out) ⟨rfl,K5,X5,s5,C5⟩
     exact ⟨rfl,HG⟩
    | done c d2=>
     go_wp2_with fail
     refine CRun.mono ?_;rintro e w5 ⟨rfl,K5,X5,s5,C5⟩
     have HG:Hid (RunP (fun c=>.int .i64 c) (za0 d) E w K (.returned (.int .i64 c)) w5):=by
      show RunP (fun c=>.int .i64 c) (za0 d) E w K (.returned (.int .i64 c)) w5
      rw [HCF.out];exact RunP.after (rv:=fun c=>.int .i64 c) (o:=.done c d2) (fun b hb=>.inl hb) (ChgL.of_below HBW.out) ⟨rfl,K5,X5,s5,C5⟩
     clear CRun K5 X5 s5 C5;go_wp2;go_ret;exact HG.out
end Go.Proofs.YthbpmbgfddpffaaGreat
namespace Go.Proofs.YthbpmbgfddpffaaGreat
open Go.RowKit F256
open Go.Maps (Keyed)
set_option maxRecDepth 20000 in
theorem zgD (v:Value) (n:Nat) (x:Nat→RecD) (q g:Int) (hi:Nat) (w:World) (h:(zab.slice 85).rd w hi (n,x) [v]) (hhi:hi≤w.heap.size) (hn:n≤1048576) :
 Calls Tryz.prog 151 #[v,.int .i64 q,.int .i64 g] w (zba (DonP x n q g) w):=by
 obtain ⟨ao,cap,e,hmm,hc⟩:=h
 obtain rfl:v=.slice ao n cap:=by simpa using e
 have HC:=hid hc;clear e hmm hc
 go_enter Tryz.func151,Tryz.ntmps151
 go_wp2
 go_loopw [7] (fun z wr=>∃ k:Nat,k≤n∧z=.int .i64 k∧(∀ t,t<k→¬ ((x t).kind=3∧(x t).seq=q∧(x t).group=g))∧Below w.heap.size w wr) (fun z _=>n-(intOf z).toNat)
 case atStart=>exact ⟨0,Nat.zero_le _,rfl,fun t ht=>by omega,Below.refl _ _⟩
 case round=>
  obtain ⟨k,hk,rfl,hall,hbl⟩:=hrel;have HALL:=hid hall;have HB:=hid hbl;clear hall
  by_cases hlt:k<n
  ·obtain ⟨b,off,rfl,hbh,hel⟩:=HC.out (by omega)
   obtain ⟨ce,hy,hcell⟩:=zat (t:=85) hel hbl hhi hbh hlt;obtain ⟨ao6,cap6,ao7,cap7,ao8,cap8,rfl,-,-,-,-⟩:=zaD hy;obtain ⟨r,hr⟩:∃ r,r=x k:=⟨_,rfl⟩;have HRR:=hid hr;rw [← hr] at hcell
   have y0:wr.cell? ⟨b,off+k*9,none⟩=some (.int .i64 r.kind):=by have:=hcell 0 (by decide);exact this
   have y1:wr.cell? ⟨b,off+k*9+1,none⟩=some (.int .i64 r.seq):=by have:=hcell 1 (by decide);exact this
   have y4:wr.cell? ⟨b,off+k*9+4,none⟩=some (.int .i64 r.group):=by have:=hcell 4 (by decide);exact this
   have i1:(0:Int)≤(k:Int):=by omega
   have i2:(k:Int)<(n:Int):=by omega
   clear hcell hel hy hr hbl
   by_cases c1:r.kind=3
   ·have d1:(r.kind==3)=true:=by simp [c1]
    have HC1:=hid c1;clear c1
    by_cases c2:r.seq=q
    ·have d2:(r.seq==q)=true:=by simp [c2]
     have HC2:=hid c2;clear c2
     by_cases c3:r.group=g
     ·have d3:(r.group==g)=true:=by simp [c3]
      have HC3:=hid c3;clear c3;go_wp2;go_ret;exact ⟨true,rfl,⟨fun _=>⟨k,hlt,by rw [← HRR.out];exact HC1.out,by rw [← HRR.out];exact HC2.out,by rw [← HRR.out];exact HC3.out⟩,fun _=>rfl⟩,HB.out⟩
     ·have d3:(r.group==g)=false:=by simp [c3]
      have HC3:=hid c3;clear c3;go_wp2
      go_roundw
      case rel=>exact ⟨k+1,by omega,by go_num,fun t ht=>(by
       by_cases c:t=k
       ·subst c;rw [← HRR.out];exact fun h=>HC3.out h.2.2
       ·exact HALL.out t (by omega)),HB.out⟩
      case measure=>simp [intOf];omega
    ·have d2:(r.seq==q)=false:=by simp [c2]
     have HC2:=hid c2;clear c2;go_wp2
     go_roundw
     case rel=>exact ⟨k+1,by omega,by go_num,fun t ht=>(by
      by_cases c:t=k
      ·subst c;rw [← HRR.out];exact fun h=>HC2.out h.2.1
      ·exact HALL.out t (by omega)),HB.out⟩
     case measure=>simp [intOf];omega
   ·have d1:(r.kind==3)=false:=by simp [c1]
    have HC1:=hid c1;clear c1;go_wp2
    go_roundw
    case rel=>exact ⟨k+1,by omega,by go_num,fun t ht=>(by
     by_cases c:t=k
     ·subst c;rw [← HRR.out];exact fun h=>HC1.out h.1
     ·exact HALL.out t (by omega)),HB.out⟩
    case measure=>simp [intOf];omega
  ·obtain rfl:k=n:=by omega
   clear hbl;go_wp2;go_ret;exact ⟨false,rfl,⟨(fun h=>by cases h),fun ⟨j,h1,h2⟩=>absurd h2 (HALL.out j h1)⟩,HB.out⟩
end Go.Proofs.YthbpmbgfddpffaaGreat
