/- l7Full and l7Lay of the specification. -/
import Derived.Test.YtclclojenogpbaaGreatZPdropiat
set_option linter.unusedVariables false
set_option linter.unusedSimpArgs false
set_option maxHeartbeats 16000000
namespace Go.Proofs.YtclclojenogpbaaGreat
open Go.RowKit F256
theorem SpP.after {o:Outc} {B:Nat} {w w1 w2:World} {K K1:List Nat} {e:Ending} (hk:∀ b,b∈K1→b∈K∨w.heap.size≤b) (hc:ChgL (B::K) w w1) (h:SpP o B w1 K1 e w2):SpP o B w K e w2:=by
 have hz:=hc.size
 cases o with
 | done c d=>
  obtain ⟨h1,K',h2,h3,h4⟩:=h
  exact ⟨h1,K',h2,fun b hb=>by
   rcases h3 b hb with h | h
   ·exact hk b h
   ·exact .inr (by omega),zc3 hc hk h4⟩
 | cut d=>
  obtain ⟨h1,K',h2,h3,h4⟩:=h
  exact ⟨h1,K',h2,fun b hb=>by
   rcases h3 b hb with h | h
   ·exact hk b h
   ·exact .inr (by omega),zc3 hc hk h4⟩
theorem SpB.below {w w':World} {B:Nat} {d:WorldD} {K:List Nat} (h:SpB w B d K) (hb:Below w.heap.size w w'):SpB w' B d K:=by
 obtain ⟨cs,h1,h2⟩:=h;exact ⟨cs,h1.below hb h1.lt,Lay.own_kept _ h2.own (fun b hk=>hb.block b (zad.own_lt h2.own b hk)),h2.nd,h2.ne⟩
theorem SpB.Klt {w:World} {B:Nat} {d:WorldD} {K:List Nat} (h:SpB w B d K):∀ b,b∈K→b<w.heap.size:=by
 obtain ⟨cs,_,h2⟩:=h;exact fun b hb=>zad.own_lt h2.own b hb
set_option maxRecDepth 20000 in
theorem zkE (d:WorldD) (cs:List Value) (hi Bx:Nat) (w:World) (h:zad.rd w hi d cs) (hhi:hi≤w.heap.size) (hB:Box w Bx cs.toArray 38) (two:d.tapes.1=2) (few:∀ T,T<2→(d.tapes.2 T).recs.1≤1000000) :
 Calls Tryz.prog 127 #[.pointer (some ⟨Bx,0,none⟩),.int .i64 1] w fun e w'=>∃ t,e=.returned (.bool t)∧(t=true↔(200<((d.tapes.2 0).recs.1:Int)+1∨200<((d.tapes.2 1).recs.1:Int)+1))∧w'=w:=by
 obtain ⟨ao1,cap1,ao2,cap2,ao3,cap3,rfl,g1,g2,g3,k0,k4,k5⟩:=zaM h;obtain ⟨_,_,e3,hm3,hc3⟩:=g3
 cases e3
 obtain ⟨b3,off3,he3,hb3,hel3⟩:=hc3 (by omega);subst he3;obtain ⟨ct0,hrt0,hct0⟩:=hel3 0 (by omega);obtain ⟨ct1,hrt1,hct1⟩:=hel3 1 (by omega);obtain ⟨ap,cp,rfl,-⟩:=zbb hrt0;obtain ⟨aq,cq,rfl,-⟩:=zbb hrt1;have x11:w.cell? ⟨Bx,11,none⟩=some (.slice (some ⟨b3,off3,none⟩) d.tapes.1 cap3):=hB.cell 11
 have y0:w.cell? ⟨b3,off3+1,none⟩=some (.slice ap (d.tapes.2 0).recs.1 cp):=by have:=hct0 1 (by decide);rw [show off3+(0*zah.sz+1)=off3+1 by simp] at this;exact this
 have y1:w.cell? ⟨b3,off3+2+1,none⟩=some (.slice aq (d.tapes.2 1).recs.1 cq):=by have:=hct1 1 (by decide);rw [show off3+(1*zah.sz+1)=off3+2+1 by show off3+(1*2+1)=_;omega] at this;exact this
 have f0:=few 0 (by decide);have f1:=few 1 (by decide);obtain ⟨n0,hn0⟩:∃ n,n=(d.tapes.2 0).recs.1:=⟨_,rfl⟩;obtain ⟨n1,hn1⟩:∃ n,n=(d.tapes.2 1).recs.1:=⟨_,rfl⟩;rw [← hn0] at y0 f0 ⊢;rw [← hn1] at y1 f1 ⊢;obtain ⟨nt,hnt⟩:∃ n,n=d.tapes.1:=⟨_,rfl⟩;rw [← hnt] at x11 two
 have j0:(0:Int)<(nt:Int):=by omega
 have j1:(1:Int)<(nt:Int):=by omega
 have w0:IntKind.i64.wrap ((n0:Int)+1)=(n0:Int)+1:=by rw [IntKind.wrap_i64];omega
 have w1:IntKind.i64.wrap ((n1:Int)+1)=(n1:Int)+1:=by rw [IntKind.wrap_i64];omega
 clear hn0 hn1 hnt g1 g2 k0 k4 k5 h hB hct0 hct1 hrt0 hrt1 hel3 hc3 hm3 two few;obtain ⟨P,hP⟩:∃ P:Prop,P=(200<(n0:Int)+1∨200<(n1:Int)+1):=⟨_,rfl⟩;have HP:=hid hP;rw [← hP];clear hP
 by_cases c0:200<(n0:Int)+1
 ·have d0:decide (200<(n0:Int)+1)=true:=decide_eq_true c0
  have HQ:Hid P:=by rw [HP.out];exact .inl c0
  clear c0
  go_enter Tryz.func127,Tryz.ntmps127
  go_wp2;go_ret;exact ⟨true,by simp [d0],⟨fun _=>HQ.out,fun _=>rfl⟩,rfl⟩
 ·have d0:decide (200<(n0:Int)+1)=false:=decide_eq_false c0
  by_cases c1:200<(n1:Int)+1
  ·have d1:decide (200<(n1:Int)+1)=true:=decide_eq_true c1
   have HQ:Hid P:=by rw [HP.out];exact .inr c1
   clear c0 c1
   go_enter Tryz.func127,Tryz.ntmps127
   go_wp2;go_ret;exact ⟨true,by simp [d1],⟨fun _=>HQ.out,fun _=>rfl⟩,rfl⟩
  ·have d1:decide (200<(n1:Int)+1)=false:=decide_eq_false c1
   have HQ:Hid (¬ P):=by rw [HP.out];exact fun h=>h.elim c0 c1
   clear c0 c1
   go_enter Tryz.func127,Tryz.ntmps127
   go_wp2;go_ret;exact ⟨false,by simp [d1],⟨fun h=>(by cases h),fun h=>absurd h HQ.out⟩,rfl⟩
set_option maxRecDepth 20000 in
theorem zkF (B:Nat) (d:WorldD) (K:List Nat) (r:RecD) (o6 o7 o8:Option Addr) (k6 k7 k8 hi:Nat) (w:World) (hX:SpB w B d K) (hf:Fit3 2 d) (hr:∀ w',ChgL (B::K) w w'→zab.rd w' hi r [.int .i64 r.kind,.int .i64 r.seq,.string r.name,.int .i64 r.length,.int .i64 r.group,.int .i64 r.row,.slice o6 r.rows.1 k6,.slice o7 r.data.1 k7,.slice o8 r.delta.1 k8]) (hhi:hi≤w.heap.size) (hsr:zaG r≤1048576) :
 Calls Tryz.prog 128 #[.pointer (some ⟨B,0,none⟩),.agg #[.int .i64 r.kind,.int .i64 r.seq,.string r.name,.int .i64 r.length,.int .i64 r.group,.int .i64 r.row,.slice o6 r.rows.1 k6,.slice o7 r.data.1 k7,.slice o8 r.delta.1 k8]] w (SpP (runO (zaK r) 2 0 d) B w K):=by
 have T0:=zaI w (rwR r o6 k6 o7 k7 o8 k8).toArray 72;obtain ⟨W0,hW0⟩:∃ x,x=w.alloc (.cells (rwR r o6 k6 o7 k7 o8 k8).toArray 72):=⟨_,rfl⟩
 have sA:W0.heap.size=w.heap.size+1:=by rw [hW0];simp
 have C1:=zeh B d K 0 (by decide) r o6 o7 o8 k6 k7 k8 hi W0 (by rw [hW0];exact hX.below T0.bel) (hf.less (by decide)) (fun w' hc=>hr w' ((ChgL.of_below (by rw [hW0];exact T0.bel)).trans (hc.mono (fun b hb=>by simp at hb;simp [hb])))) (by omega) hsr;have HX:=hid hX;have HF:=hid hf;have HRR:=hid hr;have hKl:=hX.Klt;have hBl:=hX.lt;clear hX hf hr
 go_enter Tryz.func128,Tryz.ntmps128
 go_upto_region 1 with fail
 rw [← hW0] at T0 ⊢;clear hW0;obtain ⟨o1,ho1⟩:∃ x,x=zaK r 0 d:=⟨_,rfl⟩;have HO1:=hid ho1;rw [← ho1] at C1;clear ho1
 cases o1 with
 | cut d2=>
  have HE:Hid (runO (zaK r) 2 0 d=.cut d2):=by
   show (zaK r 0 d).next _=_
   rw [← HO1.out];rfl
  go_wp2_with (refine zai 72 (.tmp 3) rfl rfl (w.heap.size) rfl (T0.b1) Tryz.underlying72 zci rfl ?_)
  refine C1.mono ?_;rintro e w5 ⟨rfl,K5,X5,s5,C5⟩;go_wp2;go_ret;rw [HE.out];exact SpP.after (o:=.cut d2) (w1:=W0) (K1:=K) (e:=.returned (.bool false)) (fun b hb=>.inl hb) (ChgL.of_below T0.bel) ⟨rfl,K5,X5,s5,C5⟩
 | done c d2=>
  have c0:c=0:=zdR HO1.out.symm;subst c0
  have HE:Hid (runO (zaK r) 2 0 d=zaK r 1 d2):=by
   show (zaK r 0 d).next (fun x=>(zaK r 1 x).next (fun y=>.done 0 y))=_
   rw [← HO1.out]
   show (if (0:Int)=0 then (zaK r 1 d2).next (fun y=>.done 0 y) else .done 0 d2)=_
   rw [if_pos rfl,zlM]
  have hf2:Fit3 1 d2:=zfH HF.out (by decide) HO1.out.symm;have HF2:=hid hf2;clear hf2
  go_wp2_with (refine zai 72 (.tmp 3) rfl rfl (w.heap.size) rfl (T0.b1) Tryz.underlying72 zci rfl ?_)
  refine C1.mono ?_;rintro e w5 ⟨rfl,K5,X5,s5,C5⟩
  have Q5:=T0.b1.chgl C5 (fun hm=>by
   rcases List.mem_cons.1 hm with h | h
   ·omega
   ·have:=hKl _ h;omega)
  have z5:=C5.size;have bh:ChgL (B::K) w w5:=(ChgL.of_below T0.bel).trans C5;have C2:=zeh B d2 K5 1 (by decide) r o6 o7 o8 k6 k7 k8 hi w5 X5 HF2.out (fun w' hc=>HRR.out w' (bh.trans (hc.mono (fun b hb=>by simp at hb;simp [hb])))) (by omega) hsr;have HS5:=hid s5;have HC5:=hid C5;have HT0:Hid (ChgL (B::K) w W0):=ChgL.of_below T0.bel;obtain ⟨o2,ho2⟩:∃ x,x=zaK r 1 d2:=⟨_,rfl⟩;have HO2:=hid ho2;rw [← ho2] at C2;have q_0:w5.cell? ⟨w.heap.size,0,none⟩=some (.int .i64 r.kind):=Q5.cell 0;have q_1:w5.cell? ⟨w.heap.size,1,none⟩=some (.int .i64 r.seq):=Q5.cell 1;have q_2:w5.cell? ⟨w.heap.size,2,none⟩=some (.string r.name):=Q5.cell 2;have q_3:w5.cell? ⟨w.heap.size,3,none⟩=some (.int .i64 r.length):=Q5.cell 3;have q_4:w5.cell? ⟨w.heap.size,4,none⟩=some (.int .i64 r.group):=Q5.cell 4;have q_5:w5.cell? ⟨w.heap.size,5,none⟩=some (.int .i64 r.row):=Q5.cell 5;have q_6:w5.cell? ⟨w.heap.size,6,none⟩=some (.slice o6 r.rows.1 k6):=Q5.cell 6;have q_7:w5.cell? ⟨w.heap.size,7,none⟩=some (.slice o7 r.data.1 k7):=Q5.cell 7;have q_8:w5.cell? ⟨w.heap.size,8,none⟩=some (.slice o8 r.delta.1 k8):=Q5.cell 8;clear ho2 s5 C5 X5 C1 Q5 bh T0
  cases o2 with
  | cut d3=>
   go_wp2_with (go_at_call 176;refine C2.mono ?_;rintro e w6 ⟨rfl,K6,X6,s6,C6⟩)
   go_ret;rw [HE.out,← HO2.out];exact SpP.after (o:=.cut d3) (fun b hb=>.inl hb) HT0.out (SpP.after (o:=.cut d3) HS5.out HC5.out ⟨rfl,K6,X6,s6,C6⟩)
  | done c d3=>
   go_wp2_with (go_at_call 176;refine C2.mono ?_;rintro e w6 ⟨rfl,K6,X6,s6,C6⟩)
   go_ret;rw [HE.out,← HO2.out];exact SpP.after (o:=.done c d3) (fun b hb=>.inl hb) HT0.out (SpP.after (o:=.done c d3) HS5.out HC5.out ⟨rfl,K6,X6,s6,C6⟩)
def NxO (o:Outc) (B:Nat) (w:World) (K:List Nat) (e:Ending) (w':World):Prop:=match o with
 | .done c d=>e=.returned (.int .i64 c)∧∃ K',SpB w' B d K'∧(∀ b,b∈K'→b∈K∨w.heap.size≤b)∧ChgL (B::K) w w'
 | .cut d=>e=.returned (.int .i64 9)∧∃ K',SpB w' B (cutW d) K'∧(∀ b,b∈K'→b∈K∨w.heap.size≤b)∧ChgL (B::K) w w'
theorem NxO.after {o:Outc} {B:Nat} {w w1 w2:World} {K K1:List Nat} {e:Ending} (hk:∀ b,b∈K1→b∈K∨w.heap.size≤b) (hc:ChgL (B::K) w w1) (h:NxO o B w1 K1 e w2):NxO o B w K e w2:=by
 have hz:=hc.size
 cases o with
 | done c d=>
  obtain ⟨h1,K',h2,h3,h4⟩:=h
  exact ⟨h1,K',h2,fun b hb=>by
   rcases h3 b hb with h | h
   ·exact hk b h
   ·exact .inr (by omega),zc3 hc hk h4⟩
 | cut d=>
  obtain ⟨h1,K',h2,h3,h4⟩:=h
  exact ⟨h1,K',h2,fun b hb=>by
   rcases h3 b hb with h | h
   ·exact hk b h
   ·exact .inr (by omega),zc3 hc hk h4⟩
theorem SpB.stay {w w':World} {B:Nat} {d:WorldD} {K C:List Nat} (h:SpB w B d K) (hc:ChgL C w w') (hd:∀ b,b∈C→b≠B∧b∉K):SpB w' B d K:=by
 obtain ⟨cs,h1,h2⟩:=h;exact ⟨cs,h1.chgl hc (fun hb=>(hd _ hb).1 rfl),Lay.own_chgL _ h2.own hc (fun b hb hm=>(hd _ hm).2 hb),h2.nd,h2.ne⟩
theorem SpB.rd {w:World} {B:Nat} {d:WorldD} {K:List Nat} (h:SpB w B d K):∃ cs,Box w B cs.toArray 38∧zad.rd w w.heap.size d cs:=by
 obtain ⟨cs,h1,h2⟩:=h;exact ⟨cs,h1,h2.T.rd⟩
set_option maxRecDepth 20000 in
theorem zkG (B:Nat) (d:WorldD) (K:List Nat) (r:RecD) (o6 o7 o8:Option Addr) (k6 k7 k8 hi:Nat) (w:World) (hX:SpB w B d K) (hf:FitX d) (hr:∀ x,(-9223372036854775808≤x∧x≤9223372036854775807)→∀ w',ChgL (B::K) w w'→zab.rd w' hi { r with seq:=x } [.int .i64 r.kind,.int .i64 x,.string r.name,.int .i64 r.length,.int .i64 r.group,.int .i64 r.row,.slice o6 r.rows.1 k6,.slice o7 r.data.1 k7,.slice o8 r.delta.1 k8]) (hhi:hi≤w.heap.size) (hsr:zaG r≤1048576) :
 Calls Tryz.prog 81 #[.pointer (some ⟨B,0,none⟩),.agg #[.int .i64 r.kind,.int .i64 r.seq,.string r.name,.int .i64 r.length,.int .i64 r.group,.int .i64 r.row,.slice o6 r.rows.1 k6,.slice o7 r.data.1 k7,.slice o8 r.delta.1 k8]] w (NxO (zbN r d) B w K):=by
 have T0:=zaI w (rwR r o6 k6 o7 k7 o8 k8).toArray 72;obtain ⟨W0,hW0⟩:∃ x,x=w.alloc (.cells (rwR r o6 k6 o7 k7 o8 k8).toArray 72):=⟨_,rfl⟩
 have sA:W0.heap.size=w.heap.size+1:=by rw [hW0];simp
 have hB:=hX.lt;have hKl:=hX.Klt
 have X0:SpB W0 B d K:=by rw [hW0];exact hX.below T0.bel
 obtain ⟨cs0,hBx,hrd⟩:=X0.rd;have CC:=zeb d cs0 W0.heap.size B W0 hrd (Nat.le_refl _) hBx hf.1.two hf.2.1 hf.2.2;have HF:=hid hf;have HR:=hid hr;have HX0:=hid X0;have HSR:=hid hsr;have HKL:=hid hKl;clear hX hf hr hsr X0 hBx hrd hKl
 go_enter Tryz.func81,Tryz.ntmps81
 go_upto_region 1 with fail
 rw [← hW0] at T0 ⊢;clear hW0
 go_wp2_with fail
 refine CC.mono ?_;rintro e w2 ⟨v2,l,ce,lo,rfl,hCt,hlo,V,b2⟩;have z2:W0.heap.size≤w2.heap.size:=b2.size
 have hlen:l.length≤1000000000:=by
  have h1:=(hCt.sum (fun _=>0)).2;have h2:=HF.out.2.1;have h3:=HF.out.2.2
  have e2:lenT d.tapes.2 2=(d.tapes.2 0).recs.1+(d.tapes.2 1).recs.1:=by simp [lenT]
  omega
 have CT:=zlQ v2 l.length (fun i=>recT d.tapes.2 2 (l.getD i 0)) w2.heap.size w2 (V.rd (by omega)) hlen;obtain ⟨a2,c2,rfl⟩:=V.form;have HX2:=hid (HX0.out.below b2);have G2:=T0.call b2;have HB2:=hid G2.bel;have cA:w2.cell? ⟨w.heap.size,1,none⟩=some (.int .i64 r.seq):=G2.b1.cell 1;have f4:=G2.b1.frozen 1;have HG2:=hid G2.b1;clear V b2 CC T0 HX0 G2 hlo
 go_wp2_with fail
 refine CT.mono ?_;rintro e w3 ⟨rfl,e3⟩;obtain rfl:=e3.symm;obtain ⟨t,ht⟩:∃ t,t=zg6 l.length (fun i=>recT d.tapes.2 2 (l.getD i 0)):=⟨_,rfl⟩;rw [← ht];obtain ⟨u,hu⟩:∃ u,u=IntKind.i64.wrap (t+1):=⟨_,rfl⟩
 have HU:Hid (u=nxtD d):=by
  show u=nxtD d
  rw [hu,ht,zlR hCt];rfl
 have hu':IntKind.i64.wrap (t+1)=u:=hu.symm;have CS:ChgL [w.heap.size] w2 (w2.setCell ⟨w.heap.size,1,none⟩ (.int .i64 u)):=ChgL.store _ _ _ _ _ (by simp)
 have g5:Box (w2.setCell ⟨w.heap.size,1,none⟩ (.int .i64 u)) w.heap.size #[.int .i64 r.kind,.int .i64 u,.string r.name,.int .i64 r.length,.int .i64 r.group,.int .i64 r.row,.slice o6 r.rows.1 k6,.slice o7 r.data.1 k7,.slice o8 r.delta.1 k8] 72:=by
  have:=HG2.out.setc 1 (.int .i64 u)
  simpa using this
 have y1:(w2.setCell ⟨w.heap.size,1,none⟩ (.int .i64 u)).cell? ⟨w.heap.size,1,none⟩=some (.int .i64 u):=g5.cell 1;have HG5:=hid g5
 have HX3:Hid (SpB (w2.setCell ⟨w.heap.size,1,none⟩ (.int .i64 u)) B d K):=HX2.out.stay CS (fun b hb=>by
  simp at hb
  subst hb
  exact ⟨by omega,fun hm=>by have:=HKL.out _ hm;omega⟩)
 have HC3:Hid (ChgL (B::K) w (w2.setCell ⟨w.heap.size,1,none⟩ (.int .i64 u))):=ChgL.of_below (HB2.out.trans (CS.bel (fun b hb=>by simp at hb;omega) HB2.out.size));clear CT ht hu hCt g5 CS HX2 HG2
 by_cases hb:1000000000<u
 ·have HN:Hid (zbN r d=.done 2 d):=by
   show zbN r d=.done 2 d
   unfold zbN;rw [if_pos (by rw [← HU.out];exact hb)]
  go_wp2;go_ret;rw [HN.out];exact ⟨rfl,K,HX3.out,fun b hb=>.inl hb,HC3.out⟩
 have hd:decide (1000000000<u)=false:=decide_eq_false hb
 have HN:Hid (zbN r d=layF { r with seq:=u } d):=by
  show zbN r d=layF { r with seq:=u } d
  rw [HU.out];unfold zbN;rw [if_neg (by rw [← HU.out];exact hb)]
 have HUR:Hid (-9223372036854775808≤u∧u≤9223372036854775807):=by
  show _∧_
  rw [HU.out];exact zgl d
 obtain ⟨W3,hW3⟩:∃ x,x=(w2.setCell ⟨w.heap.size,1,none⟩ (.int .i64 u)):=⟨_,rfl⟩;obtain ⟨cs3,hBx3,hrd3⟩:=HX3.out.rd;have CF:=zkE d cs3 _ B _ hrd3 (Nat.le_refl _) hBx3 HF.out.1.two (fun T hT=>by have:=HF.out.1.few T hT;omega);clear hBx3 hrd3
 go_wp2_with fail
 refine CF.mono ?_;rintro e wF ⟨t1,rfl,ht1,e1⟩;have e2:=e1.symm;subst e2;have HTF:=hid ht1;clear CF ht1 y1;rw [← hW3] at HG5 HX3 HC3 ⊢;have hhi3:hi≤W3.heap.size:=Nat.le_trans hhi HC3.out.size;have CL:=zkF B d K { r with seq:=u } o6 o7 o8 k6 k7 k8 hi W3 HX3.out HF.out.1 (fun w' hc=>HR.out u HUR.out w' (HC3.out.trans hc)) hhi3 HSR.out;clear hW3 cA f4
 cases t1 with
 | true=>
  have HQ:Hid (zbN r d=.done 2 d):=by
   show zbN r d=.done 2 d
   rw [HN.out];unfold layF;rw [if_pos (HTF.out.1 rfl)]
  clear CL;go_wp2;go_ret;rw [HQ.out];exact ⟨rfl,K,HX3.out,fun b hb=>.inl hb,HC3.out⟩
 | false=>
 obtain ⟨oc,hoc⟩:∃ x,x=runO (zaK { r with seq:=u }) 2 0 d:=⟨_,rfl⟩
 have HQ:Hid (zbN r d=oc):=by
  show zbN r d=oc
  rw [HN.out,hoc];unfold layF;rw [if_neg (fun h=>by have:=HTF.out.2 h;cases this)]
 rw [← hoc] at CL;have HOC:=hid hoc;clear hoc
 cases oc with
 | cut d2=>
  go_wp2_with (refine zai 72 (.tmp 3) rfl rfl (w.heap.size) rfl (HG5.out) Tryz.underlying72 zci rfl ?_)
  refine CL.mono ?_;rintro e w6 ⟨rfl,K6,X6,s6,C6⟩;go_wp2;go_ret;rw [HQ.out];exact NxO.after (o:=.cut d2) (fun b hb=>.inl hb) HC3.out ⟨rfl,K6,X6,s6,C6⟩
 | done c d2=>
  have c0:c=0:=zgi (d:=d) _ _ _ _ _ HOC.out.symm;subst c0
  go_wp2_with (refine zai 72 (.tmp 3) rfl rfl (w.heap.size) rfl (HG5.out) Tryz.underlying72 zci rfl ?_)
  refine CL.mono ?_;rintro e w6 ⟨rfl,K6,X6,s6,C6⟩;go_wp2;go_ret;rw [HQ.out];exact NxO.after (o:=.done 0 d2) (fun b hb=>.inl hb) HC3.out ⟨rfl,K6,X6,s6,C6⟩
set_option maxRecDepth 20000 in
theorem zeL (v0 v1 v2 v3 v4 v5 v6 v7 v8 vp0 vl0 vq0 vp1 vl1 vq1 vp2 vl2 vq2 v9 v10 vb:_) (c:Int) (hc:c=0∨c=9) (w:World) (h1:∀ x,x∈([.int .i64 v0,.int .i64 v1,.int .i64 v2,.int .i64 v3,.int .i64 v4,.int .i64 v5,.int .i64 v6,.int .i64 v7,.int .i64 v8,.slice vp0 vl0 vq0,.slice vp1 vl1 vq1,.slice vp2 vl2 vq2,.int .i64 v9,.int .i64 v10,.bool vb]:List Value)→x.oneCell'=true) :
 Calls Tryz.prog 49 #[.agg #[.int .i64 v0,.int .i64 v1,.int .i64 v2,.int .i64 v3,.int .i64 v4,.int .i64 v5,.int .i64 v6,.int .i64 v7,.int .i64 v8,.slice vp0 vl0 vq0,.slice vp1 vl1 vq1,.slice vp2 vl2 vq2,.int .i64 v9,.int .i64 v10,.bool vb],.int .i64 c] w fun e w'=>e=.returned (.agg #[.int .i64 c,.int .i64 v0,.int .i64 v1,.int .i64 v2,.int .i64 v3,.int .i64 v4,.int .i64 v5,.int .i64 v6,.int .i64 v7,.int .i64 v8,.slice vp0 vl0 vq0,.slice vp1 vl1 vq1,.slice vp2 vl2 vq2,.int .i64 v9,.int .i64 v10,.bool vb])∧Below w.heap.size w w':=by
 have T0:=zax w (rwV v0 v1 v2 v3 v4 v5 v6 v7 v8 vp0 vl0 vq0 vp1 vl1 vq1 vp2 vl2 vq2 v9 v10 vb).toArray rwZ.toArray 38 46
 have o0:∀ c:Int,∀ x,x∈((.int .i64 c::rwV v0 v1 v2 v3 v4 v5 v6 v7 v8 vp0 vl0 vq0 vp1 vl1 vq1 vp2 vl2 vq2 v9 v10 vb):List Value)→x.oneCell'=true:=fun c x hx=>by
  rcases List.mem_cons.1 hx with rfl | h
  ·rfl
  ·exact h1 x h
 clear h1
 rcases hc with rfl | rfl
 ·go_enter Tryz.func49,Tryz.ntmps49
  go_wp2_with (first | (refine zai 38 (.tmp 2) rfl rfl (w.heap.size) rfl (T0.b1) Tryz.underlying38 zbk rfl ?_) | (refine zaF 46 _ _ rfl rfl (w.heap.size+1) rfl (cs:=(.int .i64 0::rwV v0 v1 v2 v3 v4 v5 v6 v7 v8 vp0 vl0 vq0 vp1 vl1 vq1 vp2 vl2 vq2 v9 v10 vb)) rfl T0.b2 zaU rfl rfl (o0 0) ?_;intro w9 X9 C9 z9))
  refine zbl Tryz.results49 rfl X9 Tryz.underlying46 zaU rfl rfl ?_;exact ⟨rfl,T0.bel.trans (C9.bel (fun b hb=>by simp at hb;omega) T0.bel.size)⟩
 ·go_enter Tryz.func49,Tryz.ntmps49
  go_wp2_with (first | (refine zai 38 (.tmp 2) rfl rfl (w.heap.size) rfl (T0.b1) Tryz.underlying38 zbk rfl ?_) | (refine zaF 46 _ _ rfl rfl (w.heap.size+1) rfl (cs:=(.int .i64 9::rwV v0 v1 v2 v3 v4 v5 v6 v7 v8 vp0 vl0 vq0 vp1 vl1 vq1 vp2 vl2 vq2 v9 v10 vb)) rfl T0.b2 zaU rfl rfl (o0 9) ?_;intro w9 X9 C9 z9))
  refine zbl Tryz.results49 rfl X9 Tryz.underlying46 zaU rfl rfl ?_;exact ⟨rfl,T0.bel.trans (C9.bel (fun b hb=>by simp at hb;omega) T0.bel.size)⟩
set_option maxRecDepth 20000 in
theorem zib (v0 v1 v2 v3 v4 v5 v6 v7 v8 vp0 vl0 vq0 vp1 vl1 vq1 vp2 vl2 vq2 v9 v10 vb:_) (c:Int) (hcb:-9223372036854775808≤c∧c≤9223372036854775807) (hc0:c≠0) (hc9:c≠9) (w:World) :
 Calls Tryz.prog 49 #[.agg #[.int .i64 v0,.int .i64 v1,.int .i64 v2,.int .i64 v3,.int .i64 v4,.int .i64 v5,.int .i64 v6,.int .i64 v7,.int .i64 v8,.slice vp0 vl0 vq0,.slice vp1 vl1 vq1,.slice vp2 vl2 vq2,.int .i64 v9,.int .i64 v10,.bool vb],.int .i64 c] w fun e w'=>e=.returned (.agg #[.int .i64 c,.int .i64 0,.int .i64 0,.int .i64 0,.int .i64 0,.int .i64 0,.int .i64 0,.int .i64 0,.int .i64 0,.int .i64 0,.slice none 0 0,.slice none 0 0,.slice none 0 0,.int .i64 0,.int .i64 0,.bool false])∧Below w.heap.size w w':=by
 have T0:=zax w (rwV v0 v1 v2 v3 v4 v5 v6 v7 v8 vp0 vl0 vq0 vp1 vl1 vq1 vp2 vl2 vq2 v9 v10 vb).toArray rwZ.toArray 38 46;have oz:=zdF c hcb w
 have hne:(c != 0)=true:=by simpa using hc0
 have hn9:(c != 9)=true:=by simpa using hc9
 clear hcb hc0 hc9
 go_enter Tryz.func49,Tryz.ntmps49
 go_wp2_with (first | (refine zai 38 (.tmp 2) rfl rfl (w.heap.size) rfl (T0.b1) Tryz.underlying38 zbk rfl ?_) | (refine zaF 46 _ _ rfl rfl (w.heap.size+1) rfl (cs:=(.int .i64 c::rwY)) rfl T0.b2 zaU rfl rfl oz ?_;intro w9 X9 C9 z9))
 refine zbl Tryz.results49 rfl X9 Tryz.underlying46 zaU rfl rfl ?_;exact ⟨rfl,T0.bel.trans (C9.bel (fun b hb=>by simp at hb;omega) T0.bel.size)⟩
def DrO (d:WorldD) (nm:ByteArray) (B:Nat) (w:World) (K:List Nat) (e:Ending) (w':World):Prop:=∃ p o,NnAns d nm p∧((p.code≠0∧p.code≠9∧o=.done p.code d)∨(p.code=0∧o=zbN (drpR nm) d))∧NxO o B w K e w'
set_option maxRecDepth 20000 in
theorem zkH (B:Nat) (d:WorldD) (K:List Nat) (nm:ByteArray) (w:World) (hX:SpB w B d K) (hask:AskAns d 0) (hnm:nm.size≤1048576) :
 Calls Tryz.prog 48 #[.pointer (some ⟨B,0,none⟩),.string nm] w (DrO d nm B w K):=by
 obtain ⟨cs0,hBx,hrd⟩:=hX.rd;have hf:=zlU (zmJ hask) (zmK hask);have CC:=zeb d cs0 w.heap.size B w hrd (Nat.le_refl _) hBx hf.1.two hf.2.1 hf.2.2;have CN0:=zez nm hnm w;have HF:=hid hf;have HX:=hid hX;have HA:=hid hask;have HNM:=hid hnm;have hB:=hX.lt;clear hX hask hf hBx hrd hnm
 go_enter Tryz.func48,Tryz.ntmps48
 go_wp2_with fail
 refine CN0.mono ?_;rintro e w1 ⟨x,rfl,hx,e1⟩;have e2:=e1.symm;subst e2;have HN:=hid hx;clear CN0 hx
 by_cases hx0:x=0
 case neg=>
  have hne:(x != 0)=true:=by simp [hx0]
  have H9:Hid (x≠9):=by
   show x≠9
   rcases HN.out with ⟨rfl,_⟩ | ⟨rfl,_⟩<;>decide
  have H0:=hid hx0;clear hx0 CC;go_wp2;go_ret;exact ⟨⟨x,(0,fun _=>rec0)⟩,.done x d,.inl ⟨x,H0.out,.inr ⟨HA.out,HN.out⟩,rfl⟩,.inl ⟨H0.out,H9.out,rfl⟩,rfl,K,HX.out,fun b hb=>.inl hb,ChgL.refl _ _⟩
 subst hx0;have HNF:Hid (NfC d nm 0):=.inr ⟨HA.out,HN.out⟩
 go_wp2_with fail
 refine CC.mono ?_;rintro e w2 ⟨v2,l,ce0,lo2,rfl,hCt,hlo2,V,b2⟩;have HL:=hid hCt;have z2:w.heap.size≤w2.heap.size:=b2.size;have HB2:=hid b2
 have hlen:l.length≤1000000:=by
  have h1:=(hCt.sum (fun _=>0)).2;have h2:=HF.out.2.1;have h3:=HF.out.2.2
  have e2:lenT d.tapes.2 2=(d.tapes.2 0).recs.1+(d.tapes.2 1).recs.1:=by simp [lenT]
  omega
 have rdl:=V.rd (by omega);have CN:=zhK v2 l.length (fun i=>recT d.tapes.2 2 (l.getD i 0)) nm w2.heap.size w2 rdl (Nat.le_refl _) (by omega);clear CC b2 V;obtain ⟨ao,cap,ev,hmm,hc⟩:=rdl
 obtain rfl:v2=.slice ao l.length cap:=by simpa using ev
 have HC:=hid hc;clear hc hmm ev;obtain ⟨at_,hat⟩:∃ a,a=zdG (itm (fun i=>recT d.tapes.2 2 (l.getD i 0)) nm) l.length:=⟨_,rfl⟩;rw [← hat] at CN;obtain ⟨n,hn⟩:∃ n,n=l.length:=⟨_,rfl⟩;have HLN:=hid hn;rw [← hn] at CN ⊢;clear hn
 go_wp2_with fail
 refine CN.mono ?_;rintro e w5 ⟨rfl,b5⟩;have HB5:=hid (HB2.out.trans (b5.mono z2));have z5:w2.heap.size≤w5.heap.size:=b5.size;have HX5:=hid (HX.out.below HB5.out);have HNO:Hid (∀ q,NwP (fun i=>recT d.tapes.2 2 (l.getD i 0)) l.length nm q→NnAns d nm q):=fun q hq=>.inr ⟨HNF.out,.inr ⟨zfA HA.out,l,HL.out,hq⟩⟩
 rcases zcD (itm (fun i=>recT d.tapes.2 2 (l.getD i 0)) nm) l.length with e | ⟨i,hiN,hi2,hi3⟩
 ·have HLA:=hid e
  obtain rfl:at_=-1:=hat.trans e;clear hat e hCt HC CN b5;go_wp2;go_ret;exact ⟨⟨4,(0,fun _=>rec0)⟩,.done 4 d,HNO.out _ (.inl ⟨HLA.out,rfl⟩),.inl ⟨(by decide),(by decide),rfl⟩,rfl,K,HX5.out,fun b hb=>.inl hb,ChgL.of_below HB5.out⟩
 ·have HLA:=hid hi2
  obtain rfl:at_=(i:Int):=hat.trans hi2;obtain ⟨b,off,rfl,hbh,hel⟩:=HC.out (by omega);obtain ⟨ce,hy,hcell⟩:=zat (t:=72) hel b5 (Nat.le_refl _) hbh hiN;obtain ⟨r,hr⟩:∃ r,r=recT d.tapes.2 2 (l.getD i 0):=⟨_,rfl⟩;have HRR:=hid hr;rw [← hr] at hy;obtain ⟨ao6,cap6,ao7,cap7,ao8,cap8,rfl,-⟩:=zaO hy
  have y3:w5.cell? ⟨b,off+i*9+3,none⟩=some (.int .i64 r.length):=by have:=hcell 3 (by decide);exact this
  have HIN:=hid hiN
  have i1:(0:Int)≤(i:Int):=by omega
  have i2:(i:Int)<(n:Int):=by have:=HLN.out;omega
  have i3:¬ (i:Int)<0:=by omega
  clear hat hi2 hi3 hCt HC CN b5 hel hcell hr hiN hy
  by_cases hm:r.length<0
  ·have HM:=hid hm
   go_wp2;go_ret;exact ⟨⟨4,(0,fun _=>rec0)⟩,.done 4 d,HNO.out _ (.inr ⟨i,HIN.out,HLA.out,.inl ⟨(show (recT d.tapes.2 2 (l.getD i 0)).length<0 by rw [← HRR.out];exact HM.out),rfl⟩⟩),.inl ⟨(by decide),(by decide),rfl⟩,rfl,K,HX5.out,fun b hb=>.inl hb,ChgL.of_below HB5.out⟩
  ·have HM:=hid hm
   have CL:=zkG B d K (drpR nm) none none none 0 0 0 0 w5 HX5.out HF.out (fun x hx w' _=>zmL nm HNM.out w' 0 x hx) (Nat.zero_le _) (zlT HNM.out);have CL':Calls Tryz.prog 81 #[.pointer (some ⟨B,0,none⟩),.agg #[.int .i64 1,.int .i64 0,.string nm,.int .i64 (-1),.int .i64 0,.int .i64 0,.slice none 0 0,.slice none 0 0,.slice none 0 0]] w5 (NxO (zbN (drpR nm) d) B w5 K):=CL;clear CL
   go_wp2_with fail
   refine CL'.mono ?_;rintro e w6 h6;clear hm;have HH:Hid (DrO d nm B w K e w6):=⟨⟨0,(1,fun _=>recT d.tapes.2 2 (l.getD i 0))⟩,zbN (drpR nm) d,HNO.out _ (.inr ⟨i,HIN.out,HLA.out,.inr ⟨(show ¬ (recT d.tapes.2 2 (l.getD i 0)).length<0 by rw [← HRR.out];have:=HM.out;omega),rfl⟩⟩),.inr ⟨rfl,rfl⟩,NxO.after (fun b hb=>.inl hb) (ChgL.of_below HB5.out) h6⟩
   have he:∃ c:Int,e=.returned (.int .i64 c):=by
    cases hq:zbN (drpR nm) d with
    | done c d2=>rw [hq] at h6;exact ⟨c,h6.1⟩
    | cut d2=>rw [hq] at h6;exact ⟨9,h6.1⟩
   obtain ⟨c,rfl⟩:=he;clear h6 CL';go_wp2;go_ret;exact HH.out
set_option maxRecDepth 20000 in
theorem zic (d:WorldD) (nm:ByteArray) (cs:List Value) (hi:Nat) (w:World) (h:zad.rd w hi d cs) (hhi:hi≤w.heap.size) (hsz:zaS d≤1048576) (hnm:nm.size≤1048576) :
 Calls Tryz.prog 15 #[.agg cs.toArray,.string nm] w (zfa (DrpAns d nm) w):=by
 have h':=h;obtain ⟨ao1,cap1,ao2,cap2,ao3,cap3,rfl,g1,g2,g3,k0,k4,k5⟩:=zaM h';have HRD:=hid h;have HSZ:=hid hsz;have Hnm:=hid hnm;clear h h' hsz g1 g2 g3 k0 k4 k5 hnm;have T0:=zax w (rwW d ao1 cap1 ao2 cap2 ao3 cap3).toArray rwZ.toArray 38 46
 go_enter Tryz.func15,Tryz.ntmps15
 go_wp2_with (refine zai 38 (.tmp 2) rfl rfl (w.heap.size) rfl (T0.b1) Tryz.underlying38 zbk rfl ?_)
 refine (zi5 d _ hi _ (zad.rd_below HRD.out T0.bel hhi) (Nat.le_trans hhi T0.bel.size) HSZ.out).mono ?_;rintro e w1 ⟨x,rfl,hx,b1⟩;have HT1:=hid (T0.call b1);have HX:=hid hx;have z1:w.heap.size+1<w1.heap.size:=HT1.out.b2.lt;clear b1 T0 hx
 by_cases hx0:x=0
 case neg=>
  have hne:(x != 0)=true:=by simp [hx0]
  go_wp2_with (refine zaF 46 _ _ rfl rfl (w.heap.size+1) rfl (cs:=(.int .i64 x::rwY)) rfl (HT1.out.b2) zaU rfl rfl (zdF _ (zfz HX.out) w) ?_;intro w9 X9 C9 z9)
  refine zbl Tryz.results15 rfl X9 Tryz.underlying46 zaU rfl rfl ?_;exact zfw (zfz HX.out) HT1.out.bel C9 (⟨⟨x,(0,fun _=>rec0)⟩,.inl ⟨x,hx0,.inl ⟨hx0,HX.out⟩,rfl⟩,.inl ⟨hx0,rfl⟩⟩)
 subst hx0;have HOK:=hid (zmJ HX.out)
 go_wp2_with (refine zai 38 (.tmp 2) rfl rfl (w.heap.size) rfl (HT1.out.b1) Tryz.underlying38 zbk rfl ?_)
 refine (zlW _ d hi _ (zad.rd_below HRD.out HT1.out.bel hhi) (Nat.le_trans hhi HT1.out.bel.size) HSZ.out).mono ?_;rintro e w2 ⟨c2,rfl,o2,b2⟩;obtain ⟨p1,c1,p2,c2,p3,c3,K1,K2,K3,rfl,WO2⟩:=zkt o2;have z2:w1.heap.size≤w2.heap.size:=b2.size
 go_upto_region 5 with (refine zaN 38 6 (.tmp 15) _ _ 15 rfl rfl rfl rfl rfl rfl rfl rfl zmD rfl rfl o2.one ?_)
 have bA:=bAl w2 (.cells (rwW d p1 c1 p2 c2 p3 c3).toArray 38);have X3:=zaq w2 (rwW d p1 c1 p2 c2 p3 c3).toArray 38;obtain ⟨W3,hW3⟩:∃ x,x=w2.alloc (.cells (rwW d p1 c1 p2 c2 p3 c3).toArray 38):=⟨_,rfl⟩;rw [← hW3] at bA X3 ⊢;have T3:=(HT1.out.call b2).call bA;have WO:=WO2.below bA (Nat.le_refl _);have z3:w2.heap.size<W3.heap.size:=X3.lt;clear bA hW3 o2 b2 WO2;have hin:∀ b,b∈K1++(K2++(K3++[]))→w1.heap.size≤b∧b<w2.heap.size:=fun b hb=>WO.inn b (by simpa using hb);have S3:SpB W3 w2.heap.size d (K1++(K2++(K3++[]))):=⟨_,X3,WO.encO (fun hm=>by have:=WO.inn _ hm;omega)⟩;have CS:=zkH w2.heap.size d _ nm W3 S3 HX.out Hnm.out;clear S3 X3 WO
 go_wp2_with fail
 refine CS.mono ?_;rintro e w5 ⟨p,oc,hp,ho,h5⟩;have HP:=hid hp;have HO:=hid ho;clear CS hp ho
 cases oc with
 | cut d2=>
  obtain ⟨rfl,K5,S5,s5,C5⟩:=h5
  have HQ:Hid (DrpAns d nm ⟨9,cutW d2⟩):=by
   rcases HO.out with ⟨_,_,h⟩ | ⟨h0,h⟩
   ·cases h
   ·exact ⟨p,HP.out,.inr ⟨h0,by rw [← h];rfl⟩⟩
  clear HO HP;obtain ⟨cs5,X5,O5⟩:=S5;obtain ⟨y0,y1,y2,y3,y4,y5,y6,y7,y8,yp0,yl0,yq0,yp1,yl1,yq1,yp2,yl2,yq2,y9,y10,yb,rfl⟩:=zbQ O5.own;have z5:=C5.size
  have T5:=T3.chgK C5 (fun b hb=>by
   rcases List.mem_cons.1 hb with h | h
   ·omega
   ·have:=hin b h;omega)
  have OO:OwnT zad w5 w1.heap.size w5.heap.size (cutW d2) (rwV y0 y1 y2 y3 y4 y5 y6 y7 y8 yp0 yl0 yq0 yp1 yl1 yq1 yp2 yl2 yq2 y9 y10 yb):=⟨K5,O5.own,O5.nd,fun b hb=>⟨by
   rcases s5 b hb with h | h
   ·exact (hin b h).1
   ·omega,zad.own_lt O5.own b hb⟩⟩
  have CL:=zeL y0 y1 y2 y3 y4 y5 y6 y7 y8 yp0 yl0 yq0 yp1 yl1 yq1 yp2 yl2 yq2 y9 y10 yb 9 (by decide) w5 OO.one;clear T3 C5 s5 O5
  go_wp2_with (first | (refine zai 38 (.tmp 6) rfl rfl (w2.heap.size) rfl (X5) Tryz.underlying38 zbk rfl ?_) | (go_at_call 49;refine CL.mono ?_;rintro e w6 ⟨rfl,b6⟩;have T6:=T5.call b6;have O6:=OO.below b6 (Nat.le_refl _)) | (refine zaF 46 _ _ rfl rfl (w.heap.size+1) rfl (cs:=(.int .i64 9::rwV y0 y1 y2 y3 y4 y5 y6 y7 y8 yp0 yl0 yq0 yp1 yl1 yq1 yp2 yl2 yq2 y9 y10 yb)) rfl T6.b2 zaU rfl rfl (zcM 9 (by decide) O6).one ?_;intro w9 X9 C9 z9))
  refine zbl Tryz.results15 rfl X9 Tryz.underlying46 zaU rfl rfl ?_;exact zgg (by decide) T6.bel C9 O6 (by omega) b6.size (HQ.out)
 | done c d2=>
  obtain ⟨rfl,K5,S5,s5,C5⟩:=h5
  by_cases hc0:c=0
  ·subst hc0
   have HQ:Hid (DrpAns d nm ⟨0,d2⟩):=by
    rcases HO.out with ⟨h0,_,h⟩ | ⟨h0,h⟩
    ·simp only [Outc.done.injEq] at h
     exact absurd h.1.symm h0
    ·exact ⟨p,HP.out,.inr ⟨h0,by rw [← h];simp [Outc.final]⟩⟩
   clear HO HP;obtain ⟨cs5,X5,O5⟩:=S5;obtain ⟨y0,y1,y2,y3,y4,y5,y6,y7,y8,yp0,yl0,yq0,yp1,yl1,yq1,yp2,yl2,yq2,y9,y10,yb,rfl⟩:=zbQ O5.own;have z5:=C5.size
   have T5:=T3.chgK C5 (fun b hb=>by
    rcases List.mem_cons.1 hb with h | h
    ·omega
    ·have:=hin b h;omega)
   have OO:OwnT zad w5 w1.heap.size w5.heap.size d2 (rwV y0 y1 y2 y3 y4 y5 y6 y7 y8 yp0 yl0 yq0 yp1 yl1 yq1 yp2 yl2 yq2 y9 y10 yb):=⟨K5,O5.own,O5.nd,fun b hb=>⟨by
    rcases s5 b hb with h | h
    ·exact (hin b h).1
    ·omega,zad.own_lt O5.own b hb⟩⟩
   have CL:=zeL y0 y1 y2 y3 y4 y5 y6 y7 y8 yp0 yl0 yq0 yp1 yl1 yq1 yp2 yl2 yq2 y9 y10 yb 0 (by decide) w5 OO.one;clear T3 C5 s5 O5
   go_wp2_with (first | (refine zai 38 (.tmp 6) rfl rfl (w2.heap.size) rfl (X5) Tryz.underlying38 zbk rfl ?_) | (go_at_call 49;refine CL.mono ?_;rintro e w6 ⟨rfl,b6⟩;have T6:=T5.call b6;have O6:=OO.below b6 (Nat.le_refl _)) | (refine zaF 46 _ _ rfl rfl (w.heap.size+1) rfl (cs:=(.int .i64 0::rwV y0 y1 y2 y3 y4 y5 y6 y7 y8 yp0 yl0 yq0 yp1 yl1 yq1 yp2 yl2 yq2 y9 y10 yb)) rfl T6.b2 zaU rfl rfl (zcM 0 (by decide) O6).one ?_;intro w9 X9 C9 z9))
   refine zbl Tryz.results15 rfl X9 Tryz.underlying46 zaU rfl rfl ?_;exact zgg (by decide) T6.bel C9 O6 (by omega) b6.size (HQ.out)
  ·have HC0:=hid hc0
   have HQ:Hid (DrpAns d nm ⟨c,zgA⟩):=by
    rcases HO.out with ⟨h0,_,h⟩ | ⟨h0,h⟩
    ·cases h;exact ⟨p,HP.out,.inl ⟨h0,rfl⟩⟩
    ·exact ⟨p,HP.out,.inr ⟨h0,by rw [← h];simp [Outc.final,HC0.out]⟩⟩
   have HC9:Hid (c≠9):=by
    show c≠9
    rcases HO.out with ⟨h0,h9,h⟩ | ⟨h0,h⟩
    ·cases h;exact h9
    ·rcases zew h.symm with rfl | rfl<;>decide
   have HCB:Hid (-9223372036854775808≤c∧c≤9223372036854775807):=by
    show _∧_
    rcases HO.out with ⟨h0,h9,h⟩ | ⟨h0,h⟩
    ·cases h;exact zlV HP.out
    ·rcases zew h.symm with rfl | rfl<;>decide
   clear HO HP hc0;obtain ⟨cs5,X5,O5⟩:=S5;obtain ⟨y0,y1,y2,y3,y4,y5,y6,y7,y8,yp0,yl0,yq0,yp1,yl1,yq1,yp2,yl2,yq2,y9,y10,yb,rfl⟩:=zbQ O5.own;have z5:=C5.size
   have T5:=T3.chgK C5 (fun b hb=>by
    rcases List.mem_cons.1 hb with h | h
    ·omega
    ·have:=hin b h;omega)
   have CL:=zib y0 y1 y2 y3 y4 y5 y6 y7 y8 yp0 yl0 yq0 yp1 yl1 yq1 yp2 yl2 yq2 y9 y10 yb c HCB.out HC0.out HC9.out w5;clear T3 C5 s5 O5
   go_wp2_with (first | (refine zai 38 (.tmp 6) rfl rfl (w2.heap.size) rfl (X5) Tryz.underlying38 zbk rfl ?_) | (go_at_call 49;refine CL.mono ?_;rintro e w6 ⟨rfl,b6⟩;have T6:=T5.call b6) | (refine zaF 46 _ _ rfl rfl (w.heap.size+1) rfl (cs:=(.int .i64 c::rwY)) rfl (T6.b2) zaU rfl rfl (zdF _ HCB.out w) ?_;intro w9 X9 C9 z9))
   refine zbl Tryz.results15 rfl X9 Tryz.underlying46 zaU rfl rfl ?_;exact zfw HCB.out T6.bel C9 (HQ.out)
def PowN (C:List Nat) (o:Outc) (cb:Nat) (w:World) (e:Ending) (w':World):Prop:=∃ cs,e=.returned (.agg cs.toArray)∧OwnT zaA w' w.heap.size w'.heap.size o.told cs∧Box w' cb #[.int .i64 o.code] 2∧ChgL (cb::C) w w'
set_option maxRecDepth 100000 in
theorem zid (C:List Nat) (d:WorldD) (cs:List Value) (hi tb cb:Nat) (w:World) (h:zad.rd w hi d cs) (hhi:hi≤w.heap.size) (hsz:zaS d≤1048576) (o:Outc) (hcb:Box w cb #[.int .i64 0] 2) (hCC:∀ x,x∈C→x<w.heap.size∧x≠cb)
 (HW:∀ (W3:World) (E:Nat) (K:List Nat),Below w.heap.size w W3→w.heap.size≤E→(∀ b,b∈K→w.heap.size≤b)→EncB W3 E d K→Calls Tryz.prog 83 #[.pointer (some ⟨E,0,none⟩),.pointer (some ⟨tb,0,none⟩),.pointer (some ⟨cb,0,none⟩)] W3 (CarN C o E cb W3 K)) :
 Calls Tryz.prog 82 #[.agg cs.toArray,.func (.func 83) #[] #[.pointer (some ⟨tb,0,none⟩),.pointer (some ⟨cb,0,none⟩)]] w (PowN C o cb w):=by
 obtain ⟨v0,v1,v2,v3,v4,v5,v6,v7,v8,vp0,vl0,vq0,vp1,vl1,vq1,vp2,vl2,vq2,v9,v10,vb,rfl⟩:=zgV h;have hmf:∀ (fn:Fn) (first cap:Array Value) (w:World),(Instr.makeFunc fn first cap).run Tryz.prog w=.ok (.func fn first cap) w:=fun _ _ _ _=>rfl;have hcl:=hcb.lt;have T0:=zax w #[.int .i64 v0,.int .i64 v1,.int .i64 v2,.int .i64 v3,.int .i64 v4,.int .i64 v5,.int .i64 v6,.int .i64 v7,.int .i64 v8,.slice vp0 vl0 vq0,.slice vp1 vl1 vq1,.slice vp2 vl2 vq2,.int .i64 v9,.int .i64 v10,.bool vb] #[.int .i64 0,.int .i64 0,.int .i64 0,.int .i64 0,.int .i64 0,.int .i64 0,.int .i64 0,.int .i64 0,.int .i64 0,.int .i64 0,.slice none 0 0,.slice none 0 0,.slice none 0 0,.int .i64 0,.int .i64 0,.bool false] 38 46;have CC:=fun w' (hb:Below w.heap.size w w')=>zh3 [.int .i64 v0,.int .i64 v1,.int .i64 v2,.int .i64 v3,.int .i64 v4,.int .i64 v5,.int .i64 v6,.int .i64 v7,.int .i64 v8,.slice vp0 vl0 vq0,.slice vp1 vl1 vq1,.slice vp2 vl2 vq2,.int .i64 v9,.int .i64 v10,.bool vb] d hi w' (zad.rd_below h hb hhi) (Nat.le_trans hhi hb.size) hsz;clear h
 go_enter_defers Tryz.func82,Tryz.ntmps82
 go_wp2_with (refine zai 38 (.tmp 2) rfl rfl (w.heap.size) rfl (T0.b1) Tryz.underlying38 zbk rfl ?_)
 refine (CC _ T0.bel).mono ?_;rintro e w2 ⟨c2,rfl,o2,b2⟩;obtain ⟨u0,u1,u2,u3,u4,u5,u6,u7,u8,up0,ul0,uq0,up1,ul1,uq1,up2,ul2,uq2,u9,u10,ub,rfl⟩:=zjA o2;have T2:=T0.call b2;have z2:w.heap.size+1<w2.heap.size:=T2.b2.lt;have TB:=zax w2 #[.int .i32 0,.int .u32 0,.int .u32 0,.int .i32 0,.int .u32 0,.int .i64 u0,.int .i64 u1,.int .i64 u2,.int .i64 u3,.int .i64 u4,.int .i64 u5,.int .i64 u6,.int .i64 u7,.int .i64 u8,.slice up0 ul0 uq0,.slice up1 ul1 uq1,.slice up2 ul2 uq2,.int .i64 u9,.int .i64 u10,.bool ub] #[.pointer (some ⟨w2.heap.size,0,none⟩)] 149 132;obtain ⟨K,hk1,hk2,hk3⟩:=o2;have hkz:∀ b,b∈K→w.heap.size≤b∧b<w2.heap.size:=fun b hb=>⟨by have:=hk3 b hb;simp at this;omega,(hk3 b hb).2⟩
 go_upto_region 2 with fail
 obtain ⟨W3,hW3⟩:∃ x,x=(w2.alloc (.cells #[.int .i32 0,.int .u32 0,.int .u32 0,.int .i32 0,.int .u32 0,.int .i64 u0,.int .i64 u1,.int .i64 u2,.int .i64 u3,.int .i64 u4,.int .i64 u5,.int .i64 u6,.int .i64 u7,.int .i64 u8,.slice up0 ul0 uq0,.slice up1 ul1 uq1,.slice up2 ul2 uq2,.int .i64 u9,.int .i64 u10,.bool ub] 149)).alloc (.cells #[.pointer (some ⟨w2.heap.size,0,none⟩)] 132):=⟨_,rfl⟩;rw [← hW3] at TB ⊢;clear hW3;have T3:=T2.call TB.bel;have O3:EncB W3 w2.heap.size d K:=⟨[.int .i64 u0,.int .i64 u1,.int .i64 u2,.int .i64 u3,.int .i64 u4,.int .i64 u5,.int .i64 u6,.int .i64 u7,.int .i64 u8,.slice up0 ul0 uq0,.slice up1 ul1 uq1,.slice up2 ul2 uq2,.int .i64 u9,.int .i64 u10,.bool ub],TB.b1,Lay.own_kept _ hk1 (fun b hb=>TB.bel.block b (hkz b hb).2),hk2,fun hb=>by have:=hkz _ hb;omega⟩;have z3:w2.heap.size+1<W3.heap.size:=TB.b2.lt;have x5:W3.cell? ⟨w2.heap.size+1,0,none⟩=some (.pointer (some ⟨w2.heap.size,0,none⟩)):=TB.b2.cell 0;have CB3:=hcb.below T3.bel hcl;have CF0:=HW W3 w2.heap.size K T3.bel (by omega) (fun b hb=>(hkz b hb).1) O3
 have hRn:w.heap.size+1∉K:=fun hm=>by have:=hk3 _ hm;have:=T0.b2.lt;omega
 clear HW hcb CC
 cases o with
 | cut d2=>
  have CF:=CF0.mono (R':=fun e w'=>e=.panicked [{ v:=.iface 275 (.agg #[]),recovered:=false }]∧∃ y0 y1 y2 y3 y4 y5 y6 y7 y8 yp0 yl0 yq0 yp1 yl1 yq1 yp2 yl2 yq2 y9 y10 yb K',Box w' w2.heap.size #[.int .i32 0,.int .u32 0,.int .u32 1,.int .i32 0,.int .u32 0,.int .i64 y0,.int .i64 y1,.int .i64 y2,.int .i64 y3,.int .i64 y4,.int .i64 y5,.int .i64 y6,.int .i64 y7,.int .i64 y8,.slice yp0 yl0 yq0,.slice yp1 yl1 yq1,.slice yp2 yl2 yq2,.int .i64 y9,.int .i64 y10,.bool yb] 149∧EncO w' w2.heap.size (cutW d2) [.int .i64 y0,.int .i64 y1,.int .i64 y2,.int .i64 y3,.int .i64 y4,.int .i64 y5,.int .i64 y6,.int .i64 y7,.int .i64 y8,.slice yp0 yl0 yq0,.slice yp1 yl1 yq1,.slice yp2 yl2 yq2,.int .i64 y9,.int .i64 y10,.bool yb] K'∧(∀ b,b∈K'→b∈K∨W3.heap.size≤b)∧ChgL (w2.heap.size::(C++K)) W3 w') (fun e w' ⟨he,K',⟨cs',hX',hO'⟩,hs',hC'⟩=>by
   obtain ⟨y0,y1,y2,y3,y4,y5,y6,y7,y8,yp0,yl0,yq0,yp1,yl1,yq1,yp2,yl2,yq2,y9,y10,yb,rfl⟩:=zbQ hO'.own
   exact ⟨he,y0,y1,y2,y3,y4,y5,y6,y7,y8,yp0,yl0,yq0,yp1,yl1,yq1,yp2,yl2,yq2,y9,y10,yb,K',hX',hO',hs',hC'⟩)
  clear CF0
  go_wp2_with (go_at_call 83;refine CF.mono ?_;rintro e w5 ⟨rfl,y0,y1,y2,y3,y4,y5,y6,y7,y8,yp0,yl0,yq0,yp1,yl1,yq1,yp2,yl2,yq2,y9,y10,yb,K5,X5,O5,s5,C5⟩)
  have nin:∀ x,x<w2.heap.size→x∉C→x∉K→x∉w2.heap.size::(C++K):=fun x h1 h0 h2 hm=>by
   rcases List.mem_cons.1 hm with h | h
   ·omega
   ·exact (List.mem_append.1 h).elim h0 h2
  have hR5:=T3.b2.chgl C5 (nin _ z2 (fun hm=>by have:=(hCC _ hm).1;omega) hRn)
  have P5:=TB.b2.chgl C5 (fun hm=>by
   rcases List.mem_cons.1 hm with h | h
   ·omega
   ·rcases List.mem_append.1 h with h | h
    ·have:=(hCC _ h).1;omega
    ·have:=hkz _ h;omega)
  have CB5:=CB3.chgl C5 (nin _ (by omega) (fun hm=>(hCC _ hm).2 rfl) (fun hm=>by have:=hkz _ hm;omega));refine leaves_cons (f:=130) (args:=#[.pointer (some ⟨w.heap.size+1,0,none⟩),.pointer (some ⟨w2.heap.size+1,0,none⟩)]) (by simp) (by simp [go_sem]) ?_;refine (zkv _ _ (w.heap.size+1) (w2.heap.size+1) w2.heap.size 0 1 0 _ _ _ _ _ _ _ _ _ _ _ _ _ _ _ _ _ _ _ _ _ _ hR5 (P5.cell 0) X5 (by omega) (by omega)).mono ?_;rintro e u' w7 ⟨rfl,rfl,R7,C7⟩
  simp only [settle,Leaves,List.dropWhile]
  have z5:=C5.size;have z7:=C7.size;have h5:=fun b hb=>zad.own_lt O5.own b hb
  have hK5:∀ b,b∈K5→w.heap.size≤b∧b≠w.heap.size+1:=fun b hb=>by
   rcases s5 b hb with h | h
   ·exact ⟨(hkz b h).1,fun e=>hRn (e ▸ h)⟩
   ·omega
  have C5w:ChgL (cb::C) w w5:=⟨C5.os.trans T3.bel.os,C5.tape.trans T3.bel.tape,C5.output.trans T3.bel.output,Nat.le_trans T3.bel.size z5,fun b hb hm=>by
   refine (C5.block b (Nat.lt_of_lt_of_le hb T3.bel.size) (nin b (by omega) (fun h=>hm (by simp [h])) (fun h=>by have:=hkz b h;omega))).trans (T3.bel.block b hb)⟩
  have CB7:=CB5.chgl C7 (by simp;omega);have C7w:ChgL (cb::C) w w7:=⟨C7.os.trans C5w.os,C7.tape.trans C5w.tape,C7.output.trans C5w.output,Nat.le_trans C5w.size C7.size,fun b hb hm=>(C7.block b (Nat.lt_of_lt_of_le hb C5w.size) (by simp;omega)).trans (C5w.block b hb hm)⟩;have O7:OwnT zad w7 w.heap.size w7.heap.size (cutW d2) [.int .i64 y0,.int .i64 y1,.int .i64 y2,.int .i64 y3,.int .i64 y4,.int .i64 y5,.int .i64 y6,.int .i64 y7,.int .i64 y8,.slice yp0 yl0 yq0,.slice yp1 yl1 yq1,.slice yp2 yl2 yq2,.int .i64 y9,.int .i64 y10,.bool yb]:=⟨K5,Lay.own_chgL _ O5.own C7 (fun b hb hm=>by simp at hm;exact (hK5 b hb).2 hm),O5.nd,fun b hb=>⟨(hK5 b hb).1,by have:=h5 b hb;omega⟩⟩;refine ⟨_,results_cell_row Tryz.results82 _ w7 (w.heap.size+1) 46 #[.int .i64 9,.int .i64 y0,.int .i64 y1,.int .i64 y2,.int .i64 y3,.int .i64 y4,.int .i64 y5,.int .i64 y6,.int .i64 y7,.int .i64 y8,.slice yp0 yl0 yq0,.slice yp1 yl1 yq1,.slice yp2 yl2 yq2,.int .i64 y9,.int .i64 y10,.bool yb] (0,0) (.struct _) rfl R7 Tryz.underlying46 rfl (by rw [zaU];rfl),?_⟩;exact ⟨[.int .i64 9,.int .i64 y0,.int .i64 y1,.int .i64 y2,.int .i64 y3,.int .i64 y4,.int .i64 y5,.int .i64 y6,.int .i64 y7,.int .i64 y8,.slice yp0 yl0 yq0,.slice yp1 yl1 yq1,.slice yp2 yl2 yq2,.int .i64 y9,.int .i64 y10,.bool yb],rfl,zcM 9 (by decide) O7,CB7,C7w⟩
 | done c d2=>
  have CF:=CF0.mono (R':=fun e w'=>e=.returned (.tuple #[])∧∃ y0 y1 y2 y3 y4 y5 y6 y7 y8 yp0 yl0 yq0 yp1 yl1 yq1 yp2 yl2 yq2 y9 y10 yb K',Box w' w2.heap.size #[.int .i32 0,.int .u32 0,.int .u32 0,.int .i32 0,.int .u32 0,.int .i64 y0,.int .i64 y1,.int .i64 y2,.int .i64 y3,.int .i64 y4,.int .i64 y5,.int .i64 y6,.int .i64 y7,.int .i64 y8,.slice yp0 yl0 yq0,.slice yp1 yl1 yq1,.slice yp2 yl2 yq2,.int .i64 y9,.int .i64 y10,.bool yb] 149∧EncO w' w2.heap.size d2 [.int .i64 y0,.int .i64 y1,.int .i64 y2,.int .i64 y3,.int .i64 y4,.int .i64 y5,.int .i64 y6,.int .i64 y7,.int .i64 y8,.slice yp0 yl0 yq0,.slice yp1 yl1 yq1,.slice yp2 yl2 yq2,.int .i64 y9,.int .i64 y10,.bool yb] K'∧(∀ b,b∈K'→b∈K∨W3.heap.size≤b)∧Box w' cb #[.int .i64 c] 2∧ChgL (w2.heap.size::cb::(C++K)) W3 w') (fun e w' ⟨he,K',⟨cs',hX',hO'⟩,hs',hb',hC'⟩=>by
   obtain ⟨y0,y1,y2,y3,y4,y5,y6,y7,y8,yp0,yl0,yq0,yp1,yl1,yq1,yp2,yl2,yq2,y9,y10,yb,rfl⟩:=zbQ hO'.own
   exact ⟨he,y0,y1,y2,y3,y4,y5,y6,y7,y8,yp0,yl0,yq0,yp1,yl1,yq1,yp2,yl2,yq2,y9,y10,yb,K',hX',hO',hs',hb',hC'⟩)
  have nin:∀ x,x≠w2.heap.size→x≠cb→x∉C→x∉K→x∉w2.heap.size::cb::(C++K):=fun x h1 h2 h0 h3 hm=>by
   rcases List.mem_cons.1 hm with h | h
   ·exact h1 h
   ·rcases List.mem_cons.1 h with h | h
    ·exact h2 h
    ·exact (List.mem_append.1 h).elim h0 h3
  have hRK:=nin (w.heap.size+1) (by omega) (by omega) (fun hm=>by have:=(hCC _ hm).1;omega) hRn;clear CF0
  go_wp2_with (first | (go_at_call 83;refine CF.mono ?_;rintro e w5 ⟨rfl,y0,y1,y2,y3,y4,y5,y6,y7,y8,yp0,yl0,yq0,yp1,yl1,yq1,yp2,yl2,yq2,y9,y10,yb,K5,X5,O5,s5,CB5,C5⟩;have hR5:=T3.b2.chgl C5 hRK) | (refine zai 46 (.tmp 4) rfl rfl (w.heap.size+1) rfl (hR5) Tryz.underlying46 zaU rfl ?_) | (refine zaF 46 _ _ rfl rfl (w.heap.size+1) rfl (cs:=[.int .i64 0,.int .i64 0,.int .i64 0,.int .i64 0,.int .i64 0,.int .i64 0,.int .i64 0,.int .i64 0,.int .i64 0,.int .i64 0,.slice none 0 0,.slice none 0 0,.slice none 0 0,.int .i64 0,.int .i64 0,.bool false]) rfl hR5 zaU rfl rfl (zdF 0 (by decide) w) ?_;intro w6 R6 C6 z6))
  have z5:=C5.size;have P5:=TB.b2.chgl C5 (nin _ (by omega) (by omega) (fun hm=>by have:=(hCC _ hm).1;omega) (fun hm=>by have:=hkz _ hm;omega));have P6:=P5.chgl C6 (by simp;omega);have X6:=X5.chgl C6 (by simp;omega);refine leaves_cons (f:=130) (args:=#[.pointer (some ⟨w.heap.size+1,0,none⟩),.pointer (some ⟨w2.heap.size+1,0,none⟩)]) (by simp) (by simp [go_sem]) ?_;refine (zlF (w.heap.size+1) (w2.heap.size+1) w2.heap.size 0 0 0 _ _ _ _ _ _ _ _ _ _ _ _ _ _ _ _ _ _ _ _ _ _ R6 (P6.cell 0) X6 (by omega) (by omega)).mono ?_;rintro e u' w7 ⟨rfl,rfl,R7,C7⟩
  simp only [settle,Leaves]
  have z7:=C7.size;have h5:=fun b hb=>zad.own_lt O5.own b hb
  have hK5:∀ b,b∈K5→w.heap.size≤b∧b≠w.heap.size+1:=fun b hb=>by
   rcases s5 b hb with h | h
   ·exact ⟨(hkz b h).1,fun e=>hRn (e ▸ h)⟩
   ·omega
  have C5w:ChgL (cb::C) w w5:=⟨C5.os.trans T3.bel.os,C5.tape.trans T3.bel.tape,C5.output.trans T3.bel.output,Nat.le_trans T3.bel.size z5,fun b hb hm=>by
   refine (C5.block b (Nat.lt_of_lt_of_le hb T3.bel.size) (nin b (by omega) (fun h=>hm (by simp [h])) (fun h=>hm (by simp [h])) (fun h=>by have:=hkz b h;omega))).trans (T3.bel.block b hb)⟩
  have C67:ChgL [w.heap.size+1] w5 w7:=C6.trans C7;have C7w:ChgL (cb::C) w w7:=⟨C67.os.trans C5w.os,C67.tape.trans C5w.tape,C67.output.trans C5w.output,Nat.le_trans C5w.size C67.size,fun b hb hm=>(C67.block b (Nat.lt_of_lt_of_le hb C5w.size) (by simp;omega)).trans (C5w.block b hb hm)⟩;have CB7:=CB5.chgl C67 (by simp;omega);have O7:OwnT zad w7 w.heap.size w7.heap.size d2 [.int .i64 y0,.int .i64 y1,.int .i64 y2,.int .i64 y3,.int .i64 y4,.int .i64 y5,.int .i64 y6,.int .i64 y7,.int .i64 y8,.slice yp0 yl0 yq0,.slice yp1 yl1 yq1,.slice yp2 yl2 yq2,.int .i64 y9,.int .i64 y10,.bool yb]:=⟨K5,Lay.own_chgL _ O5.own C67 (fun b hb hm=>by simp at hm;exact (hK5 b hb).2 hm),O5.nd,fun b hb=>⟨(hK5 b hb).1,by have:=h5 b hb;have:=C67.size;omega⟩⟩;refine ⟨_,results_cell_row Tryz.results82 _ w7 (w.heap.size+1) 46 #[.int .i64 0,.int .i64 y0,.int .i64 y1,.int .i64 y2,.int .i64 y3,.int .i64 y4,.int .i64 y5,.int .i64 y6,.int .i64 y7,.int .i64 y8,.slice yp0 yl0 yq0,.slice yp1 yl1 yq1,.slice yp2 yl2 yq2,.int .i64 y9,.int .i64 y10,.bool yb] (0,0) (.struct _) rfl R7 Tryz.underlying46 rfl (by rw [zaU];rfl),?_⟩;exact ⟨[.int .i64 0,.int .i64 y0,.int .i64 y1,.int .i64 y2,.int .i64 y3,.int .i64 y4,.int .i64 y5,.int .i64 y6,.int .i64 y7,.int .i64 y8,.slice yp0 yl0 yq0,.slice yp1 yl1 yq1,.slice yp2 yl2 yq2,.int .i64 y9,.int .i64 y10,.bool yb],rfl,zcM 0 (by decide) O7,CB7,C7w⟩
set_option maxRecDepth 100000 in
theorem zg7 (C:List Nat) (d:WorldD) (cs:List Value) (hi:Nat) (F:Nat) (caps:Array Value) (f:WorldD→Outc) (fit:WorldD→Prop) (b off cap:Nat) (w:World) (h:zad.rd w hi d cs) (hhi:hi≤w.heap.size) (hsz:zaS d≤1048576)
 (hT:TaskX F caps f fit w.heap.size C w) (hCC:∀ x,x∈C→x<w.heap.size) (hc:w.cell? ⟨b,off,none⟩=some (.func (.func F) #[] caps)) (hb:b<w.heap.size) (hf:fit d) (hco:-9223372036854775808≤(f d).code∧(f d).code≤9223372036854775807) :
 Calls Tryz.prog 50 #[.agg cs.toArray,.slice (some ⟨b,off,none⟩) 1 cap] w fun e w'=>∃ cs',e=.returned (.agg cs'.toArray)∧OwnT zaA w' w.heap.size w'.heap.size (f d).final cs'∧ChgL C w w':=by
 obtain ⟨v0,v1,v2,v3,v4,v5,v6,v7,v8,vp0,vl0,vq0,vp1,vl1,vq1,vp2,vl2,vq2,v9,v10,vb,rfl⟩:=zgV h;have hmf:∀ (fn:Fn) (first cap:Array Value) (w:World),(Instr.makeFunc fn first cap).run Tryz.prog w=.ok (.func fn first cap) w:=fun _ _ _ _=>rfl;have T0:=zcc w (rwV v0 v1 v2 v3 v4 v5 v6 v7 v8 vp0 vl0 vq0 vp1 vl1 vq1 vp2 vl2 vq2 v9 v10 vb).toArray #[.slice (some ⟨b,off,none⟩) 1 cap] rwZ.toArray 38 130 46;have HRD:=hid h;clear h;obtain ⟨oc,hoc⟩:∃ x,x=f d:=⟨_,rfl⟩;rw [← hoc] at hco ⊢
 go_enter Tryz.func50,Tryz.ntmps50
 go_upto_region 1 with fail
 obtain ⟨W1,hW1⟩:∃ x,x=(((w.alloc (.cells (rwV v0 v1 v2 v3 v4 v5 v6 v7 v8 vp0 vl0 vq0 vp1 vl1 vq1 vp2 vl2 vq2 v9 v10 vb).toArray 38)).alloc (.cells #[.slice (some ⟨b,off,none⟩) 1 cap] 130)).alloc (.cells rwZ.toArray 46)):=⟨_,rfl⟩;rw [← hW1] at T0 ⊢
 have z1:W1.heap.size=w.heap.size+1+1+1:=by rw [hW1];simp
 clear hW1;have XC:=zaq W1 #[.int .i64 0] 2;have bC:=bAl W1 (.cells #[.int .i64 0] 2);have T1:=T0.call bC
 go_upto_region 2 with fail
 obtain ⟨W2,hW2⟩:∃ x,x=W1.alloc (.cells #[.int .i64 0] 2):=⟨_,rfl⟩;rw [← hW2] at XC bC T1 ⊢
 have z2:W2.heap.size=w.heap.size+1+1+1+1:=by rw [hW2];simp [z1]
 clear hW2 T0 bC;rw [z1] at XC;have bW:Below w.heap.size w W2:=T1.bel
 have CP:=zid C d (rwV v0 v1 v2 v3 v4 v5 v6 v7 v8 vp0 vl0 vq0 vp1 vl1 vq1 vp2 vl2 vq2 v9 v10 vb) hi (w.heap.size+1) (w.heap.size+1+1+1) W2 (zad.rd_below HRD.out bW hhi) (by omega) hsz (f d) XC (fun x hx=>by have:=hCC x hx;omega) (fun W3 E K hB hE hK hX=>by
  have b3:Below w.heap.size w W3:=bW.trans (hB.mono (by omega))
  exact zfY F caps f fit w.heap.size b off cap (w.heap.size+1) (w.heap.size+1+1+1) C W3 E d K (hT.later b3 (Nat.le_refl _)) ((b3.cell (p:=⟨b,off,none⟩) hb).trans hc) (by have:=b3.size;omega) (by omega) (fun x hx=>by have:=hK x hx;omega) hX hf
   ((hB.cell (p:=⟨w.heap.size+1,0,none⟩) (by show w.heap.size+1<_;omega)).trans (T1.b2.cell 0)) (XC.below hB (by omega)) ⟨by omega,fun hm=>by rcases List.mem_append.1 hm with h | h;(have:=hCC _ h;omega);(have:=hK _ h;omega)⟩)
 rw [← hoc] at CP;have HCO:=hid hco;clear hT hc hf hoc hco
 have CQ:=CP.mono (R':=fun e w'=>∃ r0 y0 y1 y2 y3 y4 y5 y6 y7 y8 yp0 yl0 yq0 yp1 yl1 yq1 yp2 yl2 yq2 y9 y10 yb,e=.returned (.agg (.int .i64 r0::rwV y0 y1 y2 y3 y4 y5 y6 y7 y8 yp0 yl0 yq0 yp1 yl1 yq1 yp2 yl2 yq2 y9 y10 yb).toArray)∧OwnT zaA w' W2.heap.size w'.heap.size oc.told (.int .i64 r0::rwV y0 y1 y2 y3 y4 y5 y6 y7 y8 yp0 yl0 yq0 yp1 yl1 yq1 yp2 yl2 yq2 y9 y10 yb)∧Box w' (w.heap.size+1+1+1) #[.int .i64 oc.code] 2∧ChgL ((w.heap.size+1+1+1)::C) W2 w') (fun e w' ⟨cs',he,ho,hb',hc'⟩=>by
  obtain ⟨r0,y0,y1,y2,y3,y4,y5,y6,y7,y8,yp0,yl0,yq0,yp1,yl1,yq1,yp2,yl2,yq2,y9,y10,yb,rfl⟩:=zm8 ho
  exact ⟨r0,y0,y1,y2,y3,y4,y5,y6,y7,y8,yp0,yl0,yq0,yp1,yl1,yq1,yp2,yl2,yq2,y9,y10,yb,he,ho,hb',hc'⟩)
 clear CP;obtain ⟨c,hcc⟩:∃ x,x=oc.code:=⟨_,rfl⟩;have HCC:=hid hcc;rw [← hcc] at CQ;clear hcc
 by_cases hc0:c=0
 ·subst hc0
  have HT1:=hid T1
  go_wp2_with (first | (refine zai 38 (.tmp 2) rfl rfl (w.heap.size) rfl (T1.b1) Tryz.underlying38 zbk rfl ?_) | (go_at_call 82;refine CQ.mono ?_;rintro e w5 ⟨r0,y0,y1,y2,y3,y4,y5,y6,y7,y8,yp0,yl0,yq0,yp1,yl1,yq1,yp2,yl2,yq2,y9,y10,yb,rfl,O5,CB5,C5⟩;have R5:=HT1.out.b3.chgl C5 (by simp;exact fun hm=>by have:=hCC _ hm;omega)) | (refine zaN 46 6 (.tmp 9) _ _ 16 rfl rfl rfl rfl rfl rfl rfl rfl zjC rfl rfl O5.one ?_;have bN:=bAl w5 (.cells (.int .i64 r0::rwV y0 y1 y2 y3 y4 y5 y6 y7 y8 yp0 yl0 yq0 yp1 yl1 yq1 yp2 yl2 yq2 y9 y10 yb).toArray 46);have XN:=zaq w5 (.int .i64 r0::rwV y0 y1 y2 y3 y4 y5 y6 y7 y8 yp0 yl0 yq0 yp1 yl1 yq1 yp2 yl2 yq2 y9 y10 yb).toArray 46;have cx:=(CB5.below bN CB5.lt).cell 0;have R6:=R5.below bN R5.lt) | (refine zai 46 (.tmp 6) rfl rfl (w5.heap.size) rfl (XN) Tryz.underlying46 zaU rfl ?_) | (refine zaF 46 _ _ rfl rfl (w.heap.size+1+1) rfl (cs:=(.int .i64 r0::rwV y0 y1 y2 y3 y4 y5 y6 y7 y8 yp0 yl0 yq0 yp1 yl1 yq1 yp2 yl2 yq2 y9 y10 yb)) rfl R6 zaU rfl rfl O5.one ?_;intro w9 X9 C9 z9))
  refine zbl Tryz.results50 rfl X9 Tryz.underlying46 zaU rfl rfl ?_;have z5:=C5.size;have zz:=C9.size
  have e:oc.final=oc.told:=by
   cases oc with
   | cut d2=>rfl
   | done c2 d2=>show (if c2=0 then _ else _)=_;rw [if_pos (show c2=0 from HCC.out.symm)];rfl
  rw [e];have B5:ChgL C w w5:=⟨C5.os.trans bW.os,C5.tape.trans bW.tape,C5.output.trans bW.output,Nat.le_trans bW.size C5.size,fun b hb hm=>(C5.block b (Nat.lt_of_lt_of_le hb bW.size) (by simp;exact ⟨by omega,hm⟩)).trans (bW.block b hb)⟩;have BN:ChgL C w (w5.alloc (.cells (.int .i64 r0::rwV y0 y1 y2 y3 y4 y5 y6 y7 y8 yp0 yl0 yq0 yp1 yl1 yq1 yp2 yl2 yq2 y9 y10 yb).toArray 46)):=⟨bN.os.trans B5.os,bN.tape.trans B5.tape,bN.output.trans B5.output,Nat.le_trans B5.size bN.size,fun b hb hm=>(bN.block b (Nat.lt_of_lt_of_le hb B5.size)).trans (B5.block b hb hm)⟩
  have sN:(w5.alloc (.cells (.int .i64 r0::rwV y0 y1 y2 y3 y4 y5 y6 y7 y8 yp0 yl0 yq0 yp1 yl1 yq1 yp2 yl2 yq2 y9 y10 yb).toArray 46)).heap.size=w5.heap.size+1:=by simp
  refine ⟨_,rfl,?_,⟨C9.os.trans BN.os,C9.tape.trans BN.tape,C9.output.trans BN.output,Nat.le_trans BN.size C9.size,fun b hb hm=>(C9.block b (Nat.lt_of_lt_of_le hb BN.size) (by simp;omega)).trans (BN.block b hb hm)⟩⟩;exact (((O5.below bN (Nat.le_refl _)).chgk C9 (fun x hx=>by simp at hx;omega)).weaken (by omega) (by omega))
 ·have hne:(c != 0)=true:=by simpa using hc0
  have HNE:=hid hc0;clear hc0;have HT1:=hid T1
  go_wp2_with (first | (refine zai 38 (.tmp 2) rfl rfl (w.heap.size) rfl (T1.b1) Tryz.underlying38 zbk rfl ?_) | (go_at_call 82;refine CQ.mono ?_;rintro e w5 ⟨r0,y0,y1,y2,y3,y4,y5,y6,y7,y8,yp0,yl0,yq0,yp1,yl1,yq1,yp2,yl2,yq2,y9,y10,yb,rfl,O5,CB5,C5⟩;have R5:=HT1.out.b3.chgl C5 (by simp;exact fun hm=>by have:=hCC _ hm;omega)) | (refine zaN 46 6 (.tmp 9) _ _ 16 rfl rfl rfl rfl rfl rfl rfl rfl zjC rfl rfl O5.one ?_;have bN:=bAl w5 (.cells (.int .i64 r0::rwV y0 y1 y2 y3 y4 y5 y6 y7 y8 yp0 yl0 yq0 yp1 yl1 yq1 yp2 yl2 yq2 y9 y10 yb).toArray 46);have cx:=(CB5.below bN CB5.lt).cell 0;have R6:=R5.below bN R5.lt) | (refine zaF 46 _ _ rfl rfl (w.heap.size+1+1) rfl (cs:=(.int .i64 c::rwY)) rfl R6 zaU rfl rfl (zdF c (by rw [HCC.out];exact HCO.out) w) ?_;intro w9 X9 C9 z9))
  refine zbl Tryz.results50 rfl X9 Tryz.underlying46 zaU rfl rfl ?_;have z5:=C5.size;have zz:=C9.size
  have e:oc.final=⟨c,zgA⟩:=by
   cases oc with
   | cut d2=>exact absurd HCC.out HNE.out
   | done c2 d2=>
    have e2:c=c2:=HCC.out
    show (if c2=0 then _ else _)=_
    rw [← e2,if_neg HNE.out]
  rw [e];have B5:ChgL C w w5:=⟨C5.os.trans bW.os,C5.tape.trans bW.tape,C5.output.trans bW.output,Nat.le_trans bW.size C5.size,fun b hb hm=>(C5.block b (Nat.lt_of_lt_of_le hb bW.size) (by simp;exact ⟨by omega,hm⟩)).trans (bW.block b hb)⟩;have BN:ChgL C w (w5.alloc (.cells (.int .i64 r0::rwV y0 y1 y2 y3 y4 y5 y6 y7 y8 yp0 yl0 yq0 yp1 yl1 yq1 yp2 yl2 yq2 y9 y10 yb).toArray 46)):=⟨bN.os.trans B5.os,bN.tape.trans B5.tape,bN.output.trans B5.output,Nat.le_trans B5.size bN.size,fun b hb hm=>(bN.block b (Nat.lt_of_lt_of_le hb B5.size)).trans (B5.block b hb hm)⟩
  have sN:(w5.alloc (.cells (.int .i64 r0::rwV y0 y1 y2 y3 y4 y5 y6 y7 y8 yp0 yl0 yq0 yp1 yl1 yq1 yp2 yl2 yq2 y9 y10 yb).toArray 46)).heap.size=w5.heap.size+1:=by simp
  refine ⟨_,rfl,?_,⟨C9.os.trans BN.os,C9.tape.trans BN.tape,C9.output.trans BN.output,Nat.le_trans BN.size C9.size,fun b hb hm=>(C9.block b (Nat.lt_of_lt_of_le hb BN.size) (by simp;omega)).trans (BN.block b hb hm)⟩⟩;exact zdM w9 c (by rw [HCC.out];exact HCO.out) _ _
theorem zmx:(Tryz.prog.info? 69).map (fun i=>(i.zero.map (·.cells),i.size))=some (some #[.int .i64 0,.slice none 0 0],2):=by kernel_rfl
theorem zg8 (c0 c1 c2 c3 c4 c5 c6 c7 c8:Value) (w:World):Calls Tryz.prog 51 #[.agg #[c0,c1,c2,c3,c4,c5,c6,c7,c8]] w fun e w'=>e=.returned (.func (.func 85) #[] #[.pointer (some ⟨w.heap.size,0,none⟩)])∧Box w' w.heap.size #[c0,c1,c2,c3,c4,c5,c6,c7,c8] 72∧Below w.heap.size w w':=by
 have hmf:∀ (fn:Fn) (first cap:Array Value) (w:World),(Instr.makeFunc fn first cap).run Tryz.prog w=.ok (.func fn first cap) w:=fun _ _ _ _=>rfl;have T0:=zaI w #[c0,c1,c2,c3,c4,c5,c6,c7,c8] 72
 go_enter Tryz.func51,Tryz.ntmps51
 go_wp2;go_ret;exact ⟨rfl,T0.b1,T0.bel⟩
set_option maxRecDepth 20000 in
theorem zie (d:WorldD) (nm:ByteArray) (cs:List Value) (hi:Nat) (w:World) (h:zad.rd w hi d cs) (hhi:hi≤w.heap.size) (hsz:zaS d≤1048576) (hnm:nm.size≤1048576) :
 Calls Tryz.prog 16 #[.agg cs.toArray,.string nm] w (zfa (DrpAns d nm) w):=by
 have h':=h;obtain ⟨ao1,cap1,ao2,cap2,ao3,cap3,rfl,g1,g2,g3,k0,k4,k5⟩:=zaM h';have HRD:=hid h;have HSZ:=hid hsz;have HNM:=hid hnm;clear h h' hsz g1 g2 g3 k0 k4 k5;have T0:=zax w (rwW d ao1 cap1 ao2 cap2 ao3 cap3).toArray rwZ.toArray 38 46
 go_enter Tryz.func16,Tryz.ntmps16
 go_wp2_with (refine zai 38 (.tmp 2) rfl rfl (w.heap.size) rfl (T0.b1) Tryz.underlying38 zbk rfl ?_)
 refine (zfC d nm _ hi _ (zad.rd_below HRD.out T0.bel hhi) (Nat.le_trans hhi T0.bel.size) HSZ.out hnm).mono ?_;clear hnm;rintro e w1 ⟨q,cs1,rfl,hq,o1,b1⟩;obtain ⟨ar,cr,rfl,-⟩:=zd9 o1.rd;have HT1:=hid (T0.call b1);have HQ:=hid hq;have HO1:=o1.one;have z1:w.heap.size+1<w1.heap.size:=HT1.out.b2.lt;clear b1 T0 hq o1
 go_upto_region 2 with (refine zaN 69 5 (.tmp 8) _ _ 2 rfl rfl rfl rfl rfl rfl rfl rfl zmx rfl rfl HO1 ?_)
 have bA:=bAl w1 (.cells #[.int .i64 q.code,.slice ar q.recs.1 cr] 69);have bx:=zaq w1 #[.int .i64 q.code,.slice ar q.recs.1 cr] 69;obtain ⟨w2,hw2⟩:∃ y,y=w1.alloc (.cells #[.int .i64 q.code,.slice ar q.recs.1 cr] 69):=⟨_,rfl⟩;rw [← hw2] at bA bx ⊢;have HT2:=hid (HT1.out.call bA);have z2:w1.heap.size<w2.heap.size:=bx.lt;have n_0:w2.cell? ⟨w1.heap.size,0,none⟩=some (.int .i64 q.code):=bx.cell 0;obtain ⟨x,hx⟩:∃ x,x=q.code:=⟨_,rfl⟩;have HX:=hid hx;rw [← hx] at n_0;clear bA bx hw2 HT1 HO1 hx
 by_cases hx0:x=0
 case neg=>
  have hne:(x != 0)=true:=by simp [hx0]
  have HW:Hid (-9223372036854775808≤x∧x≤9223372036854775807):=by
   show _∧_
   rw [HX.out];exact zlV HQ.out
  have H0:=hid hx0;clear hx0
  go_wp2_with (refine zaF 46 _ _ rfl rfl (w.heap.size+1) rfl (cs:=(.int .i64 x::rwY)) rfl (HT2.out.b2) zaU rfl rfl (zdF _ (HW.out) w) ?_;intro w9 X9 C9 z9)
  refine zbl Tryz.results16 rfl X9 Tryz.underlying46 zaU rfl rfl ?_;exact zfw (HW.out) HT2.out.bel C9 (⟨q,HQ.out,.inl ⟨by rw [← HX.out];exact H0.out,by rw [← HX.out]⟩⟩)
 subst hx0
 have HNF:NfC d nm 0:=by
  rcases HQ.out with ⟨y,h1,_,h3⟩ | ⟨h,_⟩
  ·have:=HX.out
   rw [h3] at this;exact absurd this.symm h1
  ·exact h
 have HOK:Hid (OkWorld d):=(zfA (zgY HNF).1).ok;have HUP:Hid (d.down=false):=zmK (zgY HNF).1;clear HNF;have CK:=zg8 (.int .i64 1) (.int .i64 0) (.string nm) (.int .i64 (-1)) (.int .i64 0) (.int .i64 0) (.slice none 0 0) (.slice none 0 0) (.slice none 0 0) w2.drew;have B0:Below w2.heap.size w2 w2.drew:=zev _;have KS:∀ w',Below w2.heap.size w2 w'→(Box w' w.heap.size (rwW d ao1 cap1 ao2 cap2 ao3 cap3).toArray 38):=fun w' hb=>HT2.out.b1.call hb
 go_upto_region 4 with fail
 refine zbz 6 (fun w'=>Box w' w.heap.size (rwW d ao1 cap1 ao2 cap2 ao3 cap3).toArray 38) (by kernel_rfl) (KS _ B0) (fun hHeld=>?_);refine zac (i:=0) (oi:=_) 16 rfl (by kernel_rfl) (fun _ _ _ h=>h) (zcO 38 (.tmp 2) rfl rfl (w.heap.size) rfl (cs:=(rwW d ao1 cap1 ao2 cap2 ao3 cap3)) (fun w' h=>h) Tryz.underlying38 zbk rfl) (by assumption) ?_
 try simp only [Act.put,SL]
 refine znp 1 (v:=?_) rfl ?_ ?_
 rotate_left
 ·intro w' hSw;go_simp;try with_reducible rfl
 try simp only [Act.put,SL]
 refine znp 2 (v:=?_) rfl ?_ ?_
 rotate_left
 ·intro w' hSw;go_simp;try with_reducible rfl
 try simp only [Act.put,SL]
 refine zav (i:=3) (o:=_) rfl (by kernel_rfl) (fun KC hKC=>?_);refine za9 rfl 51 _ _ rfl #[.agg #[.int .i64 1,.int .i64 0,.string nm,.int .i64 (-1),.int .i64 0,.int .i64 0,.slice none 0 0,.slice none 0 0,.slice none 0 0]] ?_ Tryz.func51 (by kernel_rfl) (by kernel_rfl) CK ?_
 ·simp [Act.eval,Act.put]
 rintro ee w5 ⟨rfl,q1,b5'⟩;have b5:Below w2.heap.size w2 w5:=B0.trans b5';have q1:Box w5 w2.heap.size #[.int .i64 1,.int .i64 0,.string nm,.int .i64 (-1),.int .i64 0,.int .i64 0,.slice none 0 0,.slice none 0 0,.slice none 0 0] 72:=q1;refine ⟨_,rfl,?_⟩;refine hKC.out _ _ (KS _ b5) (fun hHeld=>?_);clear hKC KC CK b5'
 try simp only [Act.put,SL]
 refine zav (i:=4) (o:=_) rfl (by kernel_rfl) (fun KC hKC=>?_);have bN:Below w5.heap.size w5 (w5.alloc (.cells #[.func (.func 85) #[] #[.pointer (some ⟨w2.heap.size,0,none⟩)]] 89)):=(Below.refl _ _).alloc (Nat.le_refl _) _;have XN:Box (w5.alloc (.cells #[.func (.func 85) #[] #[.pointer (some ⟨w2.heap.size,0,none⟩)]] 89)) w5.heap.size #[.func (.func 85) #[] #[.pointer (some ⟨w2.heap.size,0,none⟩)]] 89:=zaq _ _ _;go_simp;refine hKC.out _ _ (KS _ (b5.trans (bN.mono b5.size))) (fun hHeld=>?_);clear hKC KC
 try simp only [Act.put,SL]
 obtain ⟨w6,hw6⟩:∃ x,x=(w5.alloc (.cells #[.func (.func 85) #[] #[.pointer (some ⟨w2.heap.size,0,none⟩)]] 89)):=⟨_,rfl⟩
 have b6:Below w2.heap.size w2 w6:=by rw [hw6];exact b5.trans (bN.mono b5.size)
 have z56:w5.heap.size<w6.heap.size:=by rw [hw6];exact XN.lt
 have T6:=HT2.out.call b6
 have b56:Below w5.heap.size w5 w6:=by rw [hw6];exact bN
 have xN:w6.cell? ⟨w5.heap.size,0,none⟩=some (.func (.func 85) #[] #[.pointer (some ⟨w2.heap.size,0,none⟩)]):=by rw [hw6];exact XN.cell 0
 have q1':=q1.below b56 q1.lt;have hza:w.heap.size+1<w2.heap.size:=HT2.out.b2.lt
 have CV:=zg7 [w2.heap.size] d (rwW d ao1 cap1 ao2 cap2 ao3 cap3) hi 85 #[.pointer (some ⟨w2.heap.size,0,none⟩)] (zbN (drpR nm)) FitX w5.heap.size 0 1 w6 (zad.rd_below HRD.out T6.bel hhi) (Nat.le_trans hhi T6.bel.size) HSZ.out
  (zh9 (drpR nm) none none none 0 0 0 0 (zlT HNM.out) w2.heap.size w6.heap.size w6 q1' (zmL nm HNM.out _ _ 0 (by decide)) q1'.lt (by omega)) (fun x hx=>by
   simp at hx
   subst hx
   exact q1'.lt) xN z56 (zlU HOK.out HUP.out) zkC
 have CW:=CV.mono (R':=fun e w'=>∃ sc s0 s1 s2 s3 s4 s5 s6 s7 s8 sp0 sl0 sq0 sp1 sl1 sq1 sp2 sl2 sq2 s9 s10 sb,e=.returned (.agg (.int .i64 sc::rwV s0 s1 s2 s3 s4 s5 s6 s7 s8 sp0 sl0 sq0 sp1 sl1 sq1 sp2 sl2 sq2 s9 s10 sb).toArray)∧OwnT zaA w' w6.heap.size w'.heap.size (zbN (drpR nm) d).final (.int .i64 sc::rwV s0 s1 s2 s3 s4 s5 s6 s7 s8 sp0 sl0 sq0 sp1 sl1 sq1 sp2 sl2 sq2 s9 s10 sb)∧ChgL [w2.heap.size] w6 w') (fun e w' ⟨cs',he,ho,hb⟩=>by
  obtain ⟨sc,s0,s1,s2,s3,s4,s5,s6,s7,s8,sp0,sl0,sq0,sp1,sl1,sq1,sp2,sl2,sq2,s9,s10,sb,rfl⟩:=zjz ho.rd
  exact ⟨sc,s0,s1,s2,s3,s4,s5,s6,s7,s8,sp0,sl0,sq0,sp1,sl1,sq1,sp2,sl2,sq2,s9,s10,sb,he,ho,hb⟩)
 clear CV;rw [← hw6];refine zav (i:=5) (o:=_) rfl (by kernel_rfl) (fun KC hKC=>?_);refine za9 rfl 50 _ _ rfl #[.agg (rwW d ao1 cap1 ao2 cap2 ao3 cap3).toArray,.slice (some ⟨w5.heap.size,0,none⟩) 1 1] ?_ Tryz.func50 (by kernel_rfl) (by kernel_rfl) CW ?_
 ·simp [Act.eval,Act.put]
 rintro ee w7 ⟨sc,s0,s1,s2,s3,s4,s5,s6,s7,s8,sp0,sl0,sq0,sp1,sl1,sq1,sp2,sl2,sq2,s9,s10,sb,rfl,o7,c7⟩;have T7:=T6.chgK c7 (fun b hb=>by simp at hb;omega);have z7:w6.heap.size≤w7.heap.size:=c7.size;refine ⟨_,rfl,?_⟩;refine hKC.out _ _ T7.b1 (fun hHeld=>?_);clear hKC KC
 try simp only [Act.put,SL]
 refine zh8 rfl (by kernel_rfl) (by kernel_rfl) rfl rfl 46 (.tmp 4) (.tmp 20) rfl (w.heap.size+1) rfl (cs:=(.int .i64 sc::rwV s0 s1 s2 s3 s4 s5 s6 s7 s8 sp0 sl0 sq0 sp1 sl1 sq1 sp2 sl2 sq2 s9 s10 sb)) (old:=rwZ) rfl T7.b2 zaU rfl rfl o7.one (fun w9 X9 C9 z9=>?_);have z6:=b6.size;go_wp2;refine zbl Tryz.results16 rfl X9 Tryz.underlying46 zaU rfl rfl ?_;exact ⟨_,(.int .i64 sc::rwV s0 s1 s2 s3 s4 s5 s6 s7 s8 sp0 sl0 sq0 sp1 sl1 sq1 sp2 sl2 sq2 s9 s10 sb),rfl,⟨q,HQ.out,.inr ⟨HX.out.symm,rfl⟩⟩,(o7.chgk C9 (fun b hb=>by simp at hb;omega)).weaken (by omega) C9.size,T7.bel.trans (C9.bel (fun b hb=>by simp at hb;omega) T7.bel.size)⟩
theorem znC (d:WorldD):∃ x,AskAns d x:=by
 obtain ⟨x,hx⟩:=zl5 d
 by_cases h:x=0
 ·subst h
  cases hd:d.down with
  | true=>exact ⟨9,.inr ⟨hx,.inl ⟨hd,rfl⟩⟩⟩
  | false=>exact ⟨0,.inr ⟨hx,.inr ⟨hd,rfl⟩⟩⟩
 ·exact ⟨x,.inl ⟨h,hx⟩⟩
end Go.Proofs.YtclclojenogpbaaGreat
