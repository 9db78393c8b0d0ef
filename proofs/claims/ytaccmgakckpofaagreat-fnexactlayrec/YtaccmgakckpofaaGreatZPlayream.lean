/- StrikeBoth of the specification. -/
import Derived.Test.YtaccmgakckpofaaGreatZPlayreal
set_option linter.unusedVariables false
set_option linter.unusedSimpArgs false
set_option maxHeartbeats 16000000
namespace Go.Proofs.YtaccmgakckpofaaGreat
open Go.RowKit F256
set_option maxRecDepth 20000 in
theorem zgc (v0 v1 v2 v3 v4 v5 v6 v7 v8 vp0 vl0 vq0 vp1 vl1 vq1 vp2 vl2 vq2 v9 v10 vb:_) (b:Bool) (w:World) (h1:∀ x,x∈([.int .i64 v0,.int .i64 v1,.int .i64 v2,.int .i64 v3,.int .i64 v4,.int .i64 v5,.int .i64 v6,.int .i64 v7,.int .i64 v8,.slice vp0 vl0 vq0,.slice vp1 vl1 vq1,.slice vp2 vl2 vq2,.int .i64 v9,.int .i64 v10,.bool vb]:List Value)→x.oneCell'=true) :
 Calls Tryz.prog 29 #[.agg #[.int .i64 v0,.int .i64 v1,.int .i64 v2,.int .i64 v3,.int .i64 v4,.int .i64 v5,.int .i64 v6,.int .i64 v7,.int .i64 v8,.slice vp0 vl0 vq0,.slice vp1 vl1 vq1,.slice vp2 vl2 vq2,.int .i64 v9,.int .i64 v10,.bool vb],.bool b] w fun e w'=>e=.returned (.agg #[.int .i64 (if b=true then 0 else 9),.int .i64 v0,.int .i64 v1,.int .i64 v2,.int .i64 v3,.int .i64 v4,.int .i64 v5,.int .i64 v6,.int .i64 v7,.int .i64 v8,.slice vp0 vl0 vq0,.slice vp1 vl1 vq1,.slice vp2 vl2 vq2,.int .i64 v9,.int .i64 v10,.bool vb])∧Below w.heap.size w w':=by
 have T0:=zaA w (rwV v0 v1 v2 v3 v4 v5 v6 v7 v8 vp0 vl0 vq0 vp1 vl1 vq1 vp2 vl2 vq2 v9 v10 vb).toArray rwZ.toArray 38 40
 have o0:∀ c:Int,∀ x,x∈((.int .i64 c::rwV v0 v1 v2 v3 v4 v5 v6 v7 v8 vp0 vl0 vq0 vp1 vl1 vq1 vp2 vl2 vq2 v9 v10 vb):List Value)→x.oneCell'=true:=fun c x hx=>by
  rcases List.mem_cons.1 hx with rfl | h
  ·rfl
  ·exact h1 x h
 clear h1
 cases b with
 | true=>
  go_enter Tryz.func29,Tryz.ntmps29
  go_wp2_with (first | (refine zam 38 (.tmp 2) rfl rfl (w.heap.size) rfl (T0.b1) Tryz.underlying38 zbo rfl ?_) | (refine zaR 40 _ _ rfl rfl (w.heap.size+1) rfl (cs:=(.int .i64 0::rwV v0 v1 v2 v3 v4 v5 v6 v7 v8 vp0 vl0 vq0 vp1 vl1 vq1 vp2 vl2 vq2 v9 v10 vb)) rfl T0.b2 zay rfl rfl (o0 0) ?_;intro w9 X9 C9 z9))
  refine zbI Tryz.results29 rfl X9 Tryz.underlying40 zay rfl rfl ?_;exact ⟨rfl,T0.bel.trans (C9.bel (fun b hb=>by simp at hb;omega) T0.bel.size)⟩
 | false=>
  go_enter Tryz.func29,Tryz.ntmps29
  go_wp2_with (first | (refine zam 38 (.tmp 2) rfl rfl (w.heap.size) rfl (T0.b1) Tryz.underlying38 zbo rfl ?_) | (refine zaR 40 _ _ rfl rfl (w.heap.size+1) rfl (cs:=(.int .i64 9::rwV v0 v1 v2 v3 v4 v5 v6 v7 v8 vp0 vl0 vq0 vp1 vl1 vq1 vp2 vl2 vq2 v9 v10 vb)) rfl T0.b2 zay rfl rfl (o0 9) ?_;intro w9 X9 C9 z9))
  refine zbI Tryz.results29 rfl X9 Tryz.underlying40 zay rfl rfl ?_;exact ⟨rfl,T0.bel.trans (C9.bel (fun b hb=>by simp at hb;omega) T0.bel.size)⟩
theorem SpP.after {o:Outc} {B:Nat} {w w1 w2:World} {K K1:List Nat} {e:Ending} (hk:∀ b,b∈K1→b∈K∨w.heap.size≤b) (hc:ChgL (B::K) w w1) (h:SpP o B w1 K1 e w2):SpP o B w K e w2:=by
 have hz:=hc.size
 cases o with
 | done c d=>
  obtain ⟨h1,K',h2,h3,h4⟩:=h
  exact ⟨h1,K',h2,fun b hb=>by
   rcases h3 b hb with h | h
   ·exact hk b h
   ·exact .inr (by omega),zcQ hc hk h4⟩
 | cut d=>
  obtain ⟨h1,K',h2,h3,h4⟩:=h
  exact ⟨h1,K',h2,fun b hb=>by
   rcases h3 b hb with h | h
   ·exact hk b h
   ·exact .inr (by omega),zcQ hc hk h4⟩
theorem SpB.below {w w':World} {B:Nat} {d:WorldD} {K:List Nat} (h:SpB w B d K) (hb:Below w.heap.size w w'):SpB w' B d K:=by
 obtain ⟨cs,h1,h2⟩:=h;exact ⟨cs,h1.below hb h1.lt,Lay.own_kept _ h2.own (fun b hk=>hb.block b (zad.own_lt h2.own b hk)),h2.nd,h2.ne⟩
theorem SpB.Klt {w:World} {B:Nat} {d:WorldD} {K:List Nat} (h:SpB w B d K):∀ b,b∈K→b<w.heap.size:=by
 obtain ⟨cs,_,h2⟩:=h;exact fun b hb=>zad.own_lt h2.own b hb
set_option maxRecDepth 20000 in
theorem zh4 (d:WorldD) (cs:List Value) (hi Bx:Nat) (w:World) (h:zad.rd w hi d cs) (hhi:hi≤w.heap.size) (hB:Box w Bx cs.toArray 38) (two:d.tapes.1=2) (few:∀ T,T<2→(d.tapes.2 T).recs.1≤1000000) :
 Calls Tryz.prog 26 #[.pointer (some ⟨Bx,0,none⟩),.int .i64 1] w fun e w'=>∃ t,e=.returned (.bool t)∧(t=true↔(200<((d.tapes.2 0).recs.1:Int)+1∨200<((d.tapes.2 1).recs.1:Int)+1))∧w'=w:=by
 obtain ⟨ao1,cap1,ao2,cap2,ao3,cap3,rfl,g1,g2,g3,k0,k4,k5⟩:=zaK h;obtain ⟨_,_,e3,hm3,hc3⟩:=g3
 cases e3
 obtain ⟨b3,off3,he3,hb3,hel3⟩:=hc3 (by omega);subst he3;obtain ⟨ct0,hrt0,hct0⟩:=hel3 0 (by omega);obtain ⟨ct1,hrt1,hct1⟩:=hel3 1 (by omega);obtain ⟨ap,cp,rfl,-⟩:=za5 hrt0;obtain ⟨aq,cq,rfl,-⟩:=za5 hrt1;have x11:w.cell? ⟨Bx,11,none⟩=some (.slice (some ⟨b3,off3,none⟩) d.tapes.1 cap3):=hB.cell 11
 have y0:w.cell? ⟨b3,off3+1,none⟩=some (.slice ap (d.tapes.2 0).recs.1 cp):=by have:=hct0 1 (by decide);rw [show off3+(0*zag.sz+1)=off3+1 by simp] at this;exact this
 have y1:w.cell? ⟨b3,off3+2+1,none⟩=some (.slice aq (d.tapes.2 1).recs.1 cq):=by have:=hct1 1 (by decide);rw [show off3+(1*zag.sz+1)=off3+2+1 by show off3+(1*2+1)=_;omega] at this;exact this
 have f0:=few 0 (by decide);have f1:=few 1 (by decide);obtain ⟨n0,hn0⟩:∃ n,n=(d.tapes.2 0).recs.1:=⟨_,rfl⟩;obtain ⟨n1,hn1⟩:∃ n,n=(d.tapes.2 1).recs.1:=⟨_,rfl⟩;rw [← hn0] at y0 f0 ⊢;rw [← hn1] at y1 f1 ⊢;obtain ⟨nt,hnt⟩:∃ n,n=d.tapes.1:=⟨_,rfl⟩;rw [← hnt] at x11 two
 have j0:(0:Int)<(nt:Int):=by omega
 have j1:(1:Int)<(nt:Int):=by omega
 have w0:IntKind.i64.wrap ((n0:Int)+1)=(n0:Int)+1:=by rw [IntKind.wrap_i64];omega
 have w1:IntKind.i64.wrap ((n1:Int)+1)=(n1:Int)+1:=by rw [IntKind.wrap_i64];omega
 clear hn0 hn1 hnt g1 g2 k0 k4 k5 h hB hct0 hct1 hrt0 hrt1 hel3 hc3 hm3 two few;obtain ⟨P,hP⟩:∃ P:Prop,P=(200<(n0:Int)+1∨200<(n1:Int)+1):=⟨_,rfl⟩;have HP:=hid hP;rw [← hP];clear hP
 by_cases c0:200<(n0:Int)+1
 ·have d0:decide (200<(n0:Int)+1)=true:=decide_eq_true c0
  have HQ:Hid P:=by rw [HP.out];exact .inl c0
  clear c0
  go_enter Tryz.func26,Tryz.ntmps26
  go_wp2;go_ret;exact ⟨true,by simp [d0],⟨fun _=>HQ.out,fun _=>rfl⟩,rfl⟩
 ·have d0:decide (200<(n0:Int)+1)=false:=decide_eq_false c0
  by_cases c1:200<(n1:Int)+1
  ·have d1:decide (200<(n1:Int)+1)=true:=decide_eq_true c1
   have HQ:Hid P:=by rw [HP.out];exact .inr c1
   clear c0 c1
   go_enter Tryz.func26,Tryz.ntmps26
   go_wp2;go_ret;exact ⟨true,by simp [d1],⟨fun _=>HQ.out,fun _=>rfl⟩,rfl⟩
  ·have d1:decide (200<(n1:Int)+1)=false:=decide_eq_false c1
   have HQ:Hid (¬ P):=by rw [HP.out];exact fun h=>h.elim c0 c1
   clear c0 c1
   go_enter Tryz.func26,Tryz.ntmps26
   go_wp2;go_ret;exact ⟨false,by simp [d1],⟨fun h=>(by cases h),fun h=>absurd h HQ.out⟩,rfl⟩
set_option maxRecDepth 20000 in
theorem zh5 (B:Nat) (d:WorldD) (K:List Nat) (r:RecD) (o6 o7 o8:Option Addr) (k6 k7 k8 hi:Nat) (w:World) (hX:SpB w B d K) (hf:Fit3 2 d) (hr:∀ w',ChgL (B::K) w w'→zac.rd w' hi r [.int .i64 r.kind,.int .i64 r.seq,.string r.name,.int .i64 r.length,.int .i64 r.group,.int .i64 r.row,.slice o6 r.rows.1 k6,.slice o7 r.data.1 k7,.slice o8 r.delta.1 k8]) (hhi:hi≤w.heap.size) (hsr:zaF r≤1048576) :
 Calls Tryz.prog 28 #[.pointer (some ⟨B,0,none⟩),.agg #[.int .i64 r.kind,.int .i64 r.seq,.string r.name,.int .i64 r.length,.int .i64 r.group,.int .i64 r.row,.slice o6 r.rows.1 k6,.slice o7 r.data.1 k7,.slice o8 r.delta.1 k8]] w (SpP (runO (zaz r) 2 0 d) B w K):=by
 have T0:=zaM w (rwR r o6 k6 o7 k7 o8 k8).toArray 43;obtain ⟨W0,hW0⟩:∃ x,x=w.alloc (.cells (rwR r o6 k6 o7 k7 o8 k8).toArray 43):=⟨_,rfl⟩
 have sA:W0.heap.size=w.heap.size+1:=by rw [hW0];simp
 have C1:=zdm B d K 0 (by decide) r o6 o7 o8 k6 k7 k8 hi W0 (by rw [hW0];exact hX.below T0.bel) (hf.less (by decide)) (fun w' hc=>hr w' ((ChgL.of_below (by rw [hW0];exact T0.bel)).trans (hc.mono (fun b hb=>by simp at hb;simp [hb])))) (by omega) hsr;have HX:=hid hX;have HF:=hid hf;have HRR:=hid hr;have hKl:=hX.Klt;have hBl:=hX.lt;clear hX hf hr
 go_enter Tryz.func28,Tryz.ntmps28
 go_upto_region 1 with fail
 rw [← hW0] at T0 ⊢;clear hW0;obtain ⟨o1,ho1⟩:∃ x,x=zaz r 0 d:=⟨_,rfl⟩;have HO1:=hid ho1;rw [← ho1] at C1;clear ho1
 cases o1 with
 | cut d2=>
  have HE:Hid (runO (zaz r) 2 0 d=.cut d2):=by
   show (zaz r 0 d).next _=_
   rw [← HO1.out];rfl
  go_wp2_with (refine zam 43 (.tmp 3) rfl rfl (w.heap.size) rfl (T0.b1) Tryz.underlying43 zbM rfl ?_)
  refine C1.mono ?_;rintro e w5 ⟨rfl,K5,X5,s5,C5⟩;go_wp2;go_ret;rw [HE.out];exact SpP.after (o:=.cut d2) (w1:=W0) (K1:=K) (e:=.returned (.bool false)) (fun b hb=>.inl hb) (ChgL.of_below T0.bel) ⟨rfl,K5,X5,s5,C5⟩
 | done c d2=>
  have c0:c=0:=zc3 HO1.out.symm;subst c0
  have HE:Hid (runO (zaz r) 2 0 d=zaz r 1 d2):=by
   show (zaz r 0 d).next (fun x=>(zaz r 1 x).next (fun y=>.done 0 y))=_
   rw [← HO1.out]
   show (if (0:Int)=0 then (zaz r 1 d2).next (fun y=>.done 0 y) else .done 0 d2)=_
   rw [if_pos rfl,zga]
  have hf2:Fit3 1 d2:=zej HF.out (by decide) HO1.out.symm;have HF2:=hid hf2;clear hf2
  go_wp2_with (refine zam 43 (.tmp 3) rfl rfl (w.heap.size) rfl (T0.b1) Tryz.underlying43 zbM rfl ?_)
  refine C1.mono ?_;rintro e w5 ⟨rfl,K5,X5,s5,C5⟩
  have Q5:=T0.b1.chgl C5 (fun hm=>by
   rcases List.mem_cons.1 hm with h | h
   ·omega
   ·have:=hKl _ h;omega)
  have z5:=C5.size;have bh:ChgL (B::K) w w5:=(ChgL.of_below T0.bel).trans C5;have C2:=zdm B d2 K5 1 (by decide) r o6 o7 o8 k6 k7 k8 hi w5 X5 HF2.out (fun w' hc=>HRR.out w' (bh.trans (hc.mono (fun b hb=>by simp at hb;simp [hb])))) (by omega) hsr;have HS5:=hid s5;have HC5:=hid C5;have HT0:Hid (ChgL (B::K) w W0):=ChgL.of_below T0.bel;obtain ⟨o2,ho2⟩:∃ x,x=zaz r 1 d2:=⟨_,rfl⟩;have HO2:=hid ho2;rw [← ho2] at C2;have q_0:w5.cell? ⟨w.heap.size,0,none⟩=some (.int .i64 r.kind):=Q5.cell 0;have q_1:w5.cell? ⟨w.heap.size,1,none⟩=some (.int .i64 r.seq):=Q5.cell 1;have q_2:w5.cell? ⟨w.heap.size,2,none⟩=some (.string r.name):=Q5.cell 2;have q_3:w5.cell? ⟨w.heap.size,3,none⟩=some (.int .i64 r.length):=Q5.cell 3;have q_4:w5.cell? ⟨w.heap.size,4,none⟩=some (.int .i64 r.group):=Q5.cell 4;have q_5:w5.cell? ⟨w.heap.size,5,none⟩=some (.int .i64 r.row):=Q5.cell 5;have q_6:w5.cell? ⟨w.heap.size,6,none⟩=some (.slice o6 r.rows.1 k6):=Q5.cell 6;have q_7:w5.cell? ⟨w.heap.size,7,none⟩=some (.slice o7 r.data.1 k7):=Q5.cell 7;have q_8:w5.cell? ⟨w.heap.size,8,none⟩=some (.slice o8 r.delta.1 k8):=Q5.cell 8;clear ho2 s5 C5 X5 C1 Q5 bh T0
  cases o2 with
  | cut d3=>
   go_wp2_with (go_at_call 65;refine C2.mono ?_;rintro e w6 ⟨rfl,K6,X6,s6,C6⟩)
   go_ret;rw [HE.out,← HO2.out];exact SpP.after (o:=.cut d3) (fun b hb=>.inl hb) HT0.out (SpP.after (o:=.cut d3) HS5.out HC5.out ⟨rfl,K6,X6,s6,C6⟩)
  | done c d3=>
   go_wp2_with (go_at_call 65;refine C2.mono ?_;rintro e w6 ⟨rfl,K6,X6,s6,C6⟩)
   go_ret;rw [HE.out,← HO2.out];exact SpP.after (o:=.done c d3) (fun b hb=>.inl hb) HT0.out (SpP.after (o:=.done c d3) HS5.out HC5.out ⟨rfl,K6,X6,s6,C6⟩)
theorem ziT (B:Nat) (d:WorldD) (K:List Nat) (r:RecD) (o6 o7 o8:Option Addr) (k6 k7 k8 hi:Nat) (w:World) (hX:SpB w B d K) (hf:Fit3 2 d) (hr:zac.rd w hi r [.int .i64 r.kind,.int .i64 r.seq,.string r.name,.int .i64 r.length,.int .i64 r.group,.int .i64 r.row,.slice o6 r.rows.1 k6,.slice o7 r.data.1 k7,.slice o8 r.delta.1 k8]) (hiB:hi≤B) (hiK:∀ b,b∈K→hi≤b) (hhi:hi≤w.heap.size) (hsr:zaF r≤1048576) :
 Calls Tryz.prog 28 #[.pointer (some ⟨B,0,none⟩),.agg #[.int .i64 r.kind,.int .i64 r.seq,.string r.name,.int .i64 r.length,.int .i64 r.group,.int .i64 r.row,.slice o6 r.rows.1 k6,.slice o7 r.data.1 k7,.slice o8 r.delta.1 k8]] w (SpP (runO (zaz r) 2 0 d) B w K):=
 zh5 B d K r o6 o7 o8 k6 k7 k8 hi w hX hf (fun w' hc=>zac.rd_below hr (hc.bel (fun b hb=>by
  rcases List.mem_cons.1 hb with h | h
  ·omega
  ·exact hiK b h) hhi) (Nat.le_refl _)) hhi hsr
theorem Three.chgK3 {w wc w':World} {c1 c2 c3:Array Value} {t1 t2 t3:TypeId} {K:List Nat} (h:Three w wc c1 c2 c3 t1 t2 t3) (hc:ChgL K wc w') (hK:∀ b,b∈K→w.heap.size+1+1<b):Three w w' c1 c2 c3 t1 t2 t3:=
 ⟨h.b1.chgl hc (fun hb=>by have:=hK _ hb;omega),h.b2.chgl hc (fun hb=>by have:=hK _ hb;omega),h.b3.chgl hc (fun hb=>by have:=hK _ hb;omega),h.bel.trans (hc.bel (fun b hb=>by have:=hK b hb;omega) h.bel.size)⟩
set_option maxRecDepth 20000 in
theorem zg1 (d:WorldD) (r:RecD) (cs csr:List Value) (hi:Nat) (w:World) (h:zad.rd w hi d cs) (hr:zac.rd w hi r csr) (hhi:hi≤w.heap.size) (hsz:zaV d≤1048576) (hsr:zaF r≤1048576) :
 Calls Tryz.prog 7 #[.agg cs.toArray,.agg csr.toArray] w (zeZ (LyAns d r) w):=by
 have h':=h;obtain ⟨ao1,cap1,ao2,cap2,ao3,cap3,rfl,g1,g2,g3,k0,k4,k5⟩:=zaK h';obtain ⟨o6,k6,o7,k7,o8,k8,rfl,-⟩:=zbh hr;have HRD:=hid h;have HRR:=hid hr;have HSZ:=hid hsz;have HSR:=hid hsr;have hmf:∀ (fn:Fn) (first cap:Array Value) (w:World),(Instr.makeFunc fn first cap).run Tryz.prog w=.ok (.func fn first cap) w:=fun _ _ _ _=>rfl;clear h h' hr hsz hsr g1 g2 g3 k0 k4 k5;have T0:=zbp w (rwW d ao1 cap1 ao2 cap2 ao3 cap3).toArray (rwR r o6 k6 o7 k7 o8 k8).toArray rwZ.toArray 38 43 40
 go_enter Tryz.func7,Tryz.ntmps7
 go_wp2_with (refine zam 38 (.tmp 2) rfl rfl (w.heap.size) rfl (T0.b1) Tryz.underlying38 zbo rfl ?_)
 refine (zgV d _ hi _ (zad.rd_below HRD.out T0.bel hhi) (Nat.le_trans hhi T0.bel.size) HSZ.out).mono ?_;rintro e w1 ⟨x,rfl,hx,b1⟩;have HT1:=hid (T0.call b1);have HX:=hid hx;have z1:w.heap.size+1+1<w1.heap.size:=HT1.out.b3.lt;clear b1 T0 hx
 by_cases hx0:x=0
 case neg=>
  have hne:(x != 0)=true:=by simp [hx0]
  go_wp2_with (refine zaR 40 _ _ rfl rfl (w.heap.size+1+1) rfl (cs:=(.int .i64 x::rwY)) rfl (HT1.out.b3) zay rfl rfl (zcm _ (zdl HX.out) w) ?_;intro w9 X9 C9 z9)
  refine zbI Tryz.results7 rfl X9 Tryz.underlying40 zay rfl rfl ?_;exact zch (by omega) (zdl HX.out) HT1.out.bel C9 (.inl ⟨x,hx0,HX.out,rfl⟩)
 subst hx0;have HOK:=hid (ziM HX.out);have x_0:w1.cell? ⟨w.heap.size,0,none⟩=some (.int .i64 (d.shape 0)):=HT1.out.b1.cell 0;have x_1:w1.cell? ⟨w.heap.size,1,none⟩=some (.int .i64 (d.shape 1)):=HT1.out.b1.cell 1;have x_2:w1.cell? ⟨w.heap.size,2,none⟩=some (.int .i64 (d.shape 2)):=HT1.out.b1.cell 2;have x_3:w1.cell? ⟨w.heap.size,3,none⟩=some (.int .i64 (d.shape 3)):=HT1.out.b1.cell 3;have x_4:w1.cell? ⟨w.heap.size,4,none⟩=some (.int .i64 (d.shape 4)):=HT1.out.b1.cell 4;have x_5:w1.cell? ⟨w.heap.size,5,none⟩=some (.int .i64 (d.shape 5)):=HT1.out.b1.cell 5;have x_6:w1.cell? ⟨w.heap.size,6,none⟩=some (.int .i64 (d.shape 6)):=HT1.out.b1.cell 6;have x_7:w1.cell? ⟨w.heap.size,7,none⟩=some (.int .i64 (d.shape 7)):=HT1.out.b1.cell 7;have x_8:w1.cell? ⟨w.heap.size,8,none⟩=some (.int .i64 (d.shape 8)):=HT1.out.b1.cell 8;have CRF:=zd1 d.shape r (rwR r o6 k6 o7 k7 o8 k8) hi w1 (zac.rd_below HRR.out HT1.out.bel hhi) (Nat.le_trans hhi HT1.out.bel.size) (zhr HSR.out);unfold zal at CRF
 go_wp2_with (refine zam 43 (.tmp 3) rfl rfl (w.heap.size+1) rfl (HT1.out.b2) Tryz.underlying43 zbM rfl ?_)
 refine CRF.mono ?_;rintro e wA ⟨y,rfl,hy,bA⟩;have HTA:=hid (HT1.out.call bA);have zA:w1.heap.size≤wA.heap.size:=bA.size;have HY:=hid hy;clear bA CRF hy x_0 x_1 x_2 x_3 x_4 x_5 x_6 x_7 x_8
 by_cases hy0:y=0
 case neg=>
  have hne:(y != 0)=true:=by simp [hy0]
  go_wp2_with (refine zaR 40 _ _ rfl rfl (w.heap.size+1+1) rfl (cs:=(.int .i64 y::rwY)) rfl (HTA.out.b3) zay rfl rfl (zcm _ (zdO HY.out) w) ?_;intro w9 X9 C9 z9)
  refine zbI Tryz.results7 rfl X9 Tryz.underlying40 zay rfl rfl ?_;exact zch (by omega) (zdO HY.out) HTA.out.bel C9 (.inr ⟨HX.out,.inl ⟨y,hy0,HY.out,rfl⟩⟩)
 subst hy0;have hf0:=ziQ HOK.out (zjg HX.out);have CF:=zh4 d (rwW d ao1 cap1 ao2 cap2 ao3 cap3) hi w.heap.size wA (zad.rd_below HRD.out HTA.out.bel hhi) (Nat.le_trans hhi HTA.out.bel.size) HTA.out.b1 hf0.two (fun T hT=>by have:=hf0.few T hT;omega);have HF0:=hid hf0;clear hf0
 go_wp2_with fail
 refine CF.mono ?_;rintro e wF ⟨t,rfl,ht,e1⟩;have e2:=e1.symm;subst e2;have HTF:=hid ht;clear CF ht
 cases t with
 | true=>
  have HQ:Hid (LyAns d r ⟨2,zep⟩):=.inr ⟨HX.out,.inr ⟨HY.out,by unfold layF;rw [if_pos (HTF.out.1 rfl)];rfl⟩⟩
  go_wp2_with (refine zaR 40 _ _ rfl rfl (w.heap.size+1+1) rfl (cs:=(.int .i64 2::rwY)) rfl (HTA.out.b3) zay rfl rfl (zcm _ (by decide) w) ?_;intro w9 X9 C9 z9)
  refine zbI Tryz.results7 rfl X9 Tryz.underlying40 zay rfl rfl ?_;exact zch (by omega) (by decide) HTA.out.bel C9 (HQ.out)
 | false=>
 have HEQ:Hid (layF r d=runO (zaz r) 2 0 d):=by
  show layF r d=_
  unfold layF;rw [if_neg (fun h=>by have:=HTF.out.2 h;cases this)]
 go_wp2_with (refine zam 38 (.tmp 2) rfl rfl (w.heap.size) rfl (HTA.out.b1) Tryz.underlying38 zbo rfl ?_)
 refine (ziS _ d hi _ (zad.rd_below HRD.out HTA.out.bel hhi) (Nat.le_trans hhi HTA.out.bel.size) HSZ.out).mono ?_;rintro e w2 ⟨c2,rfl,o2,b2⟩;obtain ⟨p1,c1,p2,c2,p3,c3,K1,K2,K3,rfl,WO2⟩:=zhV o2;have z2:wA.heap.size≤w2.heap.size:=b2.size
 go_upto_region 10 with (refine zbr 38 7 (.tmp 26) _ _ 15 rfl rfl rfl rfl rfl rfl rfl rfl zje rfl rfl o2.one ?_)
 have bA:=bAl w2 (.cells (rwW d p1 c1 p2 c2 p3 c3).toArray 38);have X3:=zax w2 (rwW d p1 c1 p2 c2 p3 c3).toArray 38;obtain ⟨W3,hW3⟩:∃ x,x=w2.alloc (.cells (rwW d p1 c1 p2 c2 p3 c3).toArray 38):=⟨_,rfl⟩;rw [← hW3] at bA X3 ⊢;have T3:=(HTA.out.call b2).call bA;have WO:=WO2.below bA (Nat.le_refl _);have z3:w2.heap.size<W3.heap.size:=X3.lt;clear bA hW3 o2 b2 WO2;have hin:∀ b,b∈K1++(K2++(K3++[]))→wA.heap.size≤b∧b<w2.heap.size:=fun b hb=>WO.inn b (by simpa using hb);have S3:SpB W3 w2.heap.size d (K1++(K2++(K3++[]))):=⟨_,X3,WO.encO (fun hm=>by have:=WO.inn _ hm;omega)⟩;have hza:=HTA.out.bel.size;have CS:=ziT w2.heap.size d _ r o6 o7 o8 k6 k7 k8 hi W3 S3 (HF0.out.less (by decide)) (zac.rd_below HRR.out T3.bel hhi) (by omega) (fun b hb=>by have:=hin b hb;omega) (Nat.le_trans hhi T3.bel.size) HSR.out;obtain ⟨oc,hoc⟩:∃ x,x=runO (zaz r) 2 0 d:=⟨_,rfl⟩;have HOC:=hid hoc;rw [← hoc] at CS;clear hoc S3 X3 WO
 cases oc with
 | cut d2=>
  have HQ:Hid (LyAns d r ⟨9,cutW d2⟩):=.inr ⟨HX.out,.inr ⟨HY.out,by rw [HEQ.out,← HOC.out];rfl⟩⟩
  go_wp2_with (refine zam 43 (.tmp 3) rfl rfl (w.heap.size+1) rfl (T3.b2) Tryz.underlying43 zbM rfl ?_)
  refine CS.mono ?_;rintro e w5 ⟨rfl,K5,S5,s5,C5⟩;clear CS;obtain ⟨cs5,X5,O5⟩:=S5;obtain ⟨y0,y1,y2,y3,y4,y5,y6,y7,y8,yp0,yl0,yq0,yp1,yl1,yq1,yp2,yl2,yq2,y9,y10,yb,rfl⟩:=zbT O5.own;have z5:=C5.size
  have T5:=T3.chgK3 C5 (fun b hb=>by
   rcases List.mem_cons.1 hb with h | h
   ·omega
   ·have:=hin b h;omega)
  have OO:OwnT zad w5 wA.heap.size w5.heap.size (cutW d2) (rwV y0 y1 y2 y3 y4 y5 y6 y7 y8 yp0 yl0 yq0 yp1 yl1 yq1 yp2 yl2 yq2 y9 y10 yb):=⟨K5,O5.own,O5.nd,fun b hb=>⟨by
   rcases s5 b hb with h | h
   ·exact (hin b h).1
   ·omega,zad.own_lt O5.own b hb⟩⟩
  have CL:=zgc y0 y1 y2 y3 y4 y5 y6 y7 y8 yp0 yl0 yq0 yp1 yl1 yq1 yp2 yl2 yq2 y9 y10 yb false w5 OO.one;clear T3 C5 s5 O5
  go_wp2_with (first | (refine zam 38 (.tmp 7) rfl rfl (w2.heap.size) rfl (X5) Tryz.underlying38 zbo rfl ?_) | (go_at_call 29;refine CL.mono ?_;rintro e w6 ⟨rfl,b6⟩;have T6:=T5.call b6;have O6:=OO.below b6 (Nat.le_refl _)) | (refine zaR 40 _ _ rfl rfl (w.heap.size+1+1) rfl (cs:=(.int .i64 9::rwV y0 y1 y2 y3 y4 y5 y6 y7 y8 yp0 yl0 yq0 yp1 yl1 yq1 yp2 yl2 yq2 y9 y10 yb)) rfl T6.b3 zay rfl rfl (zb9 9 (by decide) O6).one ?_;intro w9 X9 C9 z9))
  refine zbI Tryz.results7 rfl X9 Tryz.underlying40 zay rfl rfl ?_;exact ⟨⟨9,(cutW d2)⟩,_,rfl,HQ.out,(zb9 9 (by decide) (O6.chgk C9 (fun b hb=>by simp at hb;omega))).weaken (by omega) (Nat.le_trans b6.size C9.size),T6.bel.trans (C9.bel (fun b hb=>by simp at hb;omega) T6.bel.size)⟩
 | done c d2=>
  have c0:c=0:=zeJ (d:=d) _ _ _ _ _ HOC.out.symm;subst c0;have HQ:Hid (LyAns d r ⟨0,d2⟩):=.inr ⟨HX.out,.inr ⟨HY.out,by rw [HEQ.out,← HOC.out];simp [Outc.final]⟩⟩
  go_wp2_with (refine zam 43 (.tmp 3) rfl rfl (w.heap.size+1) rfl (T3.b2) Tryz.underlying43 zbM rfl ?_)
  refine CS.mono ?_;rintro e w5 ⟨rfl,K5,S5,s5,C5⟩;clear CS;obtain ⟨cs5,X5,O5⟩:=S5;obtain ⟨y0,y1,y2,y3,y4,y5,y6,y7,y8,yp0,yl0,yq0,yp1,yl1,yq1,yp2,yl2,yq2,y9,y10,yb,rfl⟩:=zbT O5.own;have z5:=C5.size
  have T5:=T3.chgK3 C5 (fun b hb=>by
   rcases List.mem_cons.1 hb with h | h
   ·omega
   ·have:=hin b h;omega)
  have OO:OwnT zad w5 wA.heap.size w5.heap.size d2 (rwV y0 y1 y2 y3 y4 y5 y6 y7 y8 yp0 yl0 yq0 yp1 yl1 yq1 yp2 yl2 yq2 y9 y10 yb):=⟨K5,O5.own,O5.nd,fun b hb=>⟨by
   rcases s5 b hb with h | h
   ·exact (hin b h).1
   ·omega,zad.own_lt O5.own b hb⟩⟩
  have CL:=zgc y0 y1 y2 y3 y4 y5 y6 y7 y8 yp0 yl0 yq0 yp1 yl1 yq1 yp2 yl2 yq2 y9 y10 yb true w5 OO.one;clear T3 C5 s5 O5
  go_wp2_with (first | (refine zam 38 (.tmp 7) rfl rfl (w2.heap.size) rfl (X5) Tryz.underlying38 zbo rfl ?_) | (go_at_call 29;refine CL.mono ?_;rintro e w6 ⟨rfl,b6⟩;have T6:=T5.call b6;have O6:=OO.below b6 (Nat.le_refl _)) | (refine zaR 40 _ _ rfl rfl (w.heap.size+1+1) rfl (cs:=(.int .i64 0::rwV y0 y1 y2 y3 y4 y5 y6 y7 y8 yp0 yl0 yq0 yp1 yl1 yq1 yp2 yl2 yq2 y9 y10 yb)) rfl T6.b3 zay rfl rfl (zb9 0 (by decide) O6).one ?_;intro w9 X9 C9 z9))
  refine zbI Tryz.results7 rfl X9 Tryz.underlying40 zay rfl rfl ?_;exact ⟨⟨0,d2⟩,_,rfl,HQ.out,(zb9 0 (by decide) (O6.chgk C9 (fun b hb=>by simp at hb;omega))).weaken (by omega) (Nat.le_trans b6.size C9.size),T6.bel.trans (C9.bel (fun b hb=>by simp at hb;omega) T6.bel.size)⟩
theorem zjL (d:WorldD):∃ x,AskAns d x:=by
 obtain ⟨x,hx⟩:=ziX d
 by_cases h:x=0
 ·subst h
  cases hd:d.down with
  | true=>exact ⟨9,.inr ⟨hx,.inl ⟨hd,rfl⟩⟩⟩
  | false=>exact ⟨0,.inr ⟨hx,.inr ⟨hd,rfl⟩⟩⟩
 ·exact ⟨x,.inl ⟨h,hx⟩⟩
end Go.Proofs.YtaccmgakckpofaaGreat
