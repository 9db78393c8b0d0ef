/- layingNext: a record laid with the number that is the next one when it is run. -/
import Derived.Deep.RegionHeld3
import Derived.Test.YtclclojenogpbaaGreatZPdropias
set_option linter.unusedVariables false
set_option linter.unusedSimpArgs false
set_option maxHeartbeats 16000000
namespace Go.Proofs.YtclclojenogpbaaGreat
open Go.RowKit F256
set_option maxRecDepth 100000 in
theorem zkB (r:RecD) (o6 o7 o8:Option Addr) (k6 k7 k8 hi:Nat) (hsr:zaG r≤1048576) (a B:Nat) (w:World) (E:Nat) (d:WorldD) (K:List Nat) (g2:Box w a #[.int .i64 r.kind,.int .i64 r.seq,.string r.name,.int .i64 r.length,.int .i64 r.group,.int .i64 r.row,.slice o6 r.rows.1 k6,.slice o7 r.data.1 k7,.slice o8 r.delta.1 k8] 72) (hrw:zab.rd w hi r [.int .i64 r.kind,.int .i64 r.seq,.string r.name,.int .i64 r.length,.int .i64 r.group,.int .i64 r.row,.slice o6 r.rows.1 k6,.slice o7 r.data.1 k7,.slice o8 r.delta.1 k8]) (l3:hi≤B) (hBE:B≤E) (hBK:∀ b,b∈K→B≤b) (hNE:a≠E∧a∉K) (hX:EncB w E d K) (hf:Fit3 2 d) :
 Calls Tryz.prog 133 #[.pointer (some ⟨E,0,none⟩),.pointer (some ⟨a,0,none⟩)] w (RunP (fun c=>.int .i64 c) (layF r d) E w K):=by
 have HX:=hid hX;have HF:=hid hf;have HBK:=hid hBK;have zE:=hX.lt;have hKlt:=hX.Klt;obtain ⟨cs,hBx,hO⟩:=hX;obtain ⟨v0,v1,v2,v3,v4,v5,v6,v7,v8,vp0,vl0,vq0,vp1,vl1,vq1,vp2,vl2,vq2,v9,v10,vb,rfl⟩:=zbQ hO.own;have rdw:zad.rd w w.heap.size d (rwV v0 v1 v2 v3 v4 v5 v6 v7 v8 vp0 vl0 vq0 vp1 vl1 vq1 vp2 vl2 vq2 v9 v10 vb):=hO.T.rd
 have rg:w.rangeAt E 5 (rwV v0 v1 v2 v3 v4 v5 v6 v7 v8 vp0 vl0 vq0 vp1 vl1 vq1 vp2 vl2 vq2 v9 v10 vb):=fun j v hv=>by
  have hc:=hBx.cell (5+j);rw [hc]
  rcases j with _ | _ | _ | _ | _ | _ | _ | _ | _ | _ | _ | _ | _ | _ | _ | j<;>first | exact hv | (simp at hv)
 have CH:=zi9 d (rwV v0 v1 v2 v3 v4 v5 v6 v7 v8 vp0 vl0 vq0 vp1 vl1 vq1 vp2 vl2 vq2 v9 v10 vb) w.heap.size 1 (by decide) w rdw (Nat.le_refl _) (fun i hi=>by have:=hf.few i (by have:=hf.two;omega);omega);have hmf:∀ (fn:Fn) (first cap:Array Value) (w:World),(Instr.makeFunc fn first cap).run Tryz.prog w=.ok (.func fn first cap) w:=fun _ _ _ _=>rfl;have h2f:=zmv hf.two 1;obtain ⟨oc,hoc⟩:∃ x,x=layF r d:=⟨_,rfl⟩;have HOC:=hid hoc;rw [← hoc];clear hf hBK hoc hBx hO rdw
 go_enter Tryz.func133,Tryz.ntmps133
 go_wp2_with (refine wpList_load_mid rfl 38 (.tmp 6) rfl E 5 rfl (rwV v0 v1 v2 v3 v4 v5 v6 v7 v8 vp0 vl0 vq0 vp1 vl1 vq1 vp2 vl2 vq2 v9 v10 vb) _ rg Tryz.underlying38 rfl (by rw [zbk];rfl) ?_)
 refine CH.mono ?_;rintro e w1 ⟨t,rfl,ht,b1⟩;have HTT:=hid ht;have HFU:=hid h2f;have z1:=b1.size;have X1:=HX.out.below b1;clear CH ht h2f rg
 cases t with
 | false=>
  have hfl:zb8 d.tapes 1:=Classical.byContradiction fun hh=>by have:=HTT.out.2 hh;cases this
  have e:oc=.done 2 d:=by
   rw [HOC.out];unfold layF;rw [if_pos (HFU.out.1 hfl)]
  have HE:=hid e;clear hfl e;go_wp2;go_ret;rw [HE.out];exact ⟨rfl,K,X1,fun b hb=>.inl hb,ChgL.of_below b1⟩
 | true=>
  have hfl:¬ zb8 d.tapes 1:=HTT.out.1 rfl
  have e:oc=runO (zaK r) 2 0 d:=by
   rw [HOC.out];unfold layF;rw [if_neg (fun hh=>hfl (HFU.out.2 hh))]
  have HE:=hid e;clear hfl e;have g3:=g2.below b1 g2.lt;have hal:=g3.lt;have B0:Below w1.heap.size w1 w1.drew:=zev _;have KS:∀ w',Below w1.heap.size w1 w'→(Box w' a (rwR r o6 k6 o7 k7 o8 k8).toArray 72):=fun w' hb=>g3.below hb hal;have CK:=zeK 0 (.int .i64 r.kind) (.int .i64 r.seq) (.string r.name) (.int .i64 r.length) (.int .i64 r.group) (.int .i64 r.row) (.slice o6 r.rows.1 k6) (.slice o7 r.data.1 k7) (.slice o8 r.delta.1 k8) w1.drew
  go_upto_region 3 with fail
  refine zbz 7 (fun w'=>Box w' a (rwR r o6 k6 o7 k7 o8 k8).toArray 72) (by kernel_rfl) (KS _ B0) (fun hHeld=>?_);refine znp 0 (v:=?_) rfl ?_ ?_
  rotate_left
  ·intro w' hSw;go_simp;try with_reducible rfl
  try simp only [Act.put,SL]
  refine zac (i:=1) (oi:=_) 16 rfl (by kernel_rfl) (fun _ _ _ h=>h) (zcO 72 (.tmp 1) rfl rfl a rfl (cs:=(rwR r o6 k6 o7 k7 o8 k8)) (fun w' h=>h) Tryz.underlying72 zci rfl) (by assumption) ?_
  try simp only [Act.put,SL]
  refine zac (i:=3) (oi:=_) 16 rfl (by kernel_rfl) (fun _ _ _ h=>h) (zcO 72 (.tmp 1) rfl rfl a rfl (cs:=(rwR r o6 k6 o7 k7 o8 k8)) (fun w' h=>h) Tryz.underlying72 zci rfl) (by assumption) ?_
  try simp only [Act.put,SL]
  refine zav (i:=2) (o:=_) rfl (by kernel_rfl) (fun KC hKC=>?_);refine za9 rfl 135 _ _ rfl #[.int .i64 0,.agg (rwR r o6 k6 o7 k7 o8 k8).toArray] ?_ Tryz.func135 (by kernel_rfl) (by kernel_rfl) CK ?_
  ·simp [Act.eval,Act.put]
  rintro ee w5 ⟨rfl,p1,p2,z5,b5'⟩;have b5:Below w1.heap.size w1 w5:=B0.trans b5';have z5':w5.heap.size=w1.heap.size+1+1:=z5;have p1:Box w5 w1.heap.size #[.int .i64 0] 2:=p1;have p2:Box w5 (w1.heap.size+1) (rwR r o6 k6 o7 k7 o8 k8).toArray 72:=p2;refine ⟨_,rfl,?_⟩;refine hKC.out _ _ (KS _ b5) (fun hHeld=>?_);clear hKC KC CK b5' z5
  try simp only [Act.put,SL]
  have CK:=zeK 1 (.int .i64 r.kind) (.int .i64 r.seq) (.string r.name) (.int .i64 r.length) (.int .i64 r.group) (.int .i64 r.row) (.slice o6 r.rows.1 k6) (.slice o7 r.data.1 k7) (.slice o8 r.delta.1 k8) w5;refine zav (i:=4) (o:=_) rfl (by kernel_rfl) (fun KC hKC=>?_);refine za9 rfl 135 _ _ rfl #[.int .i64 1,.agg (rwR r o6 k6 o7 k7 o8 k8).toArray] ?_ Tryz.func135 (by kernel_rfl) (by kernel_rfl) CK ?_
  ·simp [Act.eval,Act.put]
  rintro ee w6 ⟨rfl,p3,p4,z6,b6'⟩;have b6:Below w1.heap.size w1 w6:=b5.trans (b6'.mono b5.size);rw [z5'] at p3 p4 z6;refine ⟨_,rfl,?_⟩;refine hKC.out _ _ (KS _ b6) (fun hHeld=>?_);clear hKC KC CK
  try simp only [Act.put,SL]
  have bN:Below w6.heap.size w6 (w6.alloc (.cells #[.func (.func 186) #[] #[.pointer (some ⟨w1.heap.size,0,none⟩),.pointer (some ⟨w1.heap.size+1,0,none⟩)],.func (.func 186) #[] #[.pointer (some ⟨w1.heap.size+1+1,0,none⟩),.pointer (some ⟨w1.heap.size+1+1+1,0,none⟩)]] 89)):=(Below.refl _ _).alloc (Nat.le_refl _) _;have XN:Box (w6.alloc (.cells #[.func (.func 186) #[] #[.pointer (some ⟨w1.heap.size,0,none⟩),.pointer (some ⟨w1.heap.size+1,0,none⟩)],.func (.func 186) #[] #[.pointer (some ⟨w1.heap.size+1+1,0,none⟩),.pointer (some ⟨w1.heap.size+1+1+1,0,none⟩)]] 89)) w6.heap.size #[.func (.func 186) #[] #[.pointer (some ⟨w1.heap.size,0,none⟩),.pointer (some ⟨w1.heap.size+1,0,none⟩)],.func (.func 186) #[] #[.pointer (some ⟨w1.heap.size+1+1,0,none⟩),.pointer (some ⟨w1.heap.size+1+1+1,0,none⟩)]] 89:=zaq _ _ _;refine zav (i:=5) (o:=_) rfl (by kernel_rfl) (fun KC hKC=>?_);go_simp;refine hKC.out _ _ (KS _ (b6.trans (bN.mono b6.size))) (fun hHeld=>?_);clear hKC KC
  try simp only [Act.put,SL]
  obtain ⟨w7,hw7⟩:∃ x,x=(w6.alloc (.cells #[.func (.func 186) #[] #[.pointer (some ⟨w1.heap.size,0,none⟩),.pointer (some ⟨w1.heap.size+1,0,none⟩)],.func (.func 186) #[] #[.pointer (some ⟨w1.heap.size+1+1,0,none⟩),.pointer (some ⟨w1.heap.size+1+1+1,0,none⟩)]] 89)):=⟨_,rfl⟩;rw [← hw7] at bN XN;have z7:w6.heap.size<w7.heap.size:=XN.lt;have b7:Below w1.heap.size w1 w7:=b6.trans (bN.mono b6.size);have bw7:Below w.heap.size w w7:=b1.trans (b7.mono z1);have bB7:Below B w w7:=bw7.mono (by omega);have q1:=(p1.below b6' (by omega)).below bN (by omega);have q2:=(p2.below b6' (by omega)).below bN (by omega);have q3:=p3.below bN p3.lt;have q4:=p4.below bN p4.lt
  have CR:=zja (fun _=>186) (fun k=>if k=0 then #[.pointer (some ⟨w1.heap.size,0,none⟩),.pointer (some ⟨w1.heap.size+1,0,none⟩)] else #[.pointer (some ⟨w1.heap.size+1+1,0,none⟩),.pointer (some ⟨w1.heap.size+1+1+1,0,none⟩)]) (zaK r) (fun _=>Fit3 1) B 2 w6.heap.size 0 2 [w1.heap.size,w1.heap.size+1,w1.heap.size+1+1,w1.heap.size+1+1+1] w7 E d K
   (fun i hi=>by
    rcases i with _ | _ | i
    ·exact zdw 0 (by decide) r o6 o7 o8 k6 k7 k8 _ hsr w1.heap.size (w1.heap.size+1) B w7 (q1.cell 0) q2 (zab.rd_below hrw bB7 l3) _ (by simp) (by simp) l3
    ·exact zdw 1 (by decide) r o6 o7 o8 k6 k7 k8 _ hsr (w1.heap.size+1+1) (w1.heap.size+1+1+1) B w7 (q3.cell 0) q4 (zab.rd_below hrw bB7 l3) _ (by simp) (by simp) l3
    ·omega) (fun i hi=>by
    rcases i with _ | _ | i
    ·exact XN.cell 0
    ·exact XN.cell 1
    ·omega) z7 ⟨by omega,fun hm=>by have:=hKlt _ hm;omega⟩ hBE HBK.out (by decide) (HX.out.below bw7) (zgj r 2 0 d (by decide) HF.out)
   (fun x hx=>by
    have hx4:x=w1.heap.size∨x=w1.heap.size+1∨x=w1.heap.size+1+1∨x=w1.heap.size+1+1+1:=by simpa using hx
    have:=q1.lt;have:=q4.lt
    exact ⟨by omega,by omega,fun hm=>by have:=hKlt _ hm;omega⟩)
  rw [← HE.out] at CR;rw [← hw7]
  cases oc with
  | cut d2=>
   have CW:=CR.mono (R':=fun e w'=>∃ c,e=.panicked c∧c=[{ v:=.iface 275 (.agg #[]),recovered:=false }]∧∃ K',EncF w' E d2 K'∧(∀ b,b∈K'→b∈K∨w7.heap.size≤b)∧ChgL (E::K) w7 w') (fun e w' ⟨h1,h2⟩=>⟨_,h1,rfl,h2⟩);refine zav (i:=6) (o:=_) rfl (by kernel_rfl) (fun KC hKC=>?_);refine zkz rfl 84 _ _ rfl #[.pointer (some ⟨E,0,none⟩),.slice (some ⟨w6.heap.size,0,none⟩) 2 2] ?_ Tryz.func84 (by kernel_rfl) (by kernel_rfl) CW ?_
   ·simp [Act.eval,Act.put]
   rintro ee w8 ⟨_,rfl,rfl,K8,X8,s8,C8⟩;refine ⟨_,rfl,?_⟩;exact ⟨rfl,RunP.after (rv:=fun c=>.int .i64 c) (o:=.cut d2) (fun b hb=>.inl hb) (ChgL.of_below bw7) ⟨rfl,K8,X8,s8,C8⟩⟩
  | done c d2=>
   have CW:=CR.mono (R':=fun e w'=>∃ v,e=.returned v∧v=.int .i64 c∧∃ K',EncB w' E d2 K'∧(∀ b,b∈K'→b∈K∨w7.heap.size≤b)∧ChgL (E::K) w7 w') (fun e w' ⟨h1,h2⟩=>⟨_,h1,rfl,h2⟩);refine zav (i:=6) (o:=_) rfl (by kernel_rfl) (fun KC hKC=>?_);refine za9 rfl 84 _ _ rfl #[.pointer (some ⟨E,0,none⟩),.slice (some ⟨w6.heap.size,0,none⟩) 2 2] ?_ Tryz.func84 (by kernel_rfl) (by kernel_rfl) CW ?_
   ·simp [Act.eval,Act.put]
   rintro ee w8 ⟨_,rfl,rfl,K8,X8,s8,C8⟩;refine ⟨_,rfl,?_⟩
   refine hKC.out _ _ ((g3.below b7 hal).chgl C8 (fun hm=>by
    rcases List.mem_cons.1 hm with h | h
    ·exact hNE.1 h
    ·exact hNE.2 h)) (fun hHeld=>?_)
   clear hKC KC
   try simp only [Act.put,SL]
   refine zbx (o:=_) rfl (by kernel_rfl) (fun KC hKC=>?_);go_simp;refine hKC.out _ _ ?_;clear hKC KC
   try simp only [Act.put,SL]
   refine zby (by kernel_rfl) ?_ _;go_wp2;go_ret;exact RunP.after (rv:=fun c=>.int .i64 c) (o:=.done c d2) (fun b hb=>.inl hb) (ChgL.of_below bw7) ⟨rfl,K8,X8,s8,C8⟩
noncomputable def cntL (d:WorldD):List Nat:=Classical.choose (zjx (recT d.tapes.2 2) (lenT d.tapes.2 2))
theorem zlR {d:WorldD} {l:List Nat} (h:Cnt (recT d.tapes.2 2) (lenT d.tapes.2 2) l):l=cntL d:=h.uniq (Classical.choose_spec (zjx (recT d.tapes.2 2) (lenT d.tapes.2 2)))
noncomputable def nxtD (d:WorldD):Int:=zgk (cntL d).length (fun i=>recT d.tapes.2 2 ((cntL d).getD i 0))
noncomputable def zbN (r:RecD) (d:WorldD):Outc:=if 1000000000<nxtD d then .done 2 d else layF { r with seq:=nxtD d } d
def FitX (d:WorldD):Prop:=Fit3 2 d∧(d.tapes.2 0).recs.1≤400000∧(d.tapes.2 1).recs.1≤400000
theorem zgl (d:WorldD):-9223372036854775808≤nxtD d∧nxtD d≤9223372036854775807:=by
 unfold nxtD zgk;rw [IntKind.wrap_i64];omega
theorem zm9 {w:World} {hi:Nat} {r:RecD} {o6 o7 o8:Option Addr} {k6 k7 k8:Nat} (h:zab.rd w hi r [.int .i64 r.kind,.int .i64 r.seq,.string r.name,.int .i64 r.length,.int .i64 r.group,.int .i64 r.row,.slice o6 r.rows.1 k6,.slice o7 r.data.1 k7,.slice o8 r.delta.1 k8]) (x:Int) (hx:-9223372036854775808≤x∧x≤9223372036854775807):zab.rd w hi { r with seq:=x } [.int .i64 r.kind,.int .i64 x,.string r.name,.int .i64 r.length,.int .i64 r.group,.int .i64 r.row,.slice o6 r.rows.1 k6,.slice o7 r.data.1 k7,.slice o8 r.delta.1 k8]:=by
 obtain ⟨a6,b6,a7,b7,a8,b8,e,g6,g7,g8,k0,k1,k2,k3,k4,k5⟩:=zaO h
 simp only [List.cons.injEq,Value.slice.injEq,true_and,and_true] at e
 obtain ⟨⟨rfl,rfl⟩,⟨rfl,rfl⟩,rfl,rfl⟩:=e;exact ⟨_,_,rfl,⟨rfl,k0⟩,_,_,rfl,⟨rfl,hx⟩,_,_,rfl,⟨rfl,k2⟩,_,_,rfl,⟨rfl,k3⟩,_,_,rfl,⟨rfl,k4⟩,_,_,rfl,⟨rfl,k5⟩,_,_,rfl,g6,_,_,rfl,g7,g8⟩
set_option maxRecDepth 100000 in
theorem zh9 (r:RecD) (o6 o7 o8:Option Addr) (k6 k7 k8 hi:Nat) (hsr:zaG r≤1048576) (a B:Nat) (w0:World) (h2:Box w0 a #[.int .i64 r.kind,.int .i64 r.seq,.string r.name,.int .i64 r.length,.int .i64 r.group,.int .i64 r.row,.slice o6 r.rows.1 k6,.slice o7 r.data.1 k7,.slice o8 r.delta.1 k8] 72) (hr:zab.rd w0 hi r [.int .i64 r.kind,.int .i64 r.seq,.string r.name,.int .i64 r.length,.int .i64 r.group,.int .i64 r.row,.slice o6 r.rows.1 k6,.slice o7 r.data.1 k7,.slice o8 r.delta.1 k8]) (l2:a<B) (l3:hi≤a) :
 TaskX 85 #[.pointer (some ⟨a,0,none⟩)] (zbN r) FitX B [a] w0:=by
 refine ⟨zh7 Tryz.func85 (by kernel_rfl) (by kernel_rfl),fun w E d K hB hBE hBK hX hf=>?_⟩
 show Calls Tryz.prog 85 #[.pointer (some ⟨E,0,none⟩),.pointer (some ⟨a,0,none⟩)] w _
 have g2:=h2.below hB l2;have hrw:=zab.rd_below hr hB (by omega);have HX:=hid hX;have HF:=hid hf;have HBK:=hid hBK;have zE:=hX.lt;have hKlt:=hX.Klt;obtain ⟨cs,hBx,hO⟩:=hX;obtain ⟨v0,v1,v2,v3,v4,v5,v6,v7,v8,vp0,vl0,vq0,vp1,vl1,vq1,vp2,vl2,vq2,v9,v10,vb,rfl⟩:=zbQ hO.own;have rdw:zad.rd w w.heap.size d (rwV v0 v1 v2 v3 v4 v5 v6 v7 v8 vp0 vl0 vq0 vp1 vl1 vq1 vp2 vl2 vq2 v9 v10 vb):=hO.T.rd;have c16:w.cell? ⟨E,16,none⟩=some (.slice vp2 vl2 vq2):=hBx.cell 16;have hmf:∀ (fn:Fn) (first cap:Array Value) (w:World),(Instr.makeFunc fn first cap).run Tryz.prog w=.ok (.func fn first cap) w:=fun _ _ _ _=>rfl;obtain ⟨ao1,cap1,ao2,cap2,ao3,cap3,e15,q1,q2,q3,-⟩:=zaM rdw
 have h11:(Value.slice vp2 vl2 vq2)=.slice ao3 d.tapes.1 cap3:=by
  have:=congrArg (fun l=>l[11]?) e15
  simpa using this
 have q3':(zah.slice 112).rd w w.heap.size (2,d.tapes.2) [.slice vp2 vl2 vq2]:=by
  have ht:=hf.1.two
  have e2:d.tapes=(2,d.tapes.2):=by rw [← ht]
  rw [← e2,h11];exact q3
 have CN:=zjb d.tapes.2 (.slice vp2 vl2 vq2) w.heap.size w q3' (Nat.le_refl _) hf.2.1 hf.2.2;clear hf hBK h2 hr hBx hO rdw q1 q2 q3 q3' e15 h11
 go_enter Tryz.func85,Tryz.ntmps85
 go_wp2_with fail
 refine CN.mono ?_;rintro e w1 ⟨l,c,x,hl,hcx,rfl,b1⟩;rw [zlR hl] at hcx;obtain ⟨n,hn⟩:∃ n,n=nxtD d:=⟨_,rfl⟩
 have hcx2:(1000000000<n∧c=2∧x=0)∨(¬ 1000000000<n∧c=0∧x=n):=by rw [hn];exact hcx
 have HN:=hid hn;have z1:=b1.size;have X1:=HX.out.below b1;have g3:=g2.below b1 g2.lt;have hrw1:=zab.rd_below hrw b1 (by omega);have HB1:=hid b1;clear CN hl hcx hn l b1
 rcases hcx2 with ⟨hb,rfl,rfl⟩ | ⟨hb,rfl,rfl⟩
 ·have bA:=bAl w1 (.cells #[.int .i64 2,.int .i64 0] 74)
  have X2:=X1.below bA;have HX2:=hid X2;have HB2:=hid (HB1.out.trans (bA.mono z1))
  have HNF:Hid (zbN r d=.done 2 d):=by
   show zbN r d=.done 2 d
   unfold zbN;rw [if_pos (by rw [← HN.out];exact hb)]
  clear X1 X2 bA hb;go_wp2;go_ret;rw [HNF.out];exact ⟨rfl,K,HX2.out,fun b hb=>.inl hb,ChgL.of_below HB2.out⟩
 ·have bA:=bAl w1 (.cells #[.int .i64 0,.int .i64 x] 74)
  have hal:=g3.lt;have XI:=zaq w1 #[.int .i64 0,.int .i64 x] 74;have y0:=XI.cell 0;have y1:=XI.cell 1;have yz:=XI.lt;have f4:=(g3.below bA hal).frozen 1;have cA:=(g3.below bA hal).cell 1
  have aE:a≠E:=by omega
  have aK:a∉K:=fun hm=>by have:=HBK.out a hm;omega
  have CS:ChgL [a] w1 (w1.setCell ⟨a,1,none⟩ (.int .i64 x)):=ChgL.store _ _ _ _ _ (by simp);have BS:Below a w1 (w1.setCell ⟨a,1,none⟩ (.int .i64 x)):=CS.bel (fun b hb=>by simp at hb;omega) (by omega);have bT:Below (w1.setCell ⟨a,1,none⟩ (.int .i64 x)).heap.size (w1.setCell ⟨a,1,none⟩ (.int .i64 x)) ((w1.setCell ⟨a,1,none⟩ (.int .i64 x)).alloc (.cells #[.int .i64 0,.int .i64 x] 74)):=(Below.refl _ _).alloc (Nat.le_refl _) _;have zs:=CS.size
  have g5:Box (w1.setCell ⟨a,1,none⟩ (.int .i64 x)) a #[.int .i64 r.kind,.int .i64 x,.string r.name,.int .i64 r.length,.int .i64 r.group,.int .i64 r.row,.slice o6 r.rows.1 k6,.slice o7 r.data.1 k7,.slice o8 r.delta.1 k8] 72:=by
   have:=g3.setc 1 (.int .i64 x)
   simpa using this
  have Hg5:=hid (g5.below bT g5.lt);have Hr3:Hid (zab.rd ((w1.setCell ⟨a,1,none⟩ (.int .i64 x)).alloc (.cells #[.int .i64 0,.int .i64 x] 74)) hi { r with seq:=x } [.int .i64 r.kind,.int .i64 x,.string r.name,.int .i64 r.length,.int .i64 r.group,.int .i64 r.row,.slice o6 r.rows.1 k6,.slice o7 r.data.1 k7,.slice o8 r.delta.1 k8]):=zab.rd_below (zm9 (zab.rd_below hrw1 BS l3) x (by rw [HN.out];exact zgl d)) bT (by omega)
  have HX3:Hid (EncB ((w1.setCell ⟨a,1,none⟩ (.int .i64 x)).alloc (.cells #[.int .i64 0,.int .i64 x] 74)) E d K):=by
   obtain ⟨cs5,B5,O5⟩:=X1;exact (show EncB (w1.setCell ⟨a,1,none⟩ (.int .i64 x)) E d K from ⟨cs5,B5.chgl CS (by simp;exact fun h=>aE h.symm),Lay.own_chgL _ O5.own CS (fun q hq hm=>by simp at hm;exact aK (hm ▸ hq)),O5.nd,O5.ne⟩).below bT
  have HC3:Hid (ChgL (E::([a]++K)) w ((w1.setCell ⟨a,1,none⟩ (.int .i64 x)).alloc (.cells #[.int .i64 0,.int .i64 x] 74))):=((ChgL.of_below HB1.out).trans (CS.mono (by simp))).after (bT.mono (Nat.le_trans z1 zs));have h3z:w1.heap.size≤((w1.setCell ⟨a,1,none⟩ (.int .i64 x)).alloc (.cells #[.int .i64 0,.int .i64 x] 74)).heap.size:=Nat.le_trans zs bT.size
  have HE:((w1.setCell ⟨a,1,none⟩ (.int .i64 x)).alloc (.cells #[.int .i64 0,.int .i64 x] 74)).heap.size=w1.heap.size+1:=by simp
  obtain ⟨oc,hoc⟩:∃ y,y=layF { r with seq:=x } d:=⟨_,rfl⟩
  have HNF:Hid (zbN r d=oc):=by
   show zbN r d=oc
   rw [hoc,HN.out];unfold zbN;rw [if_neg (by rw [← HN.out];exact hb)]
  have HCL:Hid (∀ w4,Box w4 ((w1.setCell ⟨a,1,none⟩ (.int .i64 x)).alloc (.cells #[.int .i64 0,.int .i64 x] 74)).heap.size #[.int .i64 r.kind,.int .i64 x,.string r.name,.int .i64 r.length,.int .i64 r.group,.int .i64 r.row,.slice o6 r.rows.1 k6,.slice o7 r.data.1 k7,.slice o8 r.delta.1 k8] 72→Below ((w1.setCell ⟨a,1,none⟩ (.int .i64 x)).alloc (.cells #[.int .i64 0,.int .i64 x] 74)).heap.size ((w1.setCell ⟨a,1,none⟩ (.int .i64 x)).alloc (.cells #[.int .i64 0,.int .i64 x] 74)) w4→Calls Tryz.prog 133 #[.pointer (some ⟨E,0,none⟩),.pointer (some ⟨w1.heap.size+1,0,none⟩)] w4 (RunP (fun c=>.int .i64 c) oc E w4 K)):=fun w4 q4 b4=>by
   have hlt:∀ b,b∈K→b<((w1.setCell ⟨a,1,none⟩ (.int .i64 x)).alloc (.cells #[.int .i64 0,.int .i64 x] 74)).heap.size:=fun b hb=>by have:=hKlt b hb;omega
   rw [hoc,← HE];exact zkB { r with seq:=x } o6 o7 o8 k6 k7 k8 hi hsr _ B w4 E d K q4 (zab.rd_below Hr3.out b4 (by omega)) (by omega) hBE HBK.out ⟨by omega,fun hm=>by have:=hlt _ hm;omega⟩ (HX3.out.below b4) HF.out.1
  have CK:=zlO (.int .i64 r.kind) (.int .i64 x) (.string r.name) (.int .i64 r.length) (.int .i64 r.group) (.int .i64 r.row) (.slice o6 r.rows.1 k6) (.slice o7 r.data.1 k7) (.slice o8 r.delta.1 k8) ((w1.setCell ⟨a,1,none⟩ (.int .i64 x)).alloc (.cells #[.int .i64 0,.int .i64 x] 74));have HZ:=hid (Nat.le_trans z1 h3z);clear X1 g3 hrw1 bA XI CS BS bT zs g5 hoc c16 h3z
  cases oc with
  | cut d2=>
   go_wp2_with (first | (refine zai 72 (.tmp 1) rfl rfl a rfl Hg5.out Tryz.underlying72 zci rfl ?_) | (go_at_call 87;refine CK.mono ?_;rintro e w4 ⟨rfl,q4,b4⟩;have CL:=HCL.out w4 q4 b4))
   refine CL.mono ?_;rintro e w5 ⟨rfl,K5,X5,s5,C5⟩;have HY:=HZ.out
   have HG:RunN [a] (fun c=>.int .i64 c) (zbN r d) E w K (.panicked [{ v:=.iface 275 (.agg #[]),recovered:=false }]) w5:=by
    rw [HNF.out];exact ⟨rfl,K5,X5,fun b hb=>(s5 b hb).imp id (fun h=>by have:=b4.size;omega),(HC3.out.after (b4.mono HZ.out)).trans (C5.mono (fun b hb=>by simp at hb ⊢;rcases hb with h | h<;>simp [h]))⟩
   exact ⟨rfl,HG⟩
  | done c d2=>
   go_wp2_with (first | (refine zai 72 (.tmp 1) rfl rfl a rfl Hg5.out Tryz.underlying72 zci rfl ?_) | (go_at_call 87;refine CK.mono ?_;rintro e w4 ⟨rfl,q4,b4⟩;have CL:=HCL.out w4 q4 b4))
   refine CL.mono ?_;rintro e w5 ⟨rfl,K5,X5,s5,C5⟩;go_wp2;go_ret;have HY:=HZ.out;rw [HNF.out];exact ⟨rfl,K5,X5,fun b hb=>(s5 b hb).imp id (fun h=>by have:=b4.size;omega),(HC3.out.after (b4.mono HZ.out)).trans (C5.mono (fun b hb=>by simp at hb ⊢;rcases hb with h | h<;>simp [h]))⟩
theorem zna {d:WorldD} (h:OkWorld d) (hd:d.down=false):Fit3 1000 d:=by
 obtain ⟨hc,_⟩:=h.count;unfold InP at hc;refine ⟨h.form.2.2,fun T hT=>?_,hd,by omega,by omega⟩;have:=h.few T (by rw [h.form.2.2];exact hT);omega
def drpR (nm:ByteArray):RecD:=⟨1,0,nm,-1,0,0,(0,fun _=>0),(0,fun _=>0),(0,fun _=>0)⟩
theorem znb (w:World) (hi:Nat):zak.rd w hi (0,fun _=>0) [.slice none 0 0]:=⟨_,rfl,⟨⟨none,0,rfl,Nat.zero_le _,fun h=>absurd rfl h⟩,⟨none,0,rfl,Nat.le_refl _⟩⟩,fun i=>(by decide:(-9223372036854775808:Int)≤0∧(0:Int)≤9223372036854775807)⟩
theorem zlS (w:World) (hi:Nat):zaf.rd w hi (0,fun _=>0) [.slice none 0 0]:=⟨_,rfl,⟨none,0,rfl,Nat.zero_le _,fun h=>absurd rfl h⟩,fun _=>Nat.zero_lt_succ _⟩
theorem zmL (nm:ByteArray) (hnm:nm.size≤1048576) (w:World) (hi:Nat) (x:Int) (hx:-9223372036854775808≤x∧x≤9223372036854775807):zab.rd w hi { drpR nm with seq:=x } [.int .i64 1,.int .i64 x,.string nm,.int .i64 (-1),.int .i64 0,.int .i64 0,.slice none 0 0,.slice none 0 0,.slice none 0 0]:=
 ⟨_,_,rfl,⟨rfl,(by decide:(-9223372036854775808:Int)≤1∧(1:Int)≤9223372036854775807)⟩,_,_,rfl,⟨rfl,hx⟩,_,_,rfl,⟨rfl,Nat.le_trans hnm (by decide)⟩,_,_,rfl,⟨rfl,(by decide:(-9223372036854775808:Int)≤-1∧(-1:Int)≤9223372036854775807)⟩,_,_,rfl,⟨rfl,(by decide:(-9223372036854775808:Int)≤0∧(0:Int)≤9223372036854775807)⟩,_,_,rfl,⟨rfl,(by decide:(-9223372036854775808:Int)≤0∧(0:Int)≤9223372036854775807)⟩,_,_,rfl,znb _ _,_,_,rfl,zlS _ _,zlS _ _⟩
theorem zlT {nm:ByteArray} (h:nm.size≤1048576):zaG (drpR nm)≤1048576:=by
 unfold zaG drpR lenD;omega
theorem NnAns.one {d:WorldD} {nm:ByteArray} {p q:RecsResultD} (h:NnAns d nm p) (k:NnAns d nm q):p=q:=by
 rcases h with ⟨x,h1,h2,rfl⟩ | ⟨h1,h2⟩<;>rcases k with ⟨y,k1,k2,rfl⟩ | ⟨k1,k2⟩
 ·rw [h2.one k2]
 ·exact absurd (h2.one k1) h1
 ·exact absurd (k2.one h1) k1
 ·exact h2.one k2
def DrpAns (d:WorldD) (nm:ByteArray) (q:WorldResultD):Prop:=∃ p,NnAns d nm p∧((p.code≠0∧q=⟨p.code,zgA⟩)∨(p.code=0∧q=(zbN (drpR nm) d).final))
theorem DrpAns.one {d:WorldD} {nm:ByteArray} {q s:WorldResultD} (h:DrpAns d nm q) (k:DrpAns d nm s):q=s:=by
 obtain ⟨p,h1,h2⟩:=h;obtain ⟨p',k1,k2⟩:=k;obtain rfl:=h1.one k1
 rcases h2 with ⟨a,rfl⟩ | ⟨a,rfl⟩<;>rcases k2 with ⟨b,rfl⟩ | ⟨b,rfl⟩
 ·rfl
 ·exact absurd b a
 ·exact absurd a b
 ·rfl
theorem zew {r:RecD} {d d2:WorldD} {c:Int} (h:zbN r d=.done c d2):c=0∨c=2:=by
 unfold zbN at h
 split at h
 ·cases h;exact .inr rfl
 ·unfold layF at h
  split at h
  ·cases h;exact .inr rfl
  ·exact .inl (zgi (d:=d) _ _ _ _ _ h)
theorem zkC {r:RecD} {d:WorldD}:-9223372036854775808≤(zbN r d).code∧(zbN r d).code≤9223372036854775807:=by
 cases e:zbN r d with
 | cut x=>exact ⟨show (-9223372036854775808:Int)≤0 by decide,show (0:Int)≤9223372036854775807 by decide⟩
 | done c x=>
  show _≤c∧c≤_
  rcases zew e with rfl | rfl<;>decide
theorem zlU {d:WorldD} (h:OkWorld d) (hd:d.down=false):FitX d:=
 ⟨(zna h hd).less (by decide),Nat.le_trans (h.few 0 (by have:=h.form.2.2;omega)) (by decide),Nat.le_trans (h.few 1 (by have:=h.form.2.2;omega)) (by decide)⟩
theorem zlV {d:WorldD} {nm:ByteArray} {p:RecsResultD} (h:NnAns d nm p):-9223372036854775808≤p.code∧p.code≤9223372036854775807:=by
 rcases h with ⟨x,_,h2,rfl⟩ | ⟨h0,h⟩
 ·exact zgX h2
 ·rcases h with ⟨x,h1,h2,rfl⟩ | ⟨_,l,hl,hp⟩
  ·exact absurd (h2.one (zfA (zgY h0).1)) h1
  ·rcases hp with ⟨e,rfl⟩ | ⟨i,hi,e,⟨c,rfl⟩ | ⟨c,rfl⟩⟩
   ·exact (show (-9223372036854775808:Int)≤4∧(4:Int)≤9223372036854775807 by decide)
   ·exact (show (-9223372036854775808:Int)≤4∧(4:Int)≤9223372036854775807 by decide)
   ·exact (show (-9223372036854775808:Int)≤0∧(0:Int)≤9223372036854775807 by decide)
theorem drive_of' {w:World} {lo hi:Nat} {d:DriveD} {ao:Option Addr} {cap:Nat} (h:OwnT (zaj.slice 126) w lo hi d.blocks [.slice ao d.blocks.1 cap]):OwnT zae w lo hi d [.bool d.wiped,.slice ao d.blocks.1 cap]:=
 OwnT.conv (OwnT.pre (A:=layB) (a:=d.wiped) (c:=[.bool d.wiped]) ⟨rfl,trivial,rfl⟩ h)
theorem tape_of' {w:World} {lo hi:Nat} {d:TapeD} {ao:Option Addr} {cap:Nat} (h:OwnT (zab.slice 72) w lo hi d.recs [.slice ao d.recs.1 cap]):OwnT zah w lo hi d [.bool d.wiped,.slice ao d.recs.1 cap]:=
 OwnT.conv (OwnT.pre (A:=layB) (a:=d.wiped) (c:=[.bool d.wiped]) ⟨rfl,trivial,rfl⟩ h)
theorem Three.chgl3 {w wc w':World} {c1 c2 c3:Array Value} {t1 t2 t3:TypeId} (h:Three w wc c1 c2 c3 t1 t2 t3) (c3':Array Value) (hb:Box w' (w.heap.size+1+1) c3' t3) (hc:ChgL [w.heap.size+1+1] wc w'):Three w w' c1 c2 c3' t1 t2 t3:=
 ⟨h.b1.chgl hc (by simp only [List.mem_singleton];omega),h.b2.chgl hc (by simp only [List.mem_singleton];omega),hb,h.bel.trans (hc.bel (fun b hb=>by simp only [List.mem_singleton] at hb;omega) h.bel.size)⟩
theorem OwnT.chgl {α:Type} {A:Lay α} {w w':World} {lo hi:Nat} {a:α} {cs:List Value} {K:List Nat} (h:OwnT A w lo hi a cs) (hc:ChgL K w w') (hK:∀ b,b∈K→b<lo):OwnT A w' lo hi a cs:=by
 obtain ⟨M,h1,h2,h3⟩:=h;exact ⟨M,A.own_kept h1 (fun b hb=>hc.block b (A.own_lt h1 b hb) (fun hh=>by have:=hK b hh;have:=(h3 b hb).1;omega)),h2,h3⟩
set_option maxRecDepth 20000 in
theorem zlW:ToV zad zaS 47:=fun cs d hi w r hhi hn=>by
 obtain ⟨ao1,cap1,ao2,cap2,ao3,cap3,rfl,g1,g2,g3,k0,k4,k5⟩:=zaM r;clear r;unfold zaS lenD at hn
 have hnG:szSl (szSl zau) d.groups≤1048576:=by omega
 have hnO:d.on.1≤1048576:=by omega
 have hnT:szSl zaV d.tapes≤1048576:=by omega
 clear hn;have Q0:=hid k0;have Q4:=hid k4;have Q5:=hid k5;have HG2:=hid g2;obtain ⟨_,_,e1,hm1,hc1⟩:=g1
 cases e1
 obtain ⟨_,_,e3,hm3,hc3⟩:=g3
 cases e3
 have HC1:=hid hc1;have HC3:=hid hc3;have hgn:=zcx hnG;have htn:=zcx hnT;have HNG:Hid (∀ i,i<d.groups.1→szSl zau (d.groups.2 i)≤1048576):=fun i hi=>zbC hnG hi;have HNT:Hid (∀ i,i<d.tapes.1→zaV (d.tapes.2 i)≤1048576):=fun i hi=>zbC hnT hi;clear k0 k4 k5 g2 hc1 hc3 hnG hnT hm1 hm3;have T0:=zcc w (rwW d ao1 cap1 ao2 cap2 ao3 cap3).toArray (rwV 0 0 0 0 0 0 0 0 0 none 0 0 none 0 0 none 0 0 0 0 false).toArray #[.int .i64 (d.shape 0),.int .i64 (d.shape 1),.int .i64 (d.shape 2),.int .i64 (d.shape 3),.int .i64 (d.shape 4),.int .i64 (d.shape 5),.int .i64 (d.shape 6),.int .i64 (d.shape 7),.int .i64 (d.shape 8),.slice none 0 0,.slice ao2 d.on.1 cap2,.slice ao3 d.tapes.1 cap3,.int .i64 d.writes,.int .i64 d.stop,.bool d.down] 38 38 38
 go_enter Tryz.func47,Tryz.ntmps47
 go_wp2
 go_loopw [4] (fun i wr=>∃ (g:Nat) (ga:Option Addr) (gc:Nat),g≤d.groups.1∧i=.int .i64 g∧Three w wr (rwW d ao1 cap1 ao2 cap2 ao3 cap3).toArray (rwV 0 0 0 0 0 0 0 0 0 none 0 0 none 0 0 none 0 0 0 0 false).toArray #[.int .i64 (d.shape 0),.int .i64 (d.shape 1),.int .i64 (d.shape 2),.int .i64 (d.shape 3),.int .i64 (d.shape 4),.int .i64 (d.shape 5),.int .i64 (d.shape 6),.int .i64 (d.shape 7),.int .i64 (d.shape 8),.slice ga g gc,.slice ao2 d.on.1 cap2,.slice ao3 d.tapes.1 cap3,.int .i64 d.writes,.int .i64 d.stop,.bool d.down] 38 38 38∧Gat (zae.slice 124) 109 wr (w.heap.size+1+1+1) (.slice ga g gc) g d.groups.2) (fun i _=>d.groups.1-(intOf i).toNat)
 case atStart=>exact ⟨0,none,0,Nat.zero_le _,rfl,T0,Gat.nil _ _ _⟩
 case round=>
  clear T0;obtain ⟨g,ga,gc,hg,rfl,T1,G1⟩:=hrel;obtain ⟨wo,rfl⟩:∃ x,x=wr:=⟨_,rfl⟩;have HT1:=hid T1;have HG1:=hid G1;have zo:w.heap.size+1+1+1≤wo.heap.size:=T1.lt;have x9:wo.cell? ⟨w.heap.size,9,none⟩=some (.slice ao1 d.groups.1 cap1):=T1.b1.cell 9
  by_cases hlg:g<d.groups.1
  ·obtain ⟨b1,off1,he1,hb1,hel1⟩:=HC1.out (by omega)
   subst he1;obtain ⟨cg,hrg,hcg⟩:=zat (t:=0) hel1 T1.bel hhi hb1 hlg;obtain ⟨ao9,cap9,rfl⟩:=zbM hrg
   have c0:wo.cell? ⟨b1,off1+g,none⟩=some (.slice ao9 (d.groups.2 g).1 cap9):=by
    have:=hcg 0 (by decide)
    have e:off1+(g*(zae.slice 124).sz+0)=off1+g:=by show off1+(g*1+0)=off1+g;omega
    rw [e] at this;exact this
   have HC0:=hid c0;have hnD:=HNG.out g hlg;have hdn:=zcx hnD;have HND:Hid (∀ i,i<(d.groups.2 g).1→zau ((d.groups.2 g).2 i)≤1048576):=fun i hi=>zbC hnD hi;obtain ⟨_,_,e9,hm9,hc9⟩:=hrg
   cases e9
   have HC9:=hid hc9;clear hel1 hcg T1 G1 hc9 hnD hm9;go_wp2
   go_loopw [5,6] (fun v i wx=>∃ (k:Nat) (da:Option Addr) (dc:Nat),k≤(d.groups.2 g).1∧i=.int .i64 k∧v=.slice da k dc∧Gat zae 124 wx wo.heap.size (.slice da k dc) k (d.groups.2 g).2∧Below wo.heap.size wo wx) (fun _ i _=>(d.groups.2 g).1-(intOf i).toNat)
   case atStart=>exact ⟨0,_,_,Nat.zero_le _,rfl,rfl,zjp _ _,(Below.refl _ _).alloc (Nat.le_refl _) _⟩
   case round=>
    clear x9 c0;obtain ⟨k,da,dc,hk,rfl,rfl,G2,B2⟩:=hrel;obtain ⟨wx,rfl⟩:∃ x,x=wr:=⟨_,rfl⟩;have HG2':=hid G2;have HB2:=hid B2;have zx:wo.heap.size≤wx.heap.size:=B2.size;have x9:wx.cell? ⟨w.heap.size,9,none⟩=some (.slice (some ⟨b1,off1,none⟩) d.groups.1 cap1):=(HT1.out.call B2).b1.cell 9;have c0:wx.cell? ⟨b1,off1+g,none⟩=some (.slice ao9 (d.groups.2 g).1 cap9):=(B2.cell (p:=⟨b1,off1+g,none⟩) (by show b1<wo.heap.size;omega)).trans HC0.out
    by_cases hlk:k<(d.groups.2 g).1
    ·obtain ⟨b9,off9,he9,hb9,hel9⟩:=HC9.out (by omega)
     subst he9;obtain ⟨cd,hrd,hcd⟩:=zat (t:=0) hel9 B2 (by omega) hb9 hlk;obtain ⟨ao5,cap5,rfl,g5⟩:=zbE hrd;obtain ⟨D,hD⟩:∃ x,x=(d.groups.2 g).2 k:=⟨_,rfl⟩;rw [← hD] at hcd g5;have HD:=hid hD
     have hnB:szSl zaQ D.blocks≤1048576:=by rw [hD];exact HND.out k hlk
     have hbn:=zcx hnB;have HNB:Hid (∀ i,i<D.blocks.1→zaQ (D.blocks.2 i)≤1048576):=fun i hi=>zbC hnB hi;have c2:wx.cell? ⟨b9,off9+k*2,none⟩=some (.bool D.wiped):=hcd 0 (by decide);have c3:wx.cell? ⟨b9,off9+k*2+1,none⟩=some (.slice ao5 D.blocks.1 cap5):=hcd 1 (by decide);have HC3':=hid c3;have HC0':=hid c0;obtain ⟨_,_,e5,hm5,hc5⟩:=g5
     cases e5
     have HC5:=hid hc5;clear hel9 hcd hrd G2 B2 hD hnB hc5 hm5;go_wp2;have bA:=bAl wx (.cells #[.bool D.wiped,.slice none 0 0] 124);have XA:=zaq wx #[.bool D.wiped,.slice none 0 0] 124
     go_loopw [8] (fun i wz=>∃ (q:Nat) (ba:Option Addr) (bc:Nat),q≤D.blocks.1∧i=.int .i64 q∧Box wz wx.heap.size #[.bool D.wiped,.slice ba q bc] 124∧Gat zaj 126 wz (wx.heap.size+1) (.slice ba q bc) q D.blocks.2∧Below wx.heap.size wx wz) (fun i _=>D.blocks.1-(intOf i).toNat)
     case atStart=>exact ⟨0,none,0,Nat.zero_le _,rfl,XA,Gat.nil _ _ _,bA⟩
     case round=>
      clear x9 c0 c2 c3 bA XA;obtain ⟨q,ba,bc,hq,rfl,X3,G3,B3⟩:=hrel;obtain ⟨wz,rfl⟩:∃ x,x=wr:=⟨_,rfl⟩;have HX3:=hid X3;have HG3:=hid G3;have HB3:=hid B3;have zz:wx.heap.size<wz.heap.size:=X3.lt;have x9:wz.cell? ⟨w.heap.size,9,none⟩=some (.slice (some ⟨b1,off1,none⟩) d.groups.1 cap1):=((HT1.out.call HB2.out).call B3).b1.cell 9;have c0:wz.cell? ⟨b1,off1+g,none⟩=some (.slice (some ⟨b9,off9,none⟩) (d.groups.2 g).1 cap9):=(B3.cell (p:=⟨b1,off1+g,none⟩) (by show b1<wx.heap.size;omega)).trans HC0'.out;have c3:wz.cell? ⟨b9,off9+k*2+1,none⟩=some (.slice ao5 D.blocks.1 cap5):=(B3.cell (p:=⟨b9,off9+k*2+1,none⟩) (by show b9<wx.heap.size;omega)).trans HC3'.out;have y0:wz.cell? ⟨wx.heap.size,0,none⟩=some (.bool D.wiped):=X3.cell 0;have y1:wz.cell? ⟨wx.heap.size,1,none⟩=some (.slice ba q bc):=X3.cell 1
      by_cases hlq:q<D.blocks.1
      ·obtain ⟨b5,off5,he5,hb5,hel5⟩:=HC5.out (by omega)
       subst he5;obtain ⟨cb,hrb,hcb⟩:=zat (t:=0) hel5 B3 (by omega) hb5 hlq;obtain ⟨ao0,cap0,rfl,-⟩:=zbw hrb;have s0:wz.cell? ⟨b5,off5+q*2,none⟩=some (.int .i64 (D.blocks.2 q).stamp):=hcb 0 (by decide);have s1:wz.cell? ⟨b5,off5+q*2+1,none⟩=some (.slice ao0 (D.blocks.2 q).bytes.1 cap0):=hcb 1 (by decide);have CC:=zfV _ (D.blocks.2 q) hi wz.drew (zaj.rd_below (B:=hi) hrb ⟨rfl,rfl,rfl,Nat.le_refl _,fun _ _=>rfl⟩ (Nat.le_refl _)) (show hi≤wz.heap.size by omega) (HNB.out q hlq)
       have CC:=CC.mono (R':=fun e w'=>∃ bo bcc,e=.returned (.agg #[.int .i64 (D.blocks.2 q).stamp,.slice bo (D.blocks.2 q).bytes.1 bcc])∧OwnT zaj w' wz.drew.heap.size w'.heap.size (D.blocks.2 q) [.int .i64 (D.blocks.2 q).stamp,.slice bo (D.blocks.2 q).bytes.1 bcc]∧Below wz.drew.heap.size wz.drew w') (fun e w' ⟨c5,he,o5,b5'⟩=>by
        obtain ⟨bo,bcc,rfl⟩:=zdL o5
        exact ⟨bo,bcc,he,o5,b5'⟩)
       clear hel5 hcb hrb X3 G3 B3;have KS:∀ w',Below (wx.heap.size+1) wz w'→(w'.cell? ⟨w.heap.size,9,none⟩=some (.slice (some ⟨b1,off1,none⟩) d.groups.1 cap1)∧w'.cell? ⟨b1,off1+g,none⟩=some (.slice (some ⟨b9,off9,none⟩) (d.groups.2 g).1 cap9)∧w'.cell? ⟨b9,off9+k*2+1,none⟩=some (.slice (some ⟨b5,off5,none⟩) D.blocks.1 cap5)∧w'.cell? ⟨b5,off5+q*2,none⟩=some (.int .i64 (D.blocks.2 q).stamp)∧w'.cell? ⟨b5,off5+q*2+1,none⟩=some (.slice ao0 (D.blocks.2 q).bytes.1 cap0)∧w'.cell? ⟨wx.heap.size,1,none⟩=some (.slice ba q bc)):=fun w' hb=>⟨(hb.cell (p:=⟨w.heap.size,9,none⟩) (by show w.heap.size<wx.heap.size+1;omega)).trans x9,(hb.cell (p:=⟨b1,off1+g,none⟩) (by show b1<wx.heap.size+1;omega)).trans c0,(hb.cell (p:=⟨b9,off9+k*2+1,none⟩) (by show b9<wx.heap.size+1;omega)).trans c3,(hb.cell (p:=⟨b5,off5+q*2,none⟩) (by show b5<wx.heap.size+1;omega)).trans s0,(hb.cell (p:=⟨b5,off5+q*2+1,none⟩) (by show b5<wx.heap.size+1;omega)).trans s1,(hb.cell (p:=⟨wx.heap.size,1,none⟩) (Nat.lt_succ_self _)).trans y1⟩
       have i1:(0:Int)≤(g:Int):=by omega
       have i2:(g:Int)<(d.groups.1:Int):=by omega
       have i3:(0:Int)≤(k:Int):=by omega
       have i4:(k:Int)<((d.groups.2 g).1:Int):=by omega
       have i5:(0:Int)≤(q:Int):=by omega
       have i6:(q:Int)<(D.blocks.1:Int):=by omega
       go_upto_region 14 with fail
       refine zbz 18 (fun w'=>w'.cell? ⟨w.heap.size,9,none⟩=some (.slice (some ⟨b1,off1,none⟩) d.groups.1 cap1)∧w'.cell? ⟨b1,off1+g,none⟩=some (.slice (some ⟨b9,off9,none⟩) (d.groups.2 g).1 cap9)∧w'.cell? ⟨b9,off9+k*2+1,none⟩=some (.slice (some ⟨b5,off5,none⟩) D.blocks.1 cap5)∧w'.cell? ⟨b5,off5+q*2,none⟩=some (.int .i64 (D.blocks.2 q).stamp)∧w'.cell? ⟨b5,off5+q*2+1,none⟩=some (.slice ao0 (D.blocks.2 q).bytes.1 cap0)∧w'.cell? ⟨wx.heap.size,1,none⟩=some (.slice ba q bc)) (by kernel_rfl) (KS _ ⟨rfl,rfl,rfl,Nat.le_refl _,fun _ _=>rfl⟩) (fun hHeld=>?_);refine wpAnyL_tv 0 rfl ?_
       try simp only [Act.put,SL]
       refine wpAnyL_tv 1 rfl ?_
       try simp only [Act.put,SL]
       refine wpAnyL_tv 2 rfl ?_
       try simp only [Act.put,SL]
       refine wpAnyL_tv 3 rfl ?_
       try simp only [Act.put,SL]
       refine wpAnyL_tv 4 rfl ?_
       try simp only [Act.put,SL]
       refine wpAnyL_tv 5 rfl ?_
       try simp only [Act.put,SL]
       refine wpAnyL_tv 6 rfl ?_
       try simp only [Act.put,SL]
       refine wpAnyL_tv 7 rfl ?_
       try simp only [Act.put,SL]
       refine wpAnyL_tv 8 rfl ?_
       try simp only [Act.put,SL]
       refine wpAnyL_tv 9 rfl ?_
       try simp only [Act.put,SL]
       refine wpAnyL_tv 10 rfl ?_
       try simp only [Act.put,SL]
       refine wpAnyL_tv 11 rfl ?_
       try simp only [Act.put,SL]
       refine wpAnyL_tv 12 rfl ?_
       try simp only [Act.put,SL]
       refine wpAnyL_tv 13 rfl ?_
       try simp only [Act.put,SL]
       refine zav (i:=14) (o:=_) rfl (by kernel_rfl) (fun K hK=>?_)
       refine za9 rfl 79 _ _ rfl #[.agg #[.int .i64 (D.blocks.2 q).stamp,.slice ao0 (D.blocks.2 q).bytes.1 cap0]] ?_ Tryz.func79 (by kernel_rfl) (by kernel_rfl) CC ?_;(simp [Act.eval,Act.put]);rintro ee w5 ⟨bo,bcc,rfl,o5,b5'⟩;have b5w:Below wz.heap.size wz w5:=⟨b5'.os,b5'.tape,b5'.output,b5'.size,b5'.block⟩;have q1:w5.cell? ⟨wx.heap.size,1,none⟩=some (.slice ba q bc):=(HX3.out.call b5w).cell 1;have q3:=(zcI w5 (.cells #[.int .i64 (D.blocks.2 q).stamp,.slice bo (D.blocks.2 q).bytes.1 bcc] 126) wx.heap.size 1 (by have:=b5w.size;omega)).trans q1;refine ⟨_,rfl,?_⟩
       refine hK.out _ _ (KS _ (b5w.mono (Nat.succ_le_of_lt zz))) (fun hHeld=>?_);clear hK K
       try simp only [Act.put,SL]
       refine zav (i:=15) (o:=_) rfl (by kernel_rfl) (fun K hK=>?_);go_simp;refine hK.out _ _ (KS _ ((b5w.mono (Nat.succ_le_of_lt zz)).alloc (by have:=b5w.size;omega) _)) (fun hHeld=>?_);clear hK K
       try simp only [Act.put,SL]
       refine zav (i:=16) (o:=_) rfl (by kernel_rfl) (fun K hK=>?_)
       refine zeA zgy rfl (.tmp 55) (.tmp 69) rfl (lo:=wx.heap.size+1) (n:=q) (v:=.slice ba q bc) (x:=D.blocks.2) ?_ HG3.out b5w o5 ?_ w5.heap.size 1 ?_ (fun j _=>zcA w5 _ _ j) (by omega) (by omega) ?_;(simp [Act.eval,Act.put]);(exact (Below.refl _ _).alloc (Nat.le_refl _) _);(simp [Act.eval,Act.put]);intro v4 w4 g4 b4;obtain ⟨ba4,bc4,rfl⟩:=g4.form;have X4:=HX3.out.below b4 (Nat.lt_succ_self _);have p1:w4.cell? ⟨wx.heap.size,1,none⟩=some (.slice ba q bc):=X4.cell 1;have p2:w4.frozen? ⟨wx.heap.size,1,none⟩=false:=X4.frozen 1
       refine hK.out _ _ (KS _ b4) (fun hHeld=>?_);clear hK K
       try simp only [Act.put,SL]
       refine zav (i:=17) (o:=_) rfl (by kernel_rfl) (fun K hK=>?_);go_simp;refine hK.out _ _ (KS _ b4) (fun hHeld=>?_);clear hK K
       try simp only [Act.put,SL]
       refine zbx (o:=_) rfl (by kernel_rfl) (fun K hK=>?_);go_simp;refine hK.out _ _ ?_;clear hK K
       try simp only [Act.put,SL]
       refine zby (by kernel_rfl) ?_ _;go_wp2
       go_roundw
       case rel=>exact ⟨q+1,ba4,bc4,by omega,by go_num,X4.setc 1 (.slice ba4 (q+1) bc4),(g4.set _ _ _ (Nat.lt_succ_self _)).congr (fun i _=>by rw [zcF]),(HB3.out.trans (b4.mono (Nat.le_succ _))).setCell (Nat.le_refl _) _⟩
       case measure=>simp [intOf];omega
      ·obtain rfl:q=D.blocks.1:=by omega
       have OD:OwnT zae wz wx.heap.size wz.heap.size D [.bool D.wiped,.slice ba D.blocks.1 bc]:=drive_of' (HG3.out.own.weaken (Nat.le_succ _) (Nat.le_refl _));clear X3 G3 B3
       go_wp2_with (at_builtin;refine zen zgz rfl (.tmp 72) (.tmp 74) rfl (lo:=wo.heap.size) (n:=k) (v:=.slice da k dc) (x:=(d.groups.2 g).2) ?_ HG2'.out HB3.out OD ?_ wz.heap.size 1 ?_ (fun j _=>zcA wz _ _ j) (by omega) (by omega) ?_;(simp [Act.eval]);(exact (Below.refl _ _).alloc (Nat.le_refl _) _);(simp [Act.eval]);intro v4 w4 g4 b4;obtain ⟨da4,dc4,rfl⟩:=g4.form)
       go_roundw
       case rel=>exact ⟨k+1,da4,dc4,by omega,by go_num,rfl,g4.congr (fun i _=>by rw [HD.out,zcF]),HB2.out.trans b4⟩
       case measure=>simp [intOf];omega
    ·obtain rfl:k=(d.groups.2 g).1:=by omega
     have OG:OwnT (zae.slice 124) wx wo.heap.size wx.heap.size (d.groups.2 g) [.slice da (d.groups.2 g).1 dc]:=HG2'.out.own;have T2:=HT1.out.call B2;have e9:wx.cell? ⟨w.heap.size+1+1,9,none⟩=some (.slice ga g gc):=T2.b3.cell 9;have e9':=(zcI wx (.cells #[.slice da (d.groups.2 g).1 dc] 109) (w.heap.size+1+1) 9 (by omega)).trans e9;clear T2 G2 B2
     go_wp2_with (at_builtin;refine zen ze9 rfl (.tmp 77) (.tmp 79) rfl (lo:=w.heap.size+1+1+1) (n:=g) (v:=.slice ga g gc) (x:=d.groups.2) ?_ HG1.out HB2.out OG ?_ wx.heap.size 1 ?_ (fun j _=>zcA wx _ _ j) (by omega) (by omega) ?_;(simp [Act.eval]);(exact (Below.refl _ _).alloc (Nat.le_refl _) _);(simp [Act.eval]);intro v4 w4 g4 b4;obtain ⟨ga4,gc4,rfl⟩:=g4.form;have T4:=HT1.out.low b4;have p1:w4.cell? ⟨w.heap.size+1+1,9,none⟩=some (.slice ga g gc):=T4.b3.cell 9;have p2:w4.frozen? ⟨w.heap.size+1+1,9,none⟩=false:=T4.b3.frozen 9)
     go_roundw
     case rel=>exact ⟨g+1,ga4,gc4,by omega,by go_num,T4.st3 9 [.slice ga4 (g+1) gc4] rfl,(g4.set _ _ _ (by omega)).congr (fun i _=>by rw [zcF])⟩
     case measure=>simp [intOf];omega
  ·obtain rfl:g=d.groups.1:=by omega
   have bA:=bAl wo (.cells #[] 2);have TA:=T1.call bA;obtain ⟨v',w2,hrun,o2,b2⟩:=zeC 25 (wo.alloc (.cells #[] 2)) wo.heap.size (zff wo 2) (zak.rd_below HG2.out TA.bel hhi) (show d.on.1≤10000000 by omega);obtain ⟨oa,oc,hv⟩:=zcu o2;obtain rfl:=za2 hv;clear hv;have T2:Three w w2 (rwW d ao1 cap1 ao2 cap2 ao3 cap3).toArray (rwV 0 0 0 0 0 0 0 0 0 none 0 0 none 0 0 none 0 0 0 0 false).toArray (rwW d ga gc ao2 cap2 ao3 cap3).toArray 38 38 38:=TA.low (b2.mono zo)
   have G2:Gat (zae.slice 124) 109 w2 (w.heap.size+1+1+1) (.slice ga d.groups.1 gc) d.groups.1 d.groups.2:=by
    have h1:Below wo.heap.size wo w2:=bA.trans b2;exact G1.below h1
   have xa:(wo.alloc (.cells #[] 2)).cell? ⟨w.heap.size,10,none⟩=some (.slice ao2 d.on.1 cap2):=TA.b1.cell 10;have xb:w2.cell? ⟨w.heap.size+1+1,10,none⟩=some (.slice ao2 d.on.1 cap2):=T2.b3.cell 10;have xf:w2.frozen? ⟨w.heap.size+1+1,10,none⟩=false:=T2.b3.frozen 10;have T3:=T2.st3 10 [.slice oa d.on.1 oc] (c3':=(rwW d ga gc oa oc ao3 cap3)) rfl;have T4:Three w (stN (stN w2 (w.heap.size+1+1) 10 [.slice oa d.on.1 oc]) (w.heap.size+1+1) 11 [.slice none 0 0]) (rwW d ao1 cap1 ao2 cap2 ao3 cap3).toArray (rwV 0 0 0 0 0 0 0 0 0 none 0 0 none 0 0 none 0 0 0 0 false).toArray #[.int .i64 (d.shape 0),.int .i64 (d.shape 1),.int .i64 (d.shape 2),.int .i64 (d.shape 3),.int .i64 (d.shape 4),.int .i64 (d.shape 5),.int .i64 (d.shape 6),.int .i64 (d.shape 7),.int .i64 (d.shape 8),.slice ga d.groups.1 gc,.slice oa d.on.1 oc,.slice none 0 0,.int .i64 d.writes,.int .i64 d.stop,.bool d.down] 38 38 38:=T3.st3 11 [.slice none 0 0] (c3':=[.int .i64 (d.shape 0),.int .i64 (d.shape 1),.int .i64 (d.shape 2),.int .i64 (d.shape 3),.int .i64 (d.shape 4),.int .i64 (d.shape 5),.int .i64 (d.shape 6),.int .i64 (d.shape 7),.int .i64 (d.shape 8),.slice ga d.groups.1 gc,.slice oa d.on.1 oc,.slice none 0 0,.int .i64 d.writes,.int .i64 d.stop,.bool d.down]) rfl;have O4:=(o2.stN (w.heap.size+1+1) 10 [.slice oa d.on.1 oc] (by omega)).stN (w.heap.size+1+1) 11 [.slice none 0 0] (by omega);have G4:Gat (zae.slice 124) 109 (stN (stN w2 (w.heap.size+1+1) 10 [.slice oa d.on.1 oc]) (w.heap.size+1+1) 11 [.slice none 0 0]) (w.heap.size+1+1+1) (.slice ga d.groups.1 gc) d.groups.1 d.groups.2:=(G2.set _ 10 _ (by omega)).set _ 11 _ (by omega);have xc:(w2.setCell ⟨w.heap.size+1+1,10,none⟩ (.slice oa d.on.1 oc)).cell? ⟨w.heap.size+1+1,11,none⟩=some (.slice ao3 d.tapes.1 cap3):=T3.b3.cell 11;have xg:(w2.setCell ⟨w.heap.size+1+1,10,none⟩ (.slice oa d.on.1 oc)).frozen? ⟨w.heap.size+1+1,11,none⟩=false:=T3.b3.frozen 11;have z2:wo.heap.size≤w2.heap.size:=Nat.le_trans bA.size b2.size
   have ez:(stN (stN w2 (w.heap.size+1+1) 10 [.slice oa d.on.1 oc]) (w.heap.size+1+1) 11 [.slice none 0 0]).heap.size=w2.heap.size:=by rw [zbP,zbP]
   have GO:OwnT ((zae.slice 124).slice 109) wo (w.heap.size+1+1+1) wo.heap.size d.groups [.slice ga d.groups.1 gc]:=G1.own;have GO4:=((GO.call (bA.trans b2)).stN (w.heap.size+1+1) 10 [.slice oa d.on.1 oc] (by omega)).stN (w.heap.size+1+1) 11 [.slice none 0 0] (by omega);clear T1 TA T2 T3 G1 G2 G4 o2 b2 bA GO
   go_upto_region 19 with (at_builtin;refine zdr rfl (.tmp 82) (.tmp 84) rfl ?_ ?_ hrun ?_;(simp [Act.eval]);(simp [Act.eval]))
   obtain ⟨W4,hW4⟩:∃ x,x=stN (stN w2 (w.heap.size+1+1) 10 [.slice oa d.on.1 oc]) (w.heap.size+1+1) 11 [.slice none 0 0]:=⟨_,rfl⟩
   change Code.wp Tryz.prog _ _ _ (stN (stN w2 (w.heap.size+1+1) 10 [.slice oa d.on.1 oc]) (w.heap.size+1+1) 11 [.slice none 0 0])
   rw [← hW4] at T4 O4 GO4 ez ⊢;have HT4:=hid T4;have HO4:=hid O4;have HGO:=hid GO4;clear T4 O4 GO4 hW4 xa xb xf xc xg hrun x9;go_wp2
   go_loopw [9] (fun i wr=>∃ (t:Nat) (ta:Option Addr) (tc:Nat),t≤d.tapes.1∧i=.int .i64 t∧Box wr (w.heap.size+1+1) #[.int .i64 (d.shape 0),.int .i64 (d.shape 1),.int .i64 (d.shape 2),.int .i64 (d.shape 3),.int .i64 (d.shape 4),.int .i64 (d.shape 5),.int .i64 (d.shape 6),.int .i64 (d.shape 7),.int .i64 (d.shape 8),.slice ga d.groups.1 gc,.slice oa d.on.1 oc,.slice ta t tc,.int .i64 d.writes,.int .i64 d.stop,.bool d.down] 38∧Gat zah 112 wr W4.heap.size (.slice ta t tc) t d.tapes.2∧ChgL [w.heap.size+1+1] W4 wr) (fun i _=>d.tapes.1-(intOf i).toNat)
   case atStart=>exact ⟨0,none,0,Nat.zero_le _,rfl,HT4.out.b3,Gat.nil _ _ _,ChgL.refl _ _⟩
   case round=>
    obtain ⟨t,ta,tc,ht,rfl,X5,G5,C5⟩:=hrel;obtain ⟨wx,rfl⟩:∃ x,x=wr:=⟨_,rfl⟩;have T5:Three w wx (rwW d ao1 cap1 ao2 cap2 ao3 cap3).toArray (rwV 0 0 0 0 0 0 0 0 0 none 0 0 none 0 0 none 0 0 0 0 false).toArray #[.int .i64 (d.shape 0),.int .i64 (d.shape 1),.int .i64 (d.shape 2),.int .i64 (d.shape 3),.int .i64 (d.shape 4),.int .i64 (d.shape 5),.int .i64 (d.shape 6),.int .i64 (d.shape 7),.int .i64 (d.shape 8),.slice ga d.groups.1 gc,.slice oa d.on.1 oc,.slice ta t tc,.int .i64 d.writes,.int .i64 d.stop,.bool d.down] 38 38 38:=HT4.out.chgl3 _ X5 C5;have HT5:=hid T5;have HG5:=hid G5;have HC5:=hid C5;have zx:W4.heap.size≤wx.heap.size:=C5.size;have x11:wx.cell? ⟨w.heap.size,11,none⟩=some (.slice ao3 d.tapes.1 cap3):=T5.b1.cell 11;have e11:wx.cell? ⟨w.heap.size+1+1,11,none⟩=some (.slice ta t tc):=T5.b3.cell 11
    by_cases hlt:t<d.tapes.1
    ·obtain ⟨b3,off3,he3,hb3,hel3⟩:=HC3.out (by omega)
     subst he3;obtain ⟨ct,hrt,hct⟩:=zat (t:=0) hel3 T5.bel hhi hb3 hlt;obtain ⟨ao7,cap7,rfl,g7⟩:=zbb hrt;have c0:wx.cell? ⟨b3,off3+t*2,none⟩=some (.bool (d.tapes.2 t).wiped):=hct 0 (by decide);have c1:wx.cell? ⟨b3,off3+t*2+1,none⟩=some (.slice ao7 (d.tapes.2 t).recs.1 cap7):=hct 1 (by decide);have HCA:=hid c0;have CC:=zgU _ (d.tapes.2 t).recs hi wx.drew ((zab.slice 72).rd_below (B:=hi) g7 ⟨rfl,rfl,rfl,Nat.le_refl _,fun _ _=>rfl⟩ (Nat.le_refl _)) (show hi≤wx.heap.size by omega) (HNT.out t hlt)
     have CC:=CC.mono (R':=fun e w'=>∃ ra rc,e=.returned (.slice ra (d.tapes.2 t).recs.1 rc)∧OwnT (zab.slice 72) w' wx.drew.heap.size w'.heap.size (d.tapes.2 t).recs [.slice ra (d.tapes.2 t).recs.1 rc]∧Below wx.drew.heap.size wx.drew w') (fun e w' ⟨v5,he,o5,b5'⟩=>by
      obtain ⟨ra,rc,hv5⟩:=zbZ o5;obtain rfl:=za2 hv5
      exact ⟨ra,rc,he,o5,b5'⟩)
     clear hel3 hct hrt g7 X5 G5 C5 T5;have KS:∀ w',Below (w.heap.size+1+1+1) wx w'→(w'.cell? ⟨w.heap.size,11,none⟩=some (.slice (some ⟨b3,off3,none⟩) d.tapes.1 cap3)∧w'.cell? ⟨b3,off3+t*2,none⟩=some (.bool (d.tapes.2 t).wiped)∧w'.cell? ⟨b3,off3+t*2+1,none⟩=some (.slice ao7 (d.tapes.2 t).recs.1 cap7)∧w'.cell? ⟨w.heap.size+1+1,11,none⟩=some (.slice ta t tc)):=fun w' hb=>⟨(hb.cell (p:=⟨w.heap.size,11,none⟩) (by show w.heap.size<w.heap.size+1+1+1;omega)).trans x11,(hb.cell (p:=⟨b3,off3+t*2,none⟩) (by show b3<w.heap.size+1+1+1;omega)).trans c0,(hb.cell (p:=⟨b3,off3+t*2+1,none⟩) (by show b3<w.heap.size+1+1+1;omega)).trans c1,(hb.cell (p:=⟨w.heap.size+1+1,11,none⟩) (Nat.lt_succ_self _)).trans e11⟩
     have i1:(0:Int)≤(t:Int):=by omega
     have i2:(t:Int)<(d.tapes.1:Int):=by omega
     go_upto_region 22 with fail
     refine zbz 19 (fun w'=>w'.cell? ⟨w.heap.size,11,none⟩=some (.slice (some ⟨b3,off3,none⟩) d.tapes.1 cap3)∧w'.cell? ⟨b3,off3+t*2,none⟩=some (.bool (d.tapes.2 t).wiped)∧w'.cell? ⟨b3,off3+t*2+1,none⟩=some (.slice ao7 (d.tapes.2 t).recs.1 cap7)∧w'.cell? ⟨w.heap.size+1+1,11,none⟩=some (.slice ta t tc)) (by kernel_rfl) (KS _ ⟨rfl,rfl,rfl,Nat.le_refl _,fun _ _=>rfl⟩) (fun hHeld=>?_);refine wpAnyL_tv 0 rfl ?_
     try simp only [Act.put,SL]
     refine wpAnyL_tv 1 rfl ?_
     try simp only [Act.put,SL]
     refine wpAnyL_tv 2 rfl ?_
     try simp only [Act.put,SL]
     refine wpAnyL_tv 3 rfl ?_
     try simp only [Act.put,SL]
     refine wpAnyL_tv 4 rfl ?_
     try simp only [Act.put,SL]
     refine wpAnyL_tv 5 rfl ?_
     try simp only [Act.put,SL]
     refine wpAnyL_tv 6 rfl ?_
     try simp only [Act.put,SL]
     refine wpAnyL_tv 7 rfl ?_
     try simp only [Act.put,SL]
     refine wpAnyL_tv 8 rfl ?_
     try simp only [Act.put,SL]
     refine wpAnyL_tv 9 rfl ?_
     try simp only [Act.put,SL]
     refine wpAnyL_tv 10 rfl ?_
     try simp only [Act.put,SL]
     refine wpAnyL_tv 11 rfl ?_
     try simp only [Act.put,SL]
     refine wpAnyL_tv 12 rfl ?_
     try simp only [Act.put,SL]
     refine wpAnyL_tv 13 rfl ?_
     try simp only [Act.put,SL]
     refine zav (i:=14) (o:=_) rfl (by kernel_rfl) (fun K hK=>?_)
     refine za9 rfl 80 _ _ rfl #[.slice ao7 (d.tapes.2 t).recs.1 cap7] ?_ Tryz.func80 (by kernel_rfl) (by kernel_rfl) CC ?_;(simp [Act.eval,Act.put]);rintro ee w5 ⟨ra,rc,rfl,o5,b5'⟩;have b5w:Below wx.heap.size wx w5:=⟨b5'.os,b5'.tape,b5'.output,b5'.size,b5'.block⟩;have T6:=HT5.out.call b5w;have q1:w5.cell? ⟨w.heap.size+1+1,11,none⟩=some (.slice ta t tc):=T6.b3.cell 11;have q3:=(zcI w5 (.cells #[.bool (d.tapes.2 t).wiped,.slice ra (d.tapes.2 t).recs.1 rc] 112) (w.heap.size+1+1) 11 (by have:=b5w.size;omega)).trans q1;clear T6;refine ⟨_,rfl,?_⟩
     refine hK.out _ _ (KS _ (b5w.mono (by omega))) (fun hHeld=>?_);clear hK K
     try simp only [Act.put,SL]
     refine wpAnyL_tv 15 rfl ?_
     try simp only [Act.put,SL]
     refine zav (i:=16) (o:=_) rfl (by kernel_rfl) (fun K hK=>?_);go_simp;refine hK.out _ _ (KS _ ((b5w.mono (by omega)).alloc (by have:=b5w.size;omega) _)) (fun hHeld=>?_);clear hK K
     try simp only [Act.put,SL]
     refine zav (i:=17) (o:=_) rfl (by kernel_rfl) (fun K hK=>?_)
     refine zeA ziI rfl (.tmp 96) (.tmp 111) rfl (lo:=W4.heap.size) (n:=t) (v:=.slice ta t tc) (x:=d.tapes.2) ?_ HG5.out b5w (tape_of' o5) ?_ w5.heap.size 1 ?_ (fun j _=>zcA w5 _ _ j) (by omega) (by omega) ?_;(simp [Act.eval,Act.put]);(exact (Below.refl _ _).alloc (Nat.le_refl _) _);(simp [Act.eval,Act.put]);intro v4 w4 g4 b4;obtain ⟨ta4,tc4,rfl⟩:=g4.form;have X4:=HT5.out.b3.below b4 (by omega);have p1:w4.cell? ⟨w.heap.size+1+1,11,none⟩=some (.slice ta t tc):=X4.cell 11;have p2:w4.frozen? ⟨w.heap.size+1+1,11,none⟩=false:=X4.frozen 11
     refine hK.out _ _ (KS _ (b4.mono (by omega))) (fun hHeld=>?_);clear hK K
     try simp only [Act.put,SL]
     refine zav (i:=18) (o:=_) rfl (by kernel_rfl) (fun K hK=>?_);go_simp;refine hK.out _ _ (KS _ (b4.mono (by omega))) (fun hHeld=>?_);clear hK K
     try simp only [Act.put,SL]
     refine zbx (o:=_) rfl (by kernel_rfl) (fun K hK=>?_);go_simp;refine hK.out _ _ ?_;clear hK K
     try simp only [Act.put,SL]
     refine zby (by kernel_rfl) ?_ _;go_wp2
     go_roundw
     case rel=>exact ⟨t+1,ta4,tc4,by omega,by go_num,X4.stL [.slice ta4 (t+1) tc4] 11,(g4.set _ _ _ (by omega)).congr (fun i _=>by rw [zcF]),(HC5.out.after b4).st (w.heap.size+1+1) 11 _ (by simp)⟩
     case measure=>simp [intOf];omega
    ·obtain rfl:t=d.tapes.1:=by omega
     clear X5 e11
     have F0:OwnT zad wx (w.heap.size+1+1+1) wx.heap.size d (rwW d ga gc oa oc ta tc):=by
      have C5':=C5;clear T5 G5 C5;have F:OwnT zad wx (w.heap.size+1+1+1) wx.heap.size d ((rwS d.shape)++([.slice ga d.groups.1 gc]++([.slice oa d.on.1 oc]++([.slice ta d.tapes.1 tc]++([.int .i64 d.writes]++([.int .i64 d.stop]++[.bool d.down])))))):=OwnT.conv (OwnT.pre (A:=(zej 9)) (a:=d.shape) (c:=(rwS d.shape)) ⟨rfl,Q0.out,rfl⟩ (OwnT.two (HGO.out.chgl HC5.out (fun b hb=>by simp at hb;omega)) (OwnT.two (HO4.out.chgl HC5.out (fun b hb=>by simp at hb;omega)) (OwnT.two (HG5.out.own.weaken (show w2.heap.size≤W4.heap.size by omega) (Nat.le_refl _)) (OwnT.pre (A:=layI) (a:=d.writes) (c:=[.int .i64 d.writes]) ⟨rfl,Q4.out,rfl⟩ (OwnT.pre (A:=layI) (a:=d.stop) (c:=[.int .i64 d.stop]) ⟨rfl,Q5.out,rfl⟩ (OwnT.nil (A:=layB) (a:=d.down) (c:=[.bool d.down]) ⟨rfl,trivial,rfl⟩ wx.heap.size wx.heap.size))) (Nat.le_refl _) (by omega) (Nat.le_refl _)) (by omega) (by omega) (by omega)) (by omega) (by omega) (by omega)));exact F
     have HF:=hid F0;clear G5 C5
     go_wp2_with (first | (refine zai 38 (.tmp 3) rfl rfl (w.heap.size+1+1) rfl T5.b3 Tryz.underlying38 zbk rfl ?_) | (refine zaF 38 _ _ rfl rfl (w.heap.size+1) rfl (cs:=(rwW d ga gc oa oc ta tc)) rfl T5.b2 zbk rfl rfl F0.one ?_;intro w9 X9 C9 z9))
     refine zbl Tryz.results47 rfl X9 Tryz.underlying38 zbk rfl rfl ?_;refine ⟨(rwW d ga gc oa oc ta tc),rfl,?_,?_⟩
     ·exact (HF.out.chgk C9 (fun b hb=>by simp at hb;omega)).weaken (by omega) C9.size
     ·exact T5.bel.trans (C9.bel (fun b hb=>by simp at hb;omega) T5.bel.size)
theorem zmw (w:World) (b i j:Nat) (u:Value) (h:i≠j):(w.setCell ⟨b,i,none⟩ u).cell? ⟨b,j,none⟩=w.cell? ⟨b,j,none⟩:=by
 unfold World.setCell World.cell?
 simp only [Array.getElem?_modify]
 cases w.heap[b]? with
 | none=>rfl
 | some o=>cases o<;>simp [Array.getElem?_setIfInBounds,h]
theorem zkD (w:World) (a:Addr) (b:Addr) (u:Value):(w.setCell a u).frozen? b=w.frozen? b:=by
 unfold World.setCell World.frozen?
 simp only [Array.getElem?_modify]
 by_cases h:a.block=b.block
 ·rw [if_pos h]
  cases w.heap[b.block]? with
  | none=>rfl
  | some o=>cases o<;>rfl
 ·rw [if_neg h]
theorem zia (w:World) (b i j:Nat) (u v:Value) (h:i≠j):(w.setCell ⟨b,i,none⟩ u).setCell ⟨b,j,none⟩ v=(w.setCell ⟨b,j,none⟩ v).setCell ⟨b,i,none⟩ u:=by
 have hh:((w.setCell ⟨b,i,none⟩ u).setCell ⟨b,j,none⟩ v).heap=((w.setCell ⟨b,j,none⟩ v).setCell ⟨b,i,none⟩ u).heap:=by
  unfold World.setCell
  apply Array.ext_getElem?
  intro k
  simp only [Array.getElem?_modify]
  split
  ·cases w.heap[k]? with
   | none=>rfl
   | some o=>cases o<;>simp [Array.setIfInBounds_comm _ _ h]
  ·rfl
 show ({ w with heap:=((w.setCell ⟨b,i,none⟩ u).setCell ⟨b,j,none⟩ v).heap }:World)={ w with heap:=((w.setCell ⟨b,j,none⟩ v).setCell ⟨b,i,none⟩ u).heap }
 rw [hh]
set_option maxRecDepth 20000 in
theorem zeh (B:Nat) (d:WorldD) (K:List Nat) (T:Nat) (hT2:T<2) (r:RecD) (o6 o7 o8:Option Addr) (k6 k7 k8 hi:Nat) (w:World) (hX:SpB w B d K) (hf:Fit3 1 d) (hr:∀ w',ChgL [B] w w'→zab.rd w' hi r [.int .i64 r.kind,.int .i64 r.seq,.string r.name,.int .i64 r.length,.int .i64 r.group,.int .i64 r.row,.slice o6 r.rows.1 k6,.slice o7 r.data.1 k7,.slice o8 r.delta.1 k8]) (hhi:hi≤w.heap.size) (hsr:zaG r≤1048576) :
 Calls Tryz.prog 176 #[.pointer (some ⟨B,0,none⟩),.int .i64 (T:Int),.agg #[.int .i64 r.kind,.int .i64 r.seq,.string r.name,.int .i64 r.length,.int .i64 r.group,.int .i64 r.row,.slice o6 r.rows.1 k6,.slice o7 r.data.1 k7,.slice o8 r.delta.1 k8]] w (SpP (zaK r T d) B w K):=by
 have T0:=zaI w #[.int .i64 r.kind,.int .i64 r.seq,.string r.name,.int .i64 r.length,.int .i64 r.group,.int .i64 r.row,.slice o6 r.rows.1 k6,.slice o7 r.data.1 k7,.slice o8 r.delta.1 k8] 72
 have X0:SpB (w.alloc (.cells #[.int .i64 r.kind,.int .i64 r.seq,.string r.name,.int .i64 r.length,.int .i64 r.group,.int .i64 r.row,.slice o6 r.rows.1 k6,.slice o7 r.data.1 k7,.slice o8 r.delta.1 k8] 72)) B d K:=by
  obtain ⟨cs,h1,h2⟩:=hX;exact ⟨cs,h1.below T0.bel h1.lt,Lay.own_kept _ h2.own (fun b hk=>T0.bel.block b (zad.own_lt h2.own b hk)),h2.nd,h2.ne⟩
 have CR:=zmu B d K _ X0 hf.up (by have:=hf.low;have:=hf.room;omega);have hBl0:=hX.lt;have HF:Hid (Fit3 1 d):=hf;have HRR:Hid (∀ w',ChgL [B] w w'→zab.rd w' hi r [.int .i64 r.kind,.int .i64 r.seq,.string r.name,.int .i64 r.length,.int .i64 r.group,.int .i64 r.row,.slice o6 r.rows.1 k6,.slice o7 r.data.1 k7,.slice o8 r.delta.1 k8]):=hr
 have HK:Hid (∀ b,b∈K→b<w.heap.size):=by
  obtain ⟨cs,h1,h2⟩:=hX;exact fun b hb=>zad.own_lt h2.own b hb
 clear hX hf hr X0
 go_enter Tryz.func176,Tryz.ntmps176
 go_wp2_with fail
 refine CR.mono ?_;rintro e w5 (⟨hfl,rfl,⟨K5,X5,s5⟩,C5⟩ | ⟨hfl,rfl,X5,C5⟩)
 ·clear CR
  go_wp2;go_ret
  have e:zaK r T d=.cut d:=by unfold zaK rawO;rw [if_pos hfl]
  rw [e];exact ⟨rfl,K5,X5,fun b hb=>.inl (s5 b hb),(ChgL.of_below T0.bel).trans (C5.mono (fun b hb=>by simp at hb;simp [hb]))⟩
 ·have HFL:Hid (¬ (d.stop≠-1∧d.stop≤d.writes)):=hfl
  have z5:=C5.size
  have sA:(w.alloc (.cells #[.int .i64 r.kind,.int .i64 r.seq,.string r.name,.int .i64 r.length,.int .i64 r.group,.int .i64 r.row,.slice o6 r.rows.1 k6,.slice o7 r.data.1 k7,.slice o8 r.delta.1 k8] 72)).heap.size=w.heap.size+1:=by simp
  have HC5:Hid (ChgL (B::K) w w5):=(ChgL.of_below T0.bel).trans (C5.mono (fun b hb=>by simp at hb;simp [hb]));have Q5:=T0.b1.chgl C5 (by simp;omega);have bB5:ChgL [B] w w5.drew:=((ChgL.of_below T0.bel).trans C5).drew;clear CR hfl C5;obtain ⟨cs5,B5,O5⟩:=X5;have O5d:EncO w5.drew B { d with writes:=d.writes+1 } cs5 K:=O5.chg (ChgL.refl [B] _).drew;obtain ⟨p1,c1,p2,c2,p3,c3,K1',K2',K3',rfl,rfl,WO⟩:=O5d.open;have two:=HF.out.two;obtain ⟨gt,cap,ce,Ls,e3,eL,S3⟩:=zcb WO.t (by show d.tapes.1≠0;omega)
  simp only [List.cons.injEq,Value.slice.injEq,and_true,true_and] at e3
  obtain ⟨rfl,rfl⟩:=e3;subst eL
  have hT:T<d.tapes.1:=by omega
  have hn:(d.tapes.2 T).recs.1≤1048576:=by have:=HF.out.few T hT2;omega
  have nd3:(gt::catN d.tapes.1 Ls).Nodup:=(List.nodup_append.1 (List.nodup_append.1 WO.nd).2.1).2.1;obtain ⟨ao9,cap9,K9,e9,eK9,o9⟩:=zeS (S3.each T hT)
  have nd9:K9.Nodup:=by rw [← eK9];exact zfD (List.nodup_cons.1 nd3).2 hT
  have inK:∀ b,b∈gt::catN d.tapes.1 Ls→b∈K1'++(K2'++(gt::catN d.tapes.1 Ls)):=fun b hb=>List.mem_append_right _ (List.mem_append_right _ hb);have in9:∀ b,b∈K9→b∈gt::catN d.tapes.1 Ls:=fun b hb=>SlO.sub T hT b (by rw [eK9];exact hb);have hgt:gt∉K9:=fun hb=>(List.nodup_cons.1 nd3).1 (zaL.2 ⟨T,hT,by rw [eK9];exact hb⟩);have hB9:B∉K9:=fun hb=>O5.ne (inK _ (in9 _ hb))
  have hq9:w.heap.size∉K9:=fun hb=>by have:=HK.out _ (inK _ (in9 _ hb));omega
  have x11:w5.drew.cell? ⟨B,11,none⟩=some (.slice (some ⟨gt,0,none⟩) d.tapes.1 c3):=B5.cell 11;have y0:w5.drew.cell? ⟨gt,T*2,none⟩=some (.bool (d.tapes.2 T).wiped):=(S3.cell hT (j:=0) (by decide)).trans (by rw [e9];rfl);have y1:w5.drew.cell? ⟨gt,T*2+1,none⟩=some (.slice ao9 (d.tapes.2 T).recs.1 cap9):=(S3.cell hT (j:=1) (by decide)).trans (by rw [e9];rfl);have hgl:gt<w5.drew.heap.size:=S3.lt;have hbl:B<w5.drew.heap.size:=B5.lt;have hql:w.heap.size<w5.drew.heap.size:=Q5.lt;have KS:∀ w',ChgL K9 w5.drew w'→(w'.cell? ⟨B,11,none⟩=some (.slice (some ⟨gt,0,none⟩) d.tapes.1 c3)∧w'.cell? ⟨gt,T*2+1,none⟩=some (.slice ao9 (d.tapes.2 T).recs.1 cap9)∧w'.cell? ⟨w.heap.size,0,none⟩=some (.int .i64 r.kind)∧w'.cell? ⟨w.heap.size,1,none⟩=some (.int .i64 r.seq)∧w'.cell? ⟨w.heap.size,2,none⟩=some (.string r.name)∧w'.cell? ⟨w.heap.size,3,none⟩=some (.int .i64 r.length)∧w'.cell? ⟨w.heap.size,4,none⟩=some (.int .i64 r.group)∧w'.cell? ⟨w.heap.size,5,none⟩=some (.int .i64 r.row)∧w'.cell? ⟨w.heap.size,6,none⟩=some (.slice o6 r.rows.1 k6)∧w'.cell? ⟨w.heap.size,7,none⟩=some (.slice o7 r.data.1 k7)∧w'.cell? ⟨w.heap.size,8,none⟩=some (.slice o8 r.delta.1 k8)):=fun w' hc=>⟨(World.cell?_of_block (hc.block B hbl hB9)).trans x11,(World.cell?_of_block (hc.block gt hgl hgt)).trans y1,(World.cell?_of_block (hc.block w.heap.size hql hq9)).trans (Q5.cell 0),(World.cell?_of_block (hc.block w.heap.size hql hq9)).trans (Q5.cell 1),(World.cell?_of_block (hc.block w.heap.size hql hq9)).trans (Q5.cell 2),(World.cell?_of_block (hc.block w.heap.size hql hq9)).trans (Q5.cell 3),(World.cell?_of_block (hc.block w.heap.size hql hq9)).trans (Q5.cell 4),(World.cell?_of_block (hc.block w.heap.size hql hq9)).trans (Q5.cell 5),(World.cell?_of_block (hc.block w.heap.size hql hq9)).trans (Q5.cell 6),(World.cell?_of_block (hc.block w.heap.size hql hq9)).trans (Q5.cell 7),(World.cell?_of_block (hc.block w.heap.size hql hq9)).trans (Q5.cell 8)⟩
  have CC:=(zeI [.int .i64 r.kind,.int .i64 r.seq,.string r.name,.int .i64 r.length,.int .i64 r.group,.int .i64 r.row,.slice o6 r.rows.1 k6,.slice o7 r.data.1 k7,.slice o8 r.delta.1 k8] r hi w5.drew (HRR.out _ bB5) (Nat.le_trans hhi bB5.size) hsr).mono (R':=fun e w'=>∃ s6 m6 s7 m7 s8 m8,e=.returned (.agg #[.int .i64 r.kind,.int .i64 r.seq,.string r.name,.int .i64 r.length,.int .i64 r.group,.int .i64 r.row,.slice s6 r.rows.1 m6,.slice s7 r.data.1 m7,.slice s8 r.delta.1 m8])∧OwnT zab w' w5.drew.heap.size w'.heap.size r [.int .i64 r.kind,.int .i64 r.seq,.string r.name,.int .i64 r.length,.int .i64 r.group,.int .i64 r.row,.slice s6 r.rows.1 m6,.slice s7 r.data.1 m7,.slice s8 r.delta.1 m8]∧Below w5.drew.heap.size w5.drew w') (fun e w' ⟨cs',he,o5,b5⟩=>by
   obtain ⟨s6,m6,s7,m7,s8,m8,rfl⟩:=zgh o5
   exact ⟨s6,m6,s7,m7,s8,m8,he,o5,b5⟩)
  have AP:=fun (W:World) (hW:Below w5.drew.heap.size w5.drew W) (La:List Nat) (cs:List Value) (ha:zab.own W r cs La)=>zlH o9 nd9 (Nat.le_trans hn (by decide)) hW ha
  have i1:(0:Int)≤(T:Int):=by omega
  have i2:(T:Int)<(d.tapes.1:Int):=by omega
  have HNE:Hid (B∉K1'++(K2'++(gt::catN d.tapes.1 Ls))):=O5.ne;have HBX:Hid (Box w5.drew B _ 38):=B5;clear two O5d O5 B5
  go_upto_region 3 with fail
  refine zbz 19 (fun w'=>w'.cell? ⟨B,11,none⟩=some (.slice (some ⟨gt,0,none⟩) d.tapes.1 c3)∧w'.cell? ⟨gt,T*2+1,none⟩=some (.slice ao9 (d.tapes.2 T).recs.1 cap9)∧w'.cell? ⟨w.heap.size,0,none⟩=some (.int .i64 r.kind)∧w'.cell? ⟨w.heap.size,1,none⟩=some (.int .i64 r.seq)∧w'.cell? ⟨w.heap.size,2,none⟩=some (.string r.name)∧w'.cell? ⟨w.heap.size,3,none⟩=some (.int .i64 r.length)∧w'.cell? ⟨w.heap.size,4,none⟩=some (.int .i64 r.group)∧w'.cell? ⟨w.heap.size,5,none⟩=some (.int .i64 r.row)∧w'.cell? ⟨w.heap.size,6,none⟩=some (.slice o6 r.rows.1 k6)∧w'.cell? ⟨w.heap.size,7,none⟩=some (.slice o7 r.data.1 k7)∧w'.cell? ⟨w.heap.size,8,none⟩=some (.slice o8 r.delta.1 k8)) (by kernel_rfl) (KS _ (ChgL.refl _ _)) (fun hHeld=>?_);refine zac (i:=0) (oi:=_) (v:=?_) 16 rfl (by kernel_rfl) (fun _ _ _ h=>h) (Or.inl ⟨by rfl,?_⟩) (by assumption) ?_
  rotate_left
  ·intro w' hSw
   try dsimp only at hSw
   obtain ⟨hq0,hq1,hq2,hq3,hq4,hq5,hq6,hq7,hq8,hq9,hq10⟩:=hSw;go_simp
   try with_reducible rfl
  try simp only [Act.put,SL]
  refine zac (i:=1) (oi:=_) (v:=?_) 16 rfl (by kernel_rfl) (fun _ _ _ h=>h) (Or.inl ⟨by rfl,?_⟩) (by assumption) ?_
  rotate_left
  ·intro w' hSw
   try dsimp only at hSw
   obtain ⟨hq0,hq1,hq2,hq3,hq4,hq5,hq6,hq7,hq8,hq9,hq10⟩:=hSw;go_simp
   try with_reducible rfl
  try simp only [Act.put,SL]
  refine zac (i:=2) (oi:=_) (v:=?_) 16 rfl (by kernel_rfl) (fun _ _ _ h=>h) (Or.inl ⟨by rfl,?_⟩) (by assumption) ?_
  rotate_left
  ·intro w' hSw
   try dsimp only at hSw
   obtain ⟨hq0,hq1,hq2,hq3,hq4,hq5,hq6,hq7,hq8,hq9,hq10⟩:=hSw;go_simp
   try with_reducible rfl
  try simp only [Act.put,SL]
  refine zac (i:=3) (oi:=_) (v:=?_) 16 rfl (by kernel_rfl) (fun _ _ _ h=>h) (Or.inl ⟨by rfl,?_⟩) (by assumption) ?_
  rotate_left
  ·intro w' hSw
   try dsimp only at hSw
   obtain ⟨hq0,hq1,hq2,hq3,hq4,hq5,hq6,hq7,hq8,hq9,hq10⟩:=hSw;go_simp
   try with_reducible rfl
  try simp only [Act.put,SL]
  refine zac (i:=4) (oi:=_) (v:=?_) 16 rfl (by kernel_rfl) (fun _ _ _ h=>h) (Or.inl ⟨by rfl,?_⟩) (by assumption) ?_
  rotate_left
  ·intro w' hSw
   try dsimp only at hSw
   obtain ⟨hq0,hq1,hq2,hq3,hq4,hq5,hq6,hq7,hq8,hq9,hq10⟩:=hSw;go_simp
   try with_reducible rfl
  try simp only [Act.put,SL]
  refine zac (i:=5) (oi:=_) (v:=?_) 16 rfl (by kernel_rfl) (fun _ _ _ h=>h) (Or.inl ⟨by rfl,?_⟩) (by assumption) ?_
  rotate_left
  ·intro w' hSw
   try dsimp only at hSw
   obtain ⟨hq0,hq1,hq2,hq3,hq4,hq5,hq6,hq7,hq8,hq9,hq10⟩:=hSw;go_simp
   try with_reducible rfl
  try simp only [Act.put,SL]
  refine zac (i:=6) (oi:=_) (v:=?_) 16 rfl (by kernel_rfl) (fun _ _ _ h=>h) (Or.inl ⟨by rfl,?_⟩) (by assumption) ?_
  rotate_left
  ·intro w' hSw
   try dsimp only at hSw
   obtain ⟨hq0,hq1,hq2,hq3,hq4,hq5,hq6,hq7,hq8,hq9,hq10⟩:=hSw;go_simp
   try with_reducible rfl
  try simp only [Act.put,SL]
  refine zac (i:=7) (oi:=_) (v:=?_) 16 rfl (by kernel_rfl) (fun _ _ _ h=>h) (Or.inl ⟨by rfl,?_⟩) (by assumption) ?_
  rotate_left
  ·intro w' hSw
   try dsimp only at hSw
   obtain ⟨hq0,hq1,hq2,hq3,hq4,hq5,hq6,hq7,hq8,hq9,hq10⟩:=hSw;go_simp
   try with_reducible rfl
  try simp only [Act.put,SL]
  refine zac (i:=8) (oi:=_) (v:=?_) 16 rfl (by kernel_rfl) (fun _ _ _ h=>h) (Or.inl ⟨by rfl,?_⟩) (by assumption) ?_
  rotate_left
  ·intro w' hSw
   try dsimp only at hSw
   obtain ⟨hq0,hq1,hq2,hq3,hq4,hq5,hq6,hq7,hq8,hq9,hq10⟩:=hSw;go_simp
   try with_reducible rfl
  try simp only [Act.put,SL]
  refine zac (i:=9) (oi:=_) (v:=?_) 16 rfl (by kernel_rfl) (fun _ _ _ h=>h) (Or.inl ⟨by rfl,?_⟩) (by assumption) ?_
  rotate_left
  ·intro w' hSw
   try dsimp only at hSw
   obtain ⟨hq0,hq1,hq2,hq3,hq4,hq5,hq6,hq7,hq8,hq9,hq10⟩:=hSw;go_simp
   try with_reducible rfl
  try simp only [Act.put,SL]
  refine zac (i:=10) (oi:=_) (v:=?_) 16 rfl (by kernel_rfl) (fun _ _ _ h=>h) (Or.inl ⟨by rfl,?_⟩) (by assumption) ?_
  rotate_left
  ·intro w' hSw
   try dsimp only at hSw
   obtain ⟨hq0,hq1,hq2,hq3,hq4,hq5,hq6,hq7,hq8,hq9,hq10⟩:=hSw;go_simp
   try with_reducible rfl
  try simp only [Act.put,SL]
  refine zac (i:=11) (oi:=_) (v:=?_) 16 rfl (by kernel_rfl) (fun _ _ _ h=>h) (Or.inl ⟨by rfl,?_⟩) (by assumption) ?_
  rotate_left
  ·intro w' hSw
   try dsimp only at hSw
   obtain ⟨hq0,hq1,hq2,hq3,hq4,hq5,hq6,hq7,hq8,hq9,hq10⟩:=hSw;go_simp
   try with_reducible rfl
  try simp only [Act.put,SL]
  refine zac (i:=12) (oi:=_) (v:=?_) 16 rfl (by kernel_rfl) (fun _ _ _ h=>h) (Or.inl ⟨by rfl,?_⟩) (by assumption) ?_
  rotate_left
  ·intro w' hSw
   try dsimp only at hSw
   obtain ⟨hq0,hq1,hq2,hq3,hq4,hq5,hq6,hq7,hq8,hq9,hq10⟩:=hSw;go_simp
   try with_reducible rfl
  try simp only [Act.put,SL]
  refine zac (i:=13) (oi:=_) (v:=?_) 16 rfl (by kernel_rfl) (fun _ _ _ h=>h) (Or.inl ⟨by rfl,?_⟩) (by assumption) ?_
  rotate_left
  ·intro w' hSw
   try dsimp only at hSw
   obtain ⟨hq0,hq1,hq2,hq3,hq4,hq5,hq6,hq7,hq8,hq9,hq10⟩:=hSw;go_simp
   try with_reducible rfl
  try simp only [Act.put,SL]
  refine zav (i:=14) (o:=_) rfl (by kernel_rfl) (fun KC hKC=>?_)
  refine za9 rfl 125 _ _ rfl #[.agg #[.int .i64 r.kind,.int .i64 r.seq,.string r.name,.int .i64 r.length,.int .i64 r.group,.int .i64 r.row,.slice o6 r.rows.1 k6,.slice o7 r.data.1 k7,.slice o8 r.delta.1 k8]] ?_ Tryz.func125 (by kernel_rfl) (by kernel_rfl) CC ?_;(simp [Act.eval,Act.put]);rintro ee w5a ⟨s6,m6,s7,m7,s8,m8,rfl,o5,b5⟩;have k5:=KS w5a (ChgL.of_below b5);have bA:Below w5a.heap.size w5a (w5a.alloc (.cells #[.int .i64 r.kind,.int .i64 r.seq,.string r.name,.int .i64 r.length,.int .i64 r.group,.int .i64 r.row,.slice s6 r.rows.1 m6,.slice s7 r.data.1 m7,.slice s8 r.delta.1 m8] 72)):=(Below.refl _ _).alloc (Nat.le_refl _) _;have kA:=KS _ (ChgL.of_below (b5.trans (bA.mono b5.size)));obtain ⟨La,a1,a2,a3⟩:=o5;have e1:Below w5.drew.heap.size w5.drew (w5a.alloc (.cells #[.int .i64 r.kind,.int .i64 r.seq,.string r.name,.int .i64 r.length,.int .i64 r.group,.int .i64 r.row,.slice s6 r.rows.1 m6,.slice s7 r.data.1 m7,.slice s8 r.delta.1 m8] 72)):=b5.trans (bA.mono b5.size);have e2:zab.own (w5a.alloc (.cells #[.int .i64 r.kind,.int .i64 r.seq,.string r.name,.int .i64 r.length,.int .i64 r.group,.int .i64 r.row,.slice s6 r.rows.1 m6,.slice s7 r.data.1 m7,.slice s8 r.delta.1 m8] 72)) r [.int .i64 r.kind,.int .i64 r.seq,.string r.name,.int .i64 r.length,.int .i64 r.group,.int .i64 r.row,.slice s6 r.rows.1 m6,.slice s7 r.data.1 m7,.slice s8 r.delta.1 m8] La:=zab.own_kept a1 (fun b hb=>bA.block b (a3 b hb).2);have e3:∀ b,b∈La→w5.drew.heap.size≤b:=fun b hb=>(a3 b hb).1;have e4:=zcA w5a [.int .i64 r.kind,.int .i64 r.seq,.string r.name,.int .i64 r.length,.int .i64 r.group,.int .i64 r.row,.slice s6 r.rows.1 m6,.slice s7 r.data.1 m7,.slice s8 r.delta.1 m8] 72;have e5:=AP (w5a.alloc (.cells #[.int .i64 r.kind,.int .i64 r.seq,.string r.name,.int .i64 r.length,.int .i64 r.group,.int .i64 r.row,.slice s6 r.rows.1 m6,.slice s7 r.data.1 m7,.slice s8 r.delta.1 m8] 72)) e1 La [.int .i64 r.kind,.int .i64 r.seq,.string r.name,.int .i64 r.length,.int .i64 r.group,.int .i64 r.row,.slice s6 r.rows.1 m6,.slice s7 r.data.1 m7,.slice s8 r.delta.1 m8] e2 a2 e3 w5a.heap.size e4;clear e1 e2 e3 e4;obtain ⟨s9,m9,w6,L',hrun,TT⟩:=e5;have k6':=KS w6 TT.chg;have f0:w6.frozen? ⟨gt,T*2,none⟩=false:=(World.frozen?_of_block (a:=⟨gt,T*2,none⟩) (TT.chg.block gt S3.lt hgt)).trans (S3.frozen _);have f1:w6.frozen? ⟨gt,T*2+1,none⟩=false:=(World.frozen?_of_block (a:=⟨gt,T*2+1,none⟩) (TT.chg.block gt S3.lt hgt)).trans (S3.frozen _);have t0:w6.cell? ⟨gt,T*2,none⟩=some (.bool (d.tapes.2 T).wiped):=(World.cell?_of_block (a:=⟨gt,T*2,none⟩) (TT.chg.block gt S3.lt hgt)).trans y0;have t1:w6.cell? ⟨gt,T*2+1,none⟩=some (.slice ao9 (d.tapes.2 T).recs.1 cap9):=k6'.2.1;refine ⟨_,rfl,?_⟩
  refine hKC.out _ _ (k5) (fun hHeld=>?_);clear hKC KC
  try simp only [Act.put,SL]
  refine zav (i:=15) (o:=_) rfl (by kernel_rfl) (fun KC hKC=>?_);go_simp;refine hKC.out _ _ (kA) (fun hHeld=>?_);clear hKC KC
  try simp only [Act.put,SL]
  refine zav (i:=16) (o:=_) rfl (by kernel_rfl) (fun KC hKC=>?_)
  refine zaZ rfl (.tmp 22) (.tmp 25) rfl ?_ ?_ hrun ?_;(simp [Act.eval,Act.put]);(simp [Act.eval,Act.put])
  refine hKC.out _ _ (k6') (fun hHeld=>?_);clear hKC KC
  try simp only [Act.put,SL]
  refine zac (i:=17) (oi:=_) (v:=?_) 16 rfl (by kernel_rfl) (fun _ _ _ h=>h) (Or.inl ⟨by rfl,?_⟩) (by assumption) ?_
  rotate_left
  ·intro w' hSw
   try dsimp only at hSw
   obtain ⟨hq0,hq1,hq2,hq3,hq4,hq5,hq6,hq7,hq8,hq9,hq10⟩:=hSw;go_simp
   try with_reducible rfl
  try simp only [Act.put,SL]
  refine zac (i:=18) (oi:=_) (v:=?_) 16 rfl (by kernel_rfl) (fun _ _ _ h=>h) (Or.inl ⟨by rfl,?_⟩) (by assumption) ?_
  rotate_left
  ·intro w' hSw
   try dsimp only at hSw
   obtain ⟨hq0,hq1,hq2,hq3,hq4,hq5,hq6,hq7,hq8,hq9,hq10⟩:=hSw;go_simp
   try with_reducible rfl
  try simp only [Act.put,SL]
  refine zbx (o:=_) rfl (by kernel_rfl) (fun KC hKC=>?_);go_simp;refine hKC.out _ _ ?_;clear hKC KC
  try simp only [Act.put,SL]
  refine zby (by kernel_rfl) ?_ _
  have TK:Turn zah w5.drew (Ls T) w6 (zg2 (d.tapes.2 T) r) [.bool false,(.slice s9 ((d.tapes.2 T).recs.1+1) m9)] L':=by
   rw [eK9];exact ⟨zgo (zg2 (d.tapes.2 T) r) TT.own,TT.nd,TT.sub,TT.chg⟩
  have T7:=S3.turn_at nd3 hT TK (w':=(stN w6 gt (T*zah.sz) [.bool false,(.slice s9 ((d.tapes.2 T).recs.1+1) m9)])) rfl;have WO7:=WO.tapes (Nat.le_refl _) (Nat.zero_le _) T7;have hin:∀ b,b∈gt::catN d.tapes.1 Ls→b≠B:=fun b hb he=>HNE.out (by rw [← he];exact inK b hb);have X7:=HBX.out.chgl T7.chg (fun hb=>hin B hb rfl)
  have sub7:∀ b,b∈K1'++(K2'++(gt::catN d.tapes.1 (upd Ls T L')))→b∈K1'++(K2'++(gt::catN d.tapes.1 Ls))∨w5.heap.size≤b:=fun b hb=>by
   rcases List.mem_append.1 hb with h | h
   ·exact .inl (List.mem_append_left _ h)
   ·rcases List.mem_append.1 h with h | h
    ·exact .inl (List.mem_append_right _ (List.mem_append_left _ h))
    ·rcases T7.sub b h with h | h
     ·exact .inl (inK b h)
     ·exact .inr h.1
  have hE7:B∉K1'++(K2'++(gt::catN d.tapes.1 (upd Ls T L'))):=fun hm=>by
   rcases sub7 B hm with h | h
   ·exact HNE.out h
   ·have:B<w5.heap.size:=hbl
    omega
  have O7:=WO7.encO hE7;rw [List.append_nil] at O7
  have S7:SpB (stN w6 gt (T*zah.sz) [.bool false,(.slice s9 ((d.tapes.2 T).recs.1+1) m9)]) B ({ zbR d T r with writes:=d.writes+1 }) (K1'++(K2'++(gt::catN d.tapes.1 (upd Ls T L')))):=by refine ⟨_,?_,O7⟩;exact X7
  have C7:ChgL (B::(K1'++(K2'++(gt::catN d.tapes.1 Ls)))) w (stN w6 gt (T*zah.sz) [.bool false,(.slice s9 ((d.tapes.2 T).recs.1+1) m9)]):=(HC5.out.trans ((ChgL.refl _ _).drew)).trans (T7.chg.mono (fun b hb=>List.mem_cons_of_mem _ (inK b hb)));have in0:gt≠B:=hin gt (List.mem_cons_self ..);have x11':(w6.setCell ⟨gt,T*2+1,none⟩ (.slice s9 ((d.tapes.2 T).recs.1+1) m9)).cell? ⟨B,11,none⟩=some (.slice (some ⟨gt,0,none⟩) d.tapes.1 c3):=(World.cell?_of_block (heap_setCell_other w6 _ _ _ (fun h=>in0 h.symm))).trans k6'.1;have y0':(w6.setCell ⟨gt,T*2+1,none⟩ (.slice s9 ((d.tapes.2 T).recs.1+1) m9)).cell? ⟨gt,T*2,none⟩=some (.bool (d.tapes.2 T).wiped):=(zmw w6 gt (T*2+1) (T*2) _ (by omega)).trans t0;have f0':(w6.setCell ⟨gt,T*2+1,none⟩ (.slice s9 ((d.tapes.2 T).recs.1+1) m9)).frozen? ⟨gt,T*2,none⟩=false:=(zkD w6 _ _ _).trans f0;have e8:(w6.setCell ⟨gt,T*2+1,none⟩ (.slice s9 ((d.tapes.2 T).recs.1+1) m9)).setCell ⟨gt,T*2,none⟩ (.bool false)=(stN w6 gt (T*zah.sz) [.bool false,(.slice s9 ((d.tapes.2 T).recs.1+1) m9)]):=zia w6 gt (T*2+1) (T*2) _ _ (by omega)
  have HS8:Hid (∀ b,b∈K1'++(K2'++(gt::catN d.tapes.1 (upd Ls T L')))→b∈K1'++(K2'++(gt::catN d.tapes.1 Ls))∨w.heap.size≤b):=fun b hb=>by
   rcases sub7 b hb with h | h
   ·exact .inl h
   ·exact .inr (by omega)
  have HE:Hid (zaK r T d=.done 0 { zbR d T r with writes:=d.writes+1 }):=by show _=_;unfold zaK rawO;rw [if_neg HFL.out]
  clear WO7 T7 TK TT WO S3 nd3 e9 eK9 o9 KS CC AP k5 kA k6' hrun nd9 t0 t1 f0 f1 y0 y1 O7 X7;obtain ⟨W8,hW8⟩:∃ x,x=(w6.setCell ⟨gt,T*2+1,none⟩ (.slice s9 ((d.tapes.2 T).recs.1+1) m9)):=⟨_,rfl⟩;obtain ⟨W7,hW7⟩:∃ x,x=(stN w6 gt (T*zah.sz) [.bool false,(.slice s9 ((d.tapes.2 T).recs.1+1) m9)]):=⟨_,rfl⟩;rw [← hW8] at x11' y0' f0' e8 ⊢;rw [← hW7] at S7 C7 e8;have HS7:Hid (SpB W7 B ({ zbR d T r with writes:=d.writes+1 }) (K1'++(K2'++(gt::catN d.tapes.1 (upd Ls T L'))))):=S7;have HC7:Hid (ChgL (B::(K1'++(K2'++(gt::catN d.tapes.1 Ls)))) w W7):=C7;clear hW8 hW7 S7 C7;go_wp2;go_ret;rw [HE.out];exact ⟨rfl,_,HS7.out,HS8.out,HC7.out⟩
end Go.Proofs.YtclclojenogpbaaGreat
