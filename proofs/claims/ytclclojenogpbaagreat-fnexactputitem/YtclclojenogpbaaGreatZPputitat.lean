/- layingNext: a record laid with the number that is the next one when it is run. -/
import Derived.Shelf.SlIter.Nil
import Derived.Shelf.SortM.Plain
import Derived.Shelf.SortM.SortNone
import Derived.Ground.GgzProg
import Derived.Ground.SlgmProg
import Derived.Test.YtclclojenogpbaaGreatZPputitas
set_option linter.unusedVariables false
set_option linter.unusedSimpArgs false
set_option maxHeartbeats 16000000
namespace Go.Proofs.YtclclojenogpbaaGreat
open Go.RowKit F256
set_option maxRecDepth 100000 in
theorem zk3 (r:RecD) (o6 o7 o8:Option Addr) (k6 k7 k8 hi:Nat) (hsr:zaJ r≤1048576) (a B:Nat) (w:World) (E:Nat) (d:WorldD) (K:List Nat) (g2:Box w a #[.int .i64 r.kind,.int .i64 r.seq,.string r.name,.int .i64 r.length,.int .i64 r.group,.int .i64 r.row,.slice o6 r.rows.1 k6,.slice o7 r.data.1 k7,.slice o8 r.delta.1 k8] 72) (hrw:zab.rd w hi r [.int .i64 r.kind,.int .i64 r.seq,.string r.name,.int .i64 r.length,.int .i64 r.group,.int .i64 r.row,.slice o6 r.rows.1 k6,.slice o7 r.data.1 k7,.slice o8 r.delta.1 k8]) (l3:hi≤B) (hBE:B≤E) (hBK:∀ b,b∈K→B≤b) (hNE:a≠E∧a∉K) (hX:EncB w E d K) (hf:Fit3 2 d) :
 Calls Tryz.prog 133 #[.pointer (some ⟨E,0,none⟩),.pointer (some ⟨a,0,none⟩)] w (RunP (fun c=>.int .i64 c) (layF r d) E w K):=by
 have HX:=hid hX;have HF:=hid hf;have HBK:=hid hBK;have zE:=hX.lt;have hKlt:=hX.Klt;obtain ⟨cs,hBx,hO⟩:=hX;obtain ⟨v0,v1,v2,v3,v4,v5,v6,v7,v8,vp0,vl0,vq0,vp1,vl1,vq1,vp2,vl2,vq2,v9,v10,vb,rfl⟩:=zbW hO.own;have rdw:zad.rd w w.heap.size d (rwV v0 v1 v2 v3 v4 v5 v6 v7 v8 vp0 vl0 vq0 vp1 vl1 vq1 vp2 vl2 vq2 v9 v10 vb):=hO.T.rd
 have rg:w.rangeAt E 5 (rwV v0 v1 v2 v3 v4 v5 v6 v7 v8 vp0 vl0 vq0 vp1 vl1 vq1 vp2 vl2 vq2 v9 v10 vb):=fun j v hv=>by
  have hc:=hBx.cell (5+j);rw [hc]
  rcases j with _ | _ | _ | _ | _ | _ | _ | _ | _ | _ | _ | _ | _ | _ | _ | j<;>first | exact hv | (simp at hv)
 have CH:=zjg d (rwV v0 v1 v2 v3 v4 v5 v6 v7 v8 vp0 vl0 vq0 vp1 vl1 vq1 vp2 vl2 vq2 v9 v10 vb) w.heap.size 1 (by decide) w rdw (Nat.le_refl _) (fun i hi=>by have:=hf.few i (by have:=hf.two;omega);omega);have hmf:∀ (fn:Fn) (first cap:Array Value) (w:World),(Instr.makeFunc fn first cap).run Tryz.prog w=.ok (.func fn first cap) w:=fun _ _ _ _=>rfl;have h2f:=zm9 hf.two 1;obtain ⟨oc,hoc⟩:∃ x,x=layF r d:=⟨_,rfl⟩;have HOC:=hid hoc;rw [← hoc];clear hf hBK hoc hBx hO rdw
 go_enter Tryz.func133,Tryz.ntmps133
 go_wp2_with (refine wpList_load_mid rfl 38 (.tmp 6) rfl E 5 rfl (rwV v0 v1 v2 v3 v4 v5 v6 v7 v8 vp0 vl0 vq0 vp1 vl1 vq1 vp2 vl2 vq2 v9 v10 vb) _ rg Tryz.underlying38 rfl (by rw [zbq];rfl) ?_)
 refine CH.mono ?_;rintro e w1 ⟨t,rfl,ht,b1⟩;have HTT:=hid ht;have HFU:=hid h2f;have z1:=b1.size;have X1:=HX.out.below b1;clear CH ht h2f rg
 cases t with
 | false=>
  have hfl:zce d.tapes 1:=Classical.byContradiction fun hh=>by have:=HTT.out.2 hh;cases this
  have e:oc=.done 2 d:=by
   rw [HOC.out];unfold layF;rw [if_pos (HFU.out.1 hfl)]
  have HE:=hid e;clear hfl e;go_wp2;go_ret;rw [HE.out];exact ⟨rfl,K,X1,fun b hb=>.inl hb,ChgL.of_below b1⟩
 | true=>
  have hfl:¬ zce d.tapes 1:=HTT.out.1 rfl
  have e:oc=runO (zaM r) 2 0 d:=by
   rw [HOC.out];unfold layF;rw [if_neg (fun hh=>hfl (HFU.out.2 hh))]
  have HE:=hid e;clear hfl e;have g3:=g2.below b1 g2.lt;have hal:=g3.lt;have B0:Below w1.heap.size w1 w1.drew:=zeI _;have KS:∀ w',Below w1.heap.size w1 w'→(Box w' a (rwR r o6 k6 o7 k7 o8 k8).toArray 72):=fun w' hb=>g3.below hb hal;have CK:=zeY 0 (.int .i64 r.kind) (.int .i64 r.seq) (.string r.name) (.int .i64 r.length) (.int .i64 r.group) (.int .i64 r.row) (.slice o6 r.rows.1 k6) (.slice o7 r.data.1 k7) (.slice o8 r.delta.1 k8) w1.drew
  go_upto_region 3 with fail
  refine zbC 7 (fun w'=>Box w' a (rwR r o6 k6 o7 k7 o8 k8).toArray 72) (by kernel_rfl) (KS _ B0) (fun hHeld=>?_);refine zog 0 (v:=?_) rfl ?_ ?_
  rotate_left
  ·intro w' hSw;go_simp;try with_reducible rfl
  try simp only [Act.put,SL]
  refine zac (i:=1) (oi:=_) 16 rfl (by kernel_rfl) (fun _ _ _ h=>h) (zcE 72 (.tmp 1) rfl rfl a rfl (cs:=(rwR r o6 k6 o7 k7 o8 k8)) (fun w' h=>h) Tryz.underlying72 zcq rfl) (by assumption) ?_
  try simp only [Act.put,SL]
  refine zac (i:=3) (oi:=_) 16 rfl (by kernel_rfl) (fun _ _ _ h=>h) (zcE 72 (.tmp 1) rfl rfl a rfl (cs:=(rwR r o6 k6 o7 k7 o8 k8)) (fun w' h=>h) Tryz.underlying72 zcq rfl) (by assumption) ?_
  try simp only [Act.put,SL]
  refine zaA (i:=2) (o:=_) rfl (by kernel_rfl) (fun KC hKC=>?_);refine zbe rfl 135 _ _ rfl #[.int .i64 0,.agg (rwR r o6 k6 o7 k7 o8 k8).toArray] ?_ Tryz.func135 (by kernel_rfl) (by kernel_rfl) CK ?_
  ·simp [Act.eval,Act.put]
  rintro ee w5 ⟨rfl,p1,p2,z5,b5'⟩;have b5:Below w1.heap.size w1 w5:=B0.trans b5';have z5':w5.heap.size=w1.heap.size+1+1:=z5;have p1:Box w5 w1.heap.size #[.int .i64 0] 2:=p1;have p2:Box w5 (w1.heap.size+1) (rwR r o6 k6 o7 k7 o8 k8).toArray 72:=p2;refine ⟨_,rfl,?_⟩;refine hKC.out _ _ (KS _ b5) (fun hHeld=>?_);clear hKC KC CK b5' z5
  try simp only [Act.put,SL]
  have CK:=zeY 1 (.int .i64 r.kind) (.int .i64 r.seq) (.string r.name) (.int .i64 r.length) (.int .i64 r.group) (.int .i64 r.row) (.slice o6 r.rows.1 k6) (.slice o7 r.data.1 k7) (.slice o8 r.delta.1 k8) w5;refine zaA (i:=4) (o:=_) rfl (by kernel_rfl) (fun KC hKC=>?_);refine zbe rfl 135 _ _ rfl #[.int .i64 1,.agg (rwR r o6 k6 o7 k7 o8 k8).toArray] ?_ Tryz.func135 (by kernel_rfl) (by kernel_rfl) CK ?_
  ·simp [Act.eval,Act.put]
  rintro ee w6 ⟨rfl,p3,p4,z6,b6'⟩;have b6:Below w1.heap.size w1 w6:=b5.trans (b6'.mono b5.size);rw [z5'] at p3 p4 z6;refine ⟨_,rfl,?_⟩;refine hKC.out _ _ (KS _ b6) (fun hHeld=>?_);clear hKC KC CK
  try simp only [Act.put,SL]
  have bN:Below w6.heap.size w6 (w6.alloc (.cells #[.func (.func 186) #[] #[.pointer (some ⟨w1.heap.size,0,none⟩),.pointer (some ⟨w1.heap.size+1,0,none⟩)],.func (.func 186) #[] #[.pointer (some ⟨w1.heap.size+1+1,0,none⟩),.pointer (some ⟨w1.heap.size+1+1+1,0,none⟩)]] 89)):=(Below.refl _ _).alloc (Nat.le_refl _) _;have XN:Box (w6.alloc (.cells #[.func (.func 186) #[] #[.pointer (some ⟨w1.heap.size,0,none⟩),.pointer (some ⟨w1.heap.size+1,0,none⟩)],.func (.func 186) #[] #[.pointer (some ⟨w1.heap.size+1+1,0,none⟩),.pointer (some ⟨w1.heap.size+1+1+1,0,none⟩)]] 89)) w6.heap.size #[.func (.func 186) #[] #[.pointer (some ⟨w1.heap.size,0,none⟩),.pointer (some ⟨w1.heap.size+1,0,none⟩)],.func (.func 186) #[] #[.pointer (some ⟨w1.heap.size+1+1,0,none⟩),.pointer (some ⟨w1.heap.size+1+1+1,0,none⟩)]] 89:=zap _ _ _;refine zaA (i:=5) (o:=_) rfl (by kernel_rfl) (fun KC hKC=>?_);go_simp;refine hKC.out _ _ (KS _ (b6.trans (bN.mono b6.size))) (fun hHeld=>?_);clear hKC KC
  try simp only [Act.put,SL]
  obtain ⟨w7,hw7⟩:∃ x,x=(w6.alloc (.cells #[.func (.func 186) #[] #[.pointer (some ⟨w1.heap.size,0,none⟩),.pointer (some ⟨w1.heap.size+1,0,none⟩)],.func (.func 186) #[] #[.pointer (some ⟨w1.heap.size+1+1,0,none⟩),.pointer (some ⟨w1.heap.size+1+1+1,0,none⟩)]] 89)):=⟨_,rfl⟩;rw [← hw7] at bN XN;have z7:w6.heap.size<w7.heap.size:=XN.lt;have b7:Below w1.heap.size w1 w7:=b6.trans (bN.mono b6.size);have bw7:Below w.heap.size w w7:=b1.trans (b7.mono z1);have bB7:Below B w w7:=bw7.mono (by omega);have q1:=(p1.below b6' (by omega)).below bN (by omega);have q2:=(p2.below b6' (by omega)).below bN (by omega);have q3:=p3.below bN p3.lt;have q4:=p4.below bN p4.lt
  have CR:=zjh (fun _=>186) (fun k=>if k=0 then #[.pointer (some ⟨w1.heap.size,0,none⟩),.pointer (some ⟨w1.heap.size+1,0,none⟩)] else #[.pointer (some ⟨w1.heap.size+1+1,0,none⟩),.pointer (some ⟨w1.heap.size+1+1+1,0,none⟩)]) (zaM r) (fun _=>Fit3 1) B 2 w6.heap.size 0 2 [w1.heap.size,w1.heap.size+1,w1.heap.size+1+1,w1.heap.size+1+1+1] w7 E d K
   (fun i hi=>by
    rcases i with _ | _ | i
    ·exact zdG 0 (by decide) r o6 o7 o8 k6 k7 k8 _ hsr w1.heap.size (w1.heap.size+1) B w7 (q1.cell 0) q2 (zab.rd_below hrw bB7 l3) _ (by simp) (by simp) l3
    ·exact zdG 1 (by decide) r o6 o7 o8 k6 k7 k8 _ hsr (w1.heap.size+1+1) (w1.heap.size+1+1+1) B w7 (q3.cell 0) q4 (zab.rd_below hrw bB7 l3) _ (by simp) (by simp) l3
    ·omega) (fun i hi=>by
    rcases i with _ | _ | i
    ·exact XN.cell 0
    ·exact XN.cell 1
    ·omega) z7 ⟨by omega,fun hm=>by have:=hKlt _ hm;omega⟩ hBE HBK.out (by decide) (HX.out.below bw7) (zgt r 2 0 d (by decide) HF.out)
   (fun x hx=>by
    have hx4:x=w1.heap.size∨x=w1.heap.size+1∨x=w1.heap.size+1+1∨x=w1.heap.size+1+1+1:=by simpa using hx
    have:=q1.lt;have:=q4.lt
    exact ⟨by omega,by omega,fun hm=>by have:=hKlt _ hm;omega⟩)
  rw [← HE.out] at CR;rw [← hw7]
  cases oc with
  | cut d2=>
   have CW:=CR.mono (R':=fun e w'=>∃ c,e=.panicked c∧c=[{ v:=.iface 275 (.agg #[]),recovered:=false }]∧∃ K',EncF w' E d2 K'∧(∀ b,b∈K'→b∈K∨w7.heap.size≤b)∧ChgL (E::K) w7 w') (fun e w' ⟨h1,h2⟩=>⟨_,h1,rfl,h2⟩);refine zaA (i:=6) (o:=_) rfl (by kernel_rfl) (fun KC hKC=>?_);refine zk1 rfl 84 _ _ rfl #[.pointer (some ⟨E,0,none⟩),.slice (some ⟨w6.heap.size,0,none⟩) 2 2] ?_ Tryz.func84 (by kernel_rfl) (by kernel_rfl) CW ?_
   ·simp [Act.eval,Act.put]
   rintro ee w8 ⟨_,rfl,rfl,K8,X8,s8,C8⟩;refine ⟨_,rfl,?_⟩;exact ⟨rfl,RunP.after (rv:=fun c=>.int .i64 c) (o:=.cut d2) (fun b hb=>.inl hb) (ChgL.of_below bw7) ⟨rfl,K8,X8,s8,C8⟩⟩
  | done c d2=>
   have CW:=CR.mono (R':=fun e w'=>∃ v,e=.returned v∧v=.int .i64 c∧∃ K',EncB w' E d2 K'∧(∀ b,b∈K'→b∈K∨w7.heap.size≤b)∧ChgL (E::K) w7 w') (fun e w' ⟨h1,h2⟩=>⟨_,h1,rfl,h2⟩);refine zaA (i:=6) (o:=_) rfl (by kernel_rfl) (fun KC hKC=>?_);refine zbe rfl 84 _ _ rfl #[.pointer (some ⟨E,0,none⟩),.slice (some ⟨w6.heap.size,0,none⟩) 2 2] ?_ Tryz.func84 (by kernel_rfl) (by kernel_rfl) CW ?_
   ·simp [Act.eval,Act.put]
   rintro ee w8 ⟨_,rfl,rfl,K8,X8,s8,C8⟩;refine ⟨_,rfl,?_⟩
   refine hKC.out _ _ ((g3.below b7 hal).chgl C8 (fun hm=>by
    rcases List.mem_cons.1 hm with h | h
    ·exact hNE.1 h
    ·exact hNE.2 h)) (fun hHeld=>?_)
   clear hKC KC
   try simp only [Act.put,SL]
   refine zbA (o:=_) rfl (by kernel_rfl) (fun KC hKC=>?_);go_simp;refine hKC.out _ _ ?_;clear hKC KC
   try simp only [Act.put,SL]
   refine zbB (by kernel_rfl) ?_ _;go_wp2;go_ret;exact RunP.after (rv:=fun c=>.int .i64 c) (o:=.done c d2) (fun b hb=>.inl hb) (ChgL.of_below bw7) ⟨rfl,K8,X8,s8,C8⟩
noncomputable def cntL (d:WorldD):List Nat:=Classical.choose (zjQ (recT d.tapes.2 2) (lenT d.tapes.2 2))
theorem zmp {d:WorldD} {l:List Nat} (h:Cnt (recT d.tapes.2 2) (lenT d.tapes.2 2) l):l=cntL d:=h.uniq (Classical.choose_spec (zjQ (recT d.tapes.2 2) (lenT d.tapes.2 2)))
noncomputable def nxtD (d:WorldD):Int:=zgu (cntL d).length (fun i=>recT d.tapes.2 2 ((cntL d).getD i 0))
noncomputable def zbG (r:RecD) (d:WorldD):Outc:=if 1000000000<nxtD d then .done 2 d else layF { r with seq:=nxtD d } d
def FitX (d:WorldD):Prop:=Fit3 2 d∧(d.tapes.2 0).recs.1≤400000∧(d.tapes.2 1).recs.1≤400000
theorem zgv (d:WorldD):-9223372036854775808≤nxtD d∧nxtD d≤9223372036854775807:=by
 unfold nxtD zgu;rw [IntKind.wrap_i64];omega
theorem znT {w:World} {hi:Nat} {r:RecD} {o6 o7 o8:Option Addr} {k6 k7 k8:Nat} (h:zab.rd w hi r [.int .i64 r.kind,.int .i64 r.seq,.string r.name,.int .i64 r.length,.int .i64 r.group,.int .i64 r.row,.slice o6 r.rows.1 k6,.slice o7 r.data.1 k7,.slice o8 r.delta.1 k8]) (x:Int) (hx:-9223372036854775808≤x∧x≤9223372036854775807):zab.rd w hi { r with seq:=x } [.int .i64 r.kind,.int .i64 x,.string r.name,.int .i64 r.length,.int .i64 r.group,.int .i64 r.row,.slice o6 r.rows.1 k6,.slice o7 r.data.1 k7,.slice o8 r.delta.1 k8]:=by
 obtain ⟨a6,b6,a7,b7,a8,b8,e,g6,g7,g8,k0,k1,k2,k3,k4,k5⟩:=zaN h
 simp only [List.cons.injEq,Value.slice.injEq,true_and,and_true] at e
 obtain ⟨⟨rfl,rfl⟩,⟨rfl,rfl⟩,rfl,rfl⟩:=e;exact ⟨_,_,rfl,⟨rfl,k0⟩,_,_,rfl,⟨rfl,hx⟩,_,_,rfl,⟨rfl,k2⟩,_,_,rfl,⟨rfl,k3⟩,_,_,rfl,⟨rfl,k4⟩,_,_,rfl,⟨rfl,k5⟩,_,_,rfl,g6,_,_,rfl,g7,g8⟩
set_option maxRecDepth 100000 in
theorem zie (r:RecD) (o6 o7 o8:Option Addr) (k6 k7 k8 hi:Nat) (hsr:zaJ r≤1048576) (a B:Nat) (w0:World) (h2:Box w0 a #[.int .i64 r.kind,.int .i64 r.seq,.string r.name,.int .i64 r.length,.int .i64 r.group,.int .i64 r.row,.slice o6 r.rows.1 k6,.slice o7 r.data.1 k7,.slice o8 r.delta.1 k8] 72) (hr:zab.rd w0 hi r [.int .i64 r.kind,.int .i64 r.seq,.string r.name,.int .i64 r.length,.int .i64 r.group,.int .i64 r.row,.slice o6 r.rows.1 k6,.slice o7 r.data.1 k7,.slice o8 r.delta.1 k8]) (l2:a<B) (l3:hi≤a) :
 TaskX 85 #[.pointer (some ⟨a,0,none⟩)] (zbG r) FitX B [a] w0:=by
 refine ⟨zev Tryz.func85 (by kernel_rfl) (by kernel_rfl),fun w E d K hB hBE hBK hX hf=>?_⟩
 show Calls Tryz.prog 85 #[.pointer (some ⟨E,0,none⟩),.pointer (some ⟨a,0,none⟩)] w _
 have g2:=h2.below hB l2;have hrw:=zab.rd_below hr hB (by omega);have HX:=hid hX;have HF:=hid hf;have HBK:=hid hBK;have zE:=hX.lt;have hKlt:=hX.Klt;obtain ⟨cs,hBx,hO⟩:=hX;obtain ⟨v0,v1,v2,v3,v4,v5,v6,v7,v8,vp0,vl0,vq0,vp1,vl1,vq1,vp2,vl2,vq2,v9,v10,vb,rfl⟩:=zbW hO.own;have rdw:zad.rd w w.heap.size d (rwV v0 v1 v2 v3 v4 v5 v6 v7 v8 vp0 vl0 vq0 vp1 vl1 vq1 vp2 vl2 vq2 v9 v10 vb):=hO.T.rd;have c16:w.cell? ⟨E,16,none⟩=some (.slice vp2 vl2 vq2):=hBx.cell 16;have hmf:∀ (fn:Fn) (first cap:Array Value) (w:World),(Instr.makeFunc fn first cap).run Tryz.prog w=.ok (.func fn first cap) w:=fun _ _ _ _=>rfl;obtain ⟨ao1,cap1,ao2,cap2,ao3,cap3,e15,q1,q2,q3,-⟩:=zaP rdw
 have h11:(Value.slice vp2 vl2 vq2)=.slice ao3 d.tapes.1 cap3:=by
  have:=congrArg (fun l=>l[11]?) e15
  simpa using this
 have q3':(zah.slice 112).rd w w.heap.size (2,d.tapes.2) [.slice vp2 vl2 vq2]:=by
  have ht:=hf.1.two
  have e2:d.tapes=(2,d.tapes.2):=by rw [← ht]
  rw [← e2,h11];exact q3
 have CN:=zjj d.tapes.2 (.slice vp2 vl2 vq2) w.heap.size w q3' (Nat.le_refl _) hf.2.1 hf.2.2;clear hf hBK h2 hr hBx hO rdw q1 q2 q3 q3' e15 h11
 go_enter Tryz.func85,Tryz.ntmps85
 go_wp2_with fail
 refine CN.mono ?_;rintro e w1 ⟨l,c,x,hl,hcx,rfl,b1⟩;rw [zmp hl] at hcx;obtain ⟨n,hn⟩:∃ n,n=nxtD d:=⟨_,rfl⟩
 have hcx2:(1000000000<n∧c=2∧x=0)∨(¬ 1000000000<n∧c=0∧x=n):=by rw [hn];exact hcx
 have HN:=hid hn;have z1:=b1.size;have X1:=HX.out.below b1;have g3:=g2.below b1 g2.lt;have hrw1:=zab.rd_below hrw b1 (by omega);have HB1:=hid b1;clear CN hl hcx hn l b1
 rcases hcx2 with ⟨hb,rfl,rfl⟩ | ⟨hb,rfl,rfl⟩
 ·have bA:=bAl w1 (.cells #[.int .i64 2,.int .i64 0] 74)
  have X2:=X1.below bA;have HX2:=hid X2;have HB2:=hid (HB1.out.trans (bA.mono z1))
  have HNF:Hid (zbG r d=.done 2 d):=by
   show zbG r d=.done 2 d
   unfold zbG;rw [if_pos (by rw [← HN.out];exact hb)]
  clear X1 X2 bA hb;go_wp2;go_ret;rw [HNF.out];exact ⟨rfl,K,HX2.out,fun b hb=>.inl hb,ChgL.of_below HB2.out⟩
 ·have bA:=bAl w1 (.cells #[.int .i64 0,.int .i64 x] 74)
  have hal:=g3.lt;have XI:=zap w1 #[.int .i64 0,.int .i64 x] 74;have y0:=XI.cell 0;have y1:=XI.cell 1;have yz:=XI.lt;have f4:=(g3.below bA hal).frozen 1;have cA:=(g3.below bA hal).cell 1
  have aE:a≠E:=by omega
  have aK:a∉K:=fun hm=>by have:=HBK.out a hm;omega
  have CS:ChgL [a] w1 (w1.setCell ⟨a,1,none⟩ (.int .i64 x)):=ChgL.store _ _ _ _ _ (by simp);have BS:Below a w1 (w1.setCell ⟨a,1,none⟩ (.int .i64 x)):=CS.bel (fun b hb=>by simp at hb;omega) (by omega);have bT:Below (w1.setCell ⟨a,1,none⟩ (.int .i64 x)).heap.size (w1.setCell ⟨a,1,none⟩ (.int .i64 x)) ((w1.setCell ⟨a,1,none⟩ (.int .i64 x)).alloc (.cells #[.int .i64 0,.int .i64 x] 74)):=(Below.refl _ _).alloc (Nat.le_refl _) _;have zs:=CS.size
  have g5:Box (w1.setCell ⟨a,1,none⟩ (.int .i64 x)) a #[.int .i64 r.kind,.int .i64 x,.string r.name,.int .i64 r.length,.int .i64 r.group,.int .i64 r.row,.slice o6 r.rows.1 k6,.slice o7 r.data.1 k7,.slice o8 r.delta.1 k8] 72:=by
   have:=g3.setc 1 (.int .i64 x)
   simpa using this
  have Hg5:=hid (g5.below bT g5.lt);have Hr3:Hid (zab.rd ((w1.setCell ⟨a,1,none⟩ (.int .i64 x)).alloc (.cells #[.int .i64 0,.int .i64 x] 74)) hi { r with seq:=x } [.int .i64 r.kind,.int .i64 x,.string r.name,.int .i64 r.length,.int .i64 r.group,.int .i64 r.row,.slice o6 r.rows.1 k6,.slice o7 r.data.1 k7,.slice o8 r.delta.1 k8]):=zab.rd_below (znT (zab.rd_below hrw1 BS l3) x (by rw [HN.out];exact zgv d)) bT (by omega)
  have HX3:Hid (EncB ((w1.setCell ⟨a,1,none⟩ (.int .i64 x)).alloc (.cells #[.int .i64 0,.int .i64 x] 74)) E d K):=by
   obtain ⟨cs5,B5,O5⟩:=X1;exact (show EncB (w1.setCell ⟨a,1,none⟩ (.int .i64 x)) E d K from ⟨cs5,B5.chgl CS (by simp;exact fun h=>aE h.symm),Lay.own_chgL _ O5.own CS (fun q hq hm=>by simp at hm;exact aK (hm ▸ hq)),O5.nd,O5.ne⟩).below bT
  have HC3:Hid (ChgL (E::([a]++K)) w ((w1.setCell ⟨a,1,none⟩ (.int .i64 x)).alloc (.cells #[.int .i64 0,.int .i64 x] 74))):=((ChgL.of_below HB1.out).trans (CS.mono (by simp))).after (bT.mono (Nat.le_trans z1 zs));have h3z:w1.heap.size≤((w1.setCell ⟨a,1,none⟩ (.int .i64 x)).alloc (.cells #[.int .i64 0,.int .i64 x] 74)).heap.size:=Nat.le_trans zs bT.size
  have HE:((w1.setCell ⟨a,1,none⟩ (.int .i64 x)).alloc (.cells #[.int .i64 0,.int .i64 x] 74)).heap.size=w1.heap.size+1:=by simp
  obtain ⟨oc,hoc⟩:∃ y,y=layF { r with seq:=x } d:=⟨_,rfl⟩
  have HNF:Hid (zbG r d=oc):=by
   show zbG r d=oc
   rw [hoc,HN.out];unfold zbG;rw [if_neg (by rw [← HN.out];exact hb)]
  have HCL:Hid (∀ w4,Box w4 ((w1.setCell ⟨a,1,none⟩ (.int .i64 x)).alloc (.cells #[.int .i64 0,.int .i64 x] 74)).heap.size #[.int .i64 r.kind,.int .i64 x,.string r.name,.int .i64 r.length,.int .i64 r.group,.int .i64 r.row,.slice o6 r.rows.1 k6,.slice o7 r.data.1 k7,.slice o8 r.delta.1 k8] 72→Below ((w1.setCell ⟨a,1,none⟩ (.int .i64 x)).alloc (.cells #[.int .i64 0,.int .i64 x] 74)).heap.size ((w1.setCell ⟨a,1,none⟩ (.int .i64 x)).alloc (.cells #[.int .i64 0,.int .i64 x] 74)) w4→Calls Tryz.prog 133 #[.pointer (some ⟨E,0,none⟩),.pointer (some ⟨w1.heap.size+1,0,none⟩)] w4 (RunP (fun c=>.int .i64 c) oc E w4 K)):=fun w4 q4 b4=>by
   have hlt:∀ b,b∈K→b<((w1.setCell ⟨a,1,none⟩ (.int .i64 x)).alloc (.cells #[.int .i64 0,.int .i64 x] 74)).heap.size:=fun b hb=>by have:=hKlt b hb;omega
   rw [hoc,← HE];exact zk3 { r with seq:=x } o6 o7 o8 k6 k7 k8 hi hsr _ B w4 E d K q4 (zab.rd_below Hr3.out b4 (by omega)) (by omega) hBE HBK.out ⟨by omega,fun hm=>by have:=hlt _ hm;omega⟩ (HX3.out.below b4) HF.out.1
  have CK:=zmn (.int .i64 r.kind) (.int .i64 x) (.string r.name) (.int .i64 r.length) (.int .i64 r.group) (.int .i64 r.row) (.slice o6 r.rows.1 k6) (.slice o7 r.data.1 k7) (.slice o8 r.delta.1 k8) ((w1.setCell ⟨a,1,none⟩ (.int .i64 x)).alloc (.cells #[.int .i64 0,.int .i64 x] 74));have HZ:=hid (Nat.le_trans z1 h3z);clear X1 g3 hrw1 bA XI CS BS bT zs g5 hoc c16 h3z
  cases oc with
  | cut d2=>
   go_wp2_with (first | (refine zai 72 (.tmp 1) rfl rfl a rfl Hg5.out Tryz.underlying72 zcq rfl ?_) | (go_at_call 87;refine CK.mono ?_;rintro e w4 ⟨rfl,q4,b4⟩;have CL:=HCL.out w4 q4 b4))
   refine CL.mono ?_;rintro e w5 ⟨rfl,K5,X5,s5,C5⟩;have HY:=HZ.out
   have HG:RunN [a] (fun c=>.int .i64 c) (zbG r d) E w K (.panicked [{ v:=.iface 275 (.agg #[]),recovered:=false }]) w5:=by
    rw [HNF.out];exact ⟨rfl,K5,X5,fun b hb=>(s5 b hb).imp id (fun h=>by have:=b4.size;omega),(HC3.out.after (b4.mono HZ.out)).trans (C5.mono (fun b hb=>by simp at hb ⊢;rcases hb with h | h<;>simp [h]))⟩
   exact ⟨rfl,HG⟩
  | done c d2=>
   go_wp2_with (first | (refine zai 72 (.tmp 1) rfl rfl a rfl Hg5.out Tryz.underlying72 zcq rfl ?_) | (go_at_call 87;refine CK.mono ?_;rintro e w4 ⟨rfl,q4,b4⟩;have CL:=HCL.out w4 q4 b4))
   refine CL.mono ?_;rintro e w5 ⟨rfl,K5,X5,s5,C5⟩;go_wp2;go_ret;have HY:=HZ.out;rw [HNF.out];exact ⟨rfl,K5,X5,fun b hb=>(s5 b hb).imp id (fun h=>by have:=b4.size;omega),(HC3.out.after (b4.mono HZ.out)).trans (C5.mono (fun b hb=>by simp at hb ⊢;rcases hb with h | h<;>simp [h]))⟩
theorem znU {d:WorldD} (h:OkWorld d) (hd:d.down=false):Fit3 1000 d:=by
 obtain ⟨hc,_⟩:=h.count;unfold InP at hc;refine ⟨h.form.2.2,fun T hT=>?_,hd,by omega,by omega⟩;have:=h.few T (by rw [h.form.2.2];exact hT);omega
theorem znV (w:World) (hi:Nat):zao.rd w hi (0,fun _=>0) [.slice none 0 0]:=⟨_,rfl,⟨⟨none,0,rfl,Nat.zero_le _,fun h=>absurd rfl h⟩,⟨none,0,rfl,Nat.le_refl _⟩⟩,fun i=>(by decide:(-9223372036854775808:Int)≤0∧(0:Int)≤9223372036854775807)⟩
theorem znW (w:World) (hi:Nat):zaf.rd w hi (0,fun _=>0) [.slice none 0 0]:=⟨_,rfl,⟨none,0,rfl,Nat.zero_le _,fun h=>absurd rfl h⟩,fun _=>Nat.zero_lt_succ _⟩
theorem zgw {r:RecD} {d d2:WorldD} {c:Int} (h:zbG r d=.done c d2):c=0∨c=2:=by
 unfold zbG at h
 split at h
 ·cases h;exact .inr rfl
 ·unfold layF at h
  split at h
  ·cases h;exact .inr rfl
  ·exact .inl (zgs (d:=d) _ _ _ _ _ h)
theorem zk4 {r:RecD} {d:WorldD}:-9223372036854775808≤(zbG r d).code∧(zbG r d).code≤9223372036854775807:=by
 cases e:zbG r d with
 | cut x=>exact ⟨show (-9223372036854775808:Int)≤0 by decide,show (0:Int)≤9223372036854775807 by decide⟩
 | done c x=>
  show _≤c∧c≤_
  rcases zgw e with rfl | rfl<;>decide
theorem zmq {d:WorldD} (h:OkWorld d) (hd:d.down=false):FitX d:=
 ⟨(znU h hd).less (by decide),Nat.le_trans (h.few 0 (by have:=h.form.2.2;omega)) (by decide),Nat.le_trans (h.few 1 (by have:=h.form.2.2;omega)) (by decide)⟩
end Go.Proofs.YtclclojenogpbaaGreat
namespace Go.Proofs.YtclclojenogpbaaGreat
open Go.RowKit Go.Maps Go.Sort Go.Shelf
def zgx:Go.Shelf.Ren:=⟨fun | 7=>195 | 10=>225 | n=>n,fun | 23=>188 | 26=>9 | 3=>212 | 28=>241 | 0=>0 | 27=>240 | 33=>262 | 4=>4 | n=>n,fun | n=>n⟩
theorem zns:Go.Proofs.SlLaysZ.n7 Tryz.prog zgx:={
 mixed:=by kernel_rfl
 f7:=⟨Tryz.f195.name,by decide,Tryz.func195.trans (congrArg some (by kernel_rfl))⟩
 f10:=⟨Tryz.f225.name,by decide,Tryz.func225.trans (congrArg some (by kernel_rfl))⟩
 t0:=Tryz.underlying0
 a0:=Tryz.isAgg0
 z0:=Tryz.sizeOf0
 v0:=Tryz.zeroValue0
 t4:=Tryz.underlying4
 a4:=Tryz.isAgg4
 z4:=Tryz.sizeOf4
 v4:=Tryz.zeroValue4
 t23:=Tryz.underlying188
 a23:=Tryz.isAgg188
 z23:=Tryz.sizeOf188
 v23:=Tryz.zeroValue188
 t26:=Tryz.underlying9
 a26:=Tryz.isAgg9
 z26:=Tryz.sizeOf9
 v26:=Tryz.zeroValue9
 t27:=Tryz.underlying240
 a27:=Tryz.isAgg240
 z27:=Tryz.sizeOf240
 v27:=Tryz.zeroValue240
 t28:=Tryz.underlying241
 a28:=Tryz.isAgg241
 z28:=Tryz.sizeOf241
 v28:=Tryz.zeroValue241
 t33:=Tryz.underlying262
 a33:=Tryz.isAgg262
 z33:=Tryz.sizeOf262
 v33:=Tryz.zeroValue262 }
def zeZ:Go.Shelf.Ren:=⟨fun | 6=>194 | 8=>223 | 9=>224 | 11=>250 | 13=>252 | 12=>251 | 23=>275 | 24=>276 | 14=>266 | 15=>267 | 16=>268 | 17=>269 | 18=>270 | 19=>271 | 20=>272 | 21=>273 | 22=>274 | 25=>292 | 26=>293 | 27=>294 | 28=>295 | 29=>296 | 30=>297 | 31=>312 | n=>n,fun | 26=>9 | 28=>241 | 24=>238 | 0=>0 | 3=>3 | 37=>280 | 48=>138 | 50=>303 | 4=>4 | 40=>294 | 39=>293 | 45=>299 | 5=>5 | 9=>9 | 51=>317 | 55=>321 | 57=>332 | 58=>333 | 33=>262 | n=>n,fun | n=>n⟩
theorem zna:Go.Proofs.SlLaysZ.n6 Tryz.prog zeZ:={
 mixed:=by kernel_rfl
 f6:=⟨Tryz.f194.name,by decide,Tryz.func194.trans (congrArg some (by kernel_rfl))⟩
 f8:=⟨Tryz.f223.name,by decide,Tryz.func223.trans (congrArg some (by kernel_rfl))⟩
 f11:=⟨Tryz.f250.name,by decide,Tryz.func250.trans (congrArg some (by kernel_rfl))⟩
 t0:=Tryz.underlying0
 a0:=Tryz.isAgg0
 z0:=Tryz.sizeOf0
 v0:=Tryz.zeroValue0
 t24:=Tryz.underlying238
 a24:=Tryz.isAgg238
 z24:=Tryz.sizeOf238
 v24:=Tryz.zeroValue238
 t26:=Tryz.underlying9
 a26:=Tryz.isAgg9
 z26:=Tryz.sizeOf9
 v26:=Tryz.zeroValue9
 t28:=Tryz.underlying241
 a28:=Tryz.isAgg241
 z28:=Tryz.sizeOf241
 v28:=Tryz.zeroValue241
 i26:=by kernel_rfl }
def zk5:Go.Shelf.Ren:=⟨fun | 6=>224 | 8=>252 | 9=>251 | 19=>275 | 20=>276 | 21=>266 | 22=>267 | 23=>268 | 24=>269 | 25=>270 | 26=>271 | 27=>272 | 28=>273 | 29=>274 | 36=>292 | 31=>293 | 32=>294 | 37=>295 | 38=>296 | 39=>297 | 41=>312 | n=>n,fun | 27=>238 | 29=>9 | 3=>3 | 32=>280 | 26=>238 | 0=>0 | 44=>138 | 46=>303 | 4=>4 | 36=>294 | 35=>293 | 41=>299 | 5=>5 | 9=>9 | 53=>317 | 57=>321 | 63=>332 | 64=>333 | n=>n,fun | n=>n⟩
theorem znt:Go.Proofs.SlLaysM.n6 Tryz.prog zk5:={
 mixed:=by kernel_rfl
 f6:=⟨Tryz.f224.name,by decide,Tryz.func224.trans (congrArg some (by kernel_rfl))⟩
 f8:=Tryz.func252.trans (congrArg some (by kernel_rfl))
 f9:=⟨Tryz.f251.name,by decide,Tryz.func251.trans (congrArg some (by kernel_rfl))⟩
 f19:=Tryz.func275.trans (congrArg some (by kernel_rfl))
 f20:=Tryz.func276.trans (congrArg some (by kernel_rfl))
 f21:=⟨Tryz.f266.name,by decide,Tryz.func266.trans (congrArg some (by kernel_rfl))⟩
 f22:=⟨Tryz.f267.name,by decide,Tryz.func267.trans (congrArg some (by kernel_rfl))⟩
 f23:=⟨Tryz.f268.name,by decide,Tryz.func268.trans (congrArg some (by kernel_rfl))⟩
 f24:=⟨Tryz.f269.name,by decide,Tryz.func269.trans (congrArg some (by kernel_rfl))⟩
 f25:=⟨Tryz.f270.name,by decide,Tryz.func270.trans (congrArg some (by kernel_rfl))⟩
 f26:=⟨Tryz.f271.name,by decide,Tryz.func271.trans (congrArg some (by kernel_rfl))⟩
 f27:=⟨Tryz.f272.name,by decide,Tryz.func272.trans (congrArg some (by kernel_rfl))⟩
 f28:=⟨Tryz.f273.name,by decide,Tryz.func273.trans (congrArg some (by kernel_rfl))⟩
 f29:=⟨Tryz.f274.name,by decide,Tryz.func274.trans (congrArg some (by kernel_rfl))⟩
 f31:=Tryz.func293.trans (congrArg some (by kernel_rfl))
 f32:=Tryz.func294.trans (congrArg some (by kernel_rfl))
 f36:=⟨Tryz.f292.name,by decide,Tryz.func292.trans (congrArg some (by kernel_rfl))⟩
 f37:=⟨Tryz.f295.name,by decide,Tryz.func295.trans (congrArg some (by kernel_rfl))⟩
 f38:=⟨Tryz.f296.name,by decide,Tryz.func296.trans (congrArg some (by kernel_rfl))⟩
 f39:=⟨Tryz.f297.name,by decide,Tryz.func297.trans (congrArg some (by kernel_rfl))⟩
 f41:=⟨Tryz.f312.name,by decide,Tryz.func312.trans (congrArg some (by kernel_rfl))⟩
 t0:=Tryz.underlying0
 a0:=Tryz.isAgg0
 z0:=Tryz.sizeOf0
 v0:=Tryz.zeroValue0
 t3:=Tryz.underlying3
 a3:=Tryz.isAgg3
 z3:=Tryz.sizeOf3
 v3:=Tryz.zeroValue3
 t4:=Tryz.underlying4
 a4:=Tryz.isAgg4
 z4:=Tryz.sizeOf4
 v4:=Tryz.zeroValue4
 t5:=Tryz.underlying5
 a5:=Tryz.isAgg5
 z5:=Tryz.sizeOf5
 v5:=Tryz.zeroValue5
 t9:=Tryz.underlying9
 a9:=Tryz.isAgg9
 z9:=Tryz.sizeOf9
 v9:=Tryz.zeroValue9
 t26:=Tryz.underlying238
 a26:=Tryz.isAgg238
 z26:=Tryz.sizeOf238
 v26:=Tryz.zeroValue238
 t27:=Tryz.underlying238
 a27:=Tryz.isAgg238
 z27:=Tryz.sizeOf238
 v27:=Tryz.zeroValue238
 t29:=Tryz.underlying9
 a29:=Tryz.isAgg9
 z29:=Tryz.sizeOf9
 v29:=Tryz.zeroValue9
 t32:=Tryz.underlying280
 a32:=Tryz.isAgg280
 z32:=Tryz.sizeOf280
 v32:=Tryz.zeroValue280
 t35:=Tryz.underlying293
 a35:=Tryz.isAgg293
 z35:=Tryz.sizeOf293
 v35:=Tryz.zeroValue293
 t36:=Tryz.underlying294
 a36:=Tryz.isAgg294
 z36:=Tryz.sizeOf294
 v36:=Tryz.zeroValue294
 t41:=Tryz.underlying299
 a41:=Tryz.isAgg299
 z41:=Tryz.sizeOf299
 v41:=Tryz.zeroValue299
 t44:=Tryz.underlying138
 a44:=Tryz.isAgg138
 z44:=Tryz.sizeOf138
 v44:=Tryz.zeroValue138
 t46:=Tryz.underlying303
 a46:=Tryz.isAgg303
 z46:=Tryz.sizeOf303
 v46:=Tryz.zeroValue303
 t53:=Tryz.underlying317
 a53:=Tryz.isAgg317
 z53:=Tryz.sizeOf317
 v53:=Tryz.zeroValue317
 t57:=Tryz.underlying321
 a57:=Tryz.isAgg321
 z57:=Tryz.sizeOf321
 v57:=Tryz.zeroValue321
 t63:=Tryz.underlying332
 a63:=Tryz.isAgg332
 z63:=Tryz.sizeOf332
 v63:=Tryz.zeroValue332
 t64:=Tryz.underlying333
 a64:=Tryz.isAgg333
 z64:=Tryz.sizeOf333
 v64:=Tryz.zeroValue333 }
theorem znX (m:Nat):AnyZ.SortsIn Tryz.prog zeZ Fence.wide m:=
 ⟨fun blk off cap ss W hH hblk hsz=>callsIn_wide.2 (AnyM.slices_Sort_string znt blk off cap ss W hH hblk hsz),
  fun p cap W=>callsIn_wide.2 (AnyM.slices_Sort_string_none znt p cap W)⟩
theorem zk6 (mb:Option Nat) (W:World):CallsIn Fence.wide 5 Tryz.prog 195 #[.map mb] W fun e w'=>e=.returned (.func (.func 225) #[] #[.pointer (some ⟨W.heap.size,0,none⟩)])∧w'=W.alloc (.cells #[.map mb] 188):=
 AnyZ.keys_in zns Fence.wide 5 trivial rfl mb W
theorem zif {H:Type} (b nn:Nat) (D0:DataW H) (R:Value→Option (DataW H×List MemPlace)) (w:World) (hown:w.ownsMap Tryz.prog 9 R b nn D0) (hmax:Maps.size D0≤maxLen) (hbytes:Maps.size D0*16≤140737488355328) :
 CallsIn Fence.wide 5 Tryz.prog 194 #[.func (.func 225) #[] #[.pointer (some ⟨w.heap.size,0,none⟩)]] (w.alloc (.cells #[.map (some b)] 188)) fun e w'=>∃ (v:Value) (ss:List (List UInt8)),e=.returned v∧ss.Perm (strKeys D0)∧
  w'.ownsRow (w.alloc (.cells #[.map (some b)] 188)).heap.size 9 1 v ss.length ((ss.mergeSort (fun x y=>decide (x≤y))).map encStr)∧(v=.slice none 0 0↔ss=[])∧Below (w.alloc (.cells #[.map (some b)] 188)).heap.size (w.alloc (.cells #[.map (some b)] 188)) w':=by
 have hbl:=hown.lt
 have hseq:SeqGives Fence.wide 2 Tryz.prog 225 #[.pointer (some ⟨w.heap.size,0,none⟩)] encStr (fun ss=>ss.Perm (strKeys D0)) (Maps.size D0) (w.alloc (.cells #[.map (some b)] 188)):=
  AnyZ.keys_gives (ρ:=zgx) { zns with } Fence.wide _ trivial rfl (by omega) w.heap.size b nn D0 _ (by simp) (by simp) (by
   obtain ⟨es,clock,hb,Ft,hs,hD⟩:=hown
   exact ⟨es,clock,(Below.heap_alloc _ _ b hbl).trans hb,Ft,hs,hD⟩)
 exact AnyZ.sorted_in zna Fence.wide 5 trivial trivial trivial trivial rfl (by omega) (znX _) (zev Tryz.func224 (by kernel_rfl) rfl) 225 #[.pointer (some ⟨w.heap.size,0,none⟩)] trivial (zev Tryz.func225 (by kernel_rfl) rfl) _ _ hmax hbytes _ hseq
end Go.Proofs.YtclclojenogpbaaGreat
namespace Go.Proofs.YtclclojenogpbaaGreat
open Go.RowKit Go.Maps Go.Sort F256
abbrev nmL (r:RecD):List UInt8:=r.name.data.toList
def LiveP (x:Nat→RecD) (N i:Nat):Prop:=i<N∧(x i).kind=1∧¬ (x i).length<0∧zdv (itm x (x i).name) N=(i:Int)
def Live (x:Nat→RecD) (N:Nat) (l:List Nat):Prop:=(∀ i,i∈l↔LiveP x N i)∧l.Pairwise (fun a b=>nmL (x a)<nmL (x b))
theorem Live.nodup {x:Nat→RecD} {N:Nat} {l:List Nat} (h:Live x N l):l.Nodup:=h.2.imp (fun {a b} hlt e=>by subst e;exact List.lt_irrefl _ hlt)
theorem Live.uniq {x:Nat→RecD} {N:Nat} {l m:List Nat} (h:Live x N l) (k:Live x N m):l=m:=by
 refine List.Perm.eq_of_pairwise (le:=fun a b=>nmL (x a)<nmL (x b)) (fun a b _ _ h1 h2=>absurd (List.lt_trans h1 h2) (List.lt_irrefl _)) h.2 k.2 ?_;exact (List.perm_ext_iff_of_nodup h.nodup k.nodup).2 (fun i=>by rw [h.1 i,k.1 i])
theorem Live.lt {x:Nat→RecD} {N:Nat} {l:List Nat} (h:Live x N l) {i:Nat} (hi:i∈l):i<N:=((h.1 i).1 hi).1
theorem zj0 {p:Nat→Prop}:∀ {k i:Nat},p i→i<k→(i:Int)≤zdv p k
 | 0,i,_,h=>by omega
 | k+1,i,hp,h=>by
  by_cases hk:p k
  ·rw [zeh hk];omega
  ·rw [zcD hk]
   by_cases e:i=k
   ·subst e;exact absurd hp hk
   ·exact zj0 hp (by omega)
theorem zjk (b:ByteArray):(⟨b.data.toList.toArray⟩:ByteArray)=b:=by cases b;simp
section
variable {w:World} {b n:Nat} {D:DataW Value}
theorem zmr (hown:w.ownsMap Tryz.prog 9 zfY b n D) (s:List UInt8):Maps.has D (.string s)=true↔s∈strKeys D:=by
 obtain ⟨es,rfl,hko⟩:=hown.keysOf
 have hk:∀ p∈es,∃ y,p.1=.string y:=fun p hp=>by
  obtain ⟨v,hv⟩:=hko p hp;obtain ⟨y,_,hy,_⟩:=Maps.keyOf_str Tryz.underlying9 hv;exact ⟨y,hy⟩
 rw [Maps.has_eq,List.any_eq_true]
 show _↔s∈es.map fun p=>strOf p.1
 rw [List.mem_map]
 constructor
 ·rintro ⟨p,hp',hs⟩
  obtain ⟨a,ha⟩:=hk p hp';rw [ha] at hs;exact ⟨p,hp',by rw [ha];simpa [Lit.sameKey,strOf] using hs⟩
 ·rintro ⟨p,hp',rfl⟩
  obtain ⟨a,ha⟩:=hk p hp';exact ⟨p,hp',by rw [ha];simp [Lit.sameKey,strOf]⟩
theorem zk7 (hown:w.ownsMap Tryz.prog 9 zfY b n D):(strKeys D).Nodup:=by
 obtain ⟨es,hD,hpw,_⟩:=hown.entries keyS;obtain ⟨es',hD',hko⟩:=hown.keysOf
 obtain rfl:es=es':=by rw [hD] at hD';simpa using hD'
 subst hD
 show (es.map fun p=>strOf p.1).Nodup
 refine List.pairwise_map.2 (hpw.imp_of_mem fun {p q} hp' hq' hne e=>hne ?_);obtain ⟨v,hv⟩:=hko p hp';obtain ⟨a,_,ha,_⟩:=Maps.keyOf_str Tryz.underlying9 hv;obtain ⟨v',hv'⟩:=hko q hq';obtain ⟨c,_,hc,_⟩:=Maps.keyOf_str Tryz.underlying9 hv';rw [ha,hc] at e ⊢;exact congrArg _ e
structure Names (x:Nat→RecD) (N:Nat) (ns:List (List UInt8)):Prop where
 rise:ns.Pairwise (·<·)
 at_:∀ s,s∈ns→s.length≤maxLen∧∃ i:Nat,i<N∧zdv (itm x ⟨s.toArray⟩) N=(i:Int)∧itm x ⟨s.toArray⟩ i
 all:∀ i,i<N→(x i).kind=1→nmL (x i)∈ns
theorem znb {x:Nat→RecD} {ce:Nat→List Value} {N:Nat} (hown:w.ownsMap Tryz.prog 9 zfY b n D) (hf:∀ y l,keyOf Tryz.prog 9 y=some l→Maps.has D l=(newF x ce N y).isSome∧∀ z,D.atKey l (.held z)=.held ((newF x ce N y).getD z)) (hnm:∀ i,i<N→(x i).name.size≤maxLen) {ss:List (List UInt8)} (hS:ss.Perm (strKeys D)):Names x N (ss.mergeSort (fun x y=>decide (x≤y))):=by
 have tr:∀ a b c:List UInt8,leB a b=true→leB b c=true→leB a c=true:=fun a b c h1 h2=>by simp only [leB,decide_eq_true_eq] at *;exact List.le_trans h1 h2
 have tot:∀ a b:List UInt8,(leB a b||leB b a)=true:=fun a b=>by simp only [leB,Bool.or_eq_true,decide_eq_true_eq];exact List.le_total a b
 have hp:=(List.mergeSort_perm ss (fun x y=>decide (x≤y))).trans hS;have nd:(ss.mergeSort (fun x y=>decide (x≤y))).Nodup:=hp.nodup_iff.2 (zk7 hown);have pw:=List.pairwise_mergeSort (le:=leB) tr tot ss;refine ⟨?_,fun s hs=>?_,fun i hi hk=>?_⟩
 ·refine (pw.and nd).imp (fun {a c} h=>?_)
  obtain ⟨h1,h2⟩:=h
  simp only [leB,decide_eq_true_eq] at h1
  apply Classical.byContradiction
  intro hn;exact h2 (List.le_antisymm h1 (List.not_lt.1 hn))
 ·have hm:s∈strKeys D:=hp.mem_iff.1 hs
  have hl:=strKeys_le hown Tryz.underlying9 s hm;refine ⟨hl,?_⟩;have hk:=WideMaps.keyOf_string_mk (P:=Tryz.prog) (k:=9) Tryz.underlying9 (s:=⟨s.toArray⟩) (by show s.toArray.size≤maxLen;simpa using hl)
  have e:(⟨s.toArray⟩:ByteArray).data.toList=s:=by simp
  rw [e] at hk;have h1:=(hf _ _ hk).1;rw [(zmr hown s).2 hm] at h1
  rcases zdW (itm x ⟨s.toArray⟩) N with e | ⟨i,q1,q2,q3⟩
  ·rw [(zgP x ce _ N).1 e] at h1
   cases h1
  ·exact ⟨i,q1,q2,q3⟩
 ·have hk1:=WideMaps.keyOf_string_mk (P:=Tryz.prog) (k:=9) Tryz.underlying9 (hnm i hi)
  have h1:=(hf _ _ hk1).1;have hge:=zj0 (p:=itm x (x i).name) ⟨hk,rfl⟩ hi
  rcases zdW (itm x (x i).name) N with e | ⟨j,q1,q2,q3⟩
  ·omega
  ·rw [(zgP x ce _ N).2 j q2] at h1
   exact hp.mem_iff.2 ((zmr hown _).1 h1)
end
noncomputable def idx (x:Nat→RecD) (N:Nat) (s:List UInt8):Nat:=(zdv (itm x ⟨s.toArray⟩) N).toNat
noncomputable def lvL (x:Nat→RecD) (N:Nat) (ns:List (List UInt8)):List Nat:=(ns.map (idx x N)).filter (fun i=>decide ((x i).length≠-1))
theorem Names.idx_is {x:Nat→RecD} {N:Nat} {ns:List (List UInt8)} (h:Names x N ns) {s:List UInt8} (hs:s∈ns):idx x N s<N∧zdv (itm x ⟨s.toArray⟩) N=(idx x N s:Int)∧(x (idx x N s)).kind=1∧(x (idx x N s)).name=⟨s.toArray⟩:=by
 obtain ⟨_,i,h1,h2,h3⟩:=h.at_ s hs
 have e:idx x N s=i:=by unfold idx;rw [h2];rfl
 rw [e];exact ⟨h1,h2,h3⟩
theorem znY {x:Nat→RecD} {N:Nat} {ns:List (List UInt8)} (h:Names x N ns) (hk:∀ i,i<N→(x i).kind=1→((x i).length<0↔(x i).length=-1)):Live x N (lvL x N ns):=by
 constructor
 ·intro i
  unfold lvL;rw [List.mem_filter,List.mem_map]
  constructor
  ·rintro ⟨⟨s,hs,rfl⟩,hl⟩
   obtain ⟨h1,h2,h3,h4⟩:=h.idx_is hs;refine ⟨h1,h3,fun c=>?_,by rw [h4];exact h2⟩;rw [(hk _ h1 h3).1 c] at hl
   simp at hl
  ·rintro ⟨h1,h2,h3,h4⟩
   refine ⟨⟨nmL (x i),h.all i h1 h2,?_⟩,by
    rw [decide_eq_true_eq]
    exact fun c=>h3 ((hk i h1 h2).2 c)⟩
   unfold idx;rw [zjk,h4];rfl
 ·unfold lvL
  refine List.Pairwise.filter _ (List.pairwise_map.2 (h.rise.imp_of_mem (fun {a c} ha hc hlt=>?_)));have ea:=(h.idx_is ha).2.2.2;have ec:=(h.idx_is hc).2.2.2
  show (x (idx x N a)).name.data.toList<(x (idx x N c)).name.data.toList
  rw [ea,ec]
  simpa using hlt
theorem znc (x:Nat→RecD) (N:Nat) (ns:List (List UInt8)) (s:List UInt8):lvL x N (ns++[s])=lvL x N ns++(if (x (idx x N s)).length=-1 then [] else [idx x N s]):=by
 unfold lvL;rw [List.map_append,List.filter_append]
 congr 1
 by_cases c:(x (idx x N s)).length=-1
 ·simp [c]
 ·simp [c]
theorem znZ (x:Nat→RecD) (N:Nat) (ns:List (List UInt8)):(lvL x N ns).length≤ns.length:=by
 unfold lvL;have:=List.length_filter_le (fun i=>decide ((x i).length≠-1)) (ns.map (idx x N))
 simpa using this
theorem zn0 {w:World} {b n:Nat} {D:DataW Value} (h:w.ownsMap Tryz.prog 9 zfY b n D):Maps.size D≤n:=by
 obtain ⟨es,clock,_,_,h1,rfl⟩:=h;rw [Maps.size_eq];refine Nat.le_trans ?_ h1;have:=(WideShapes.sorted_perm (es.toList.map (WideElems.rg Tryz.prog 9 zfY))).length_eq;rw [this]
 simp
theorem zjl {w:World} {base base' size n:Nat} {e:TypeId} {v:Value} {xs:List Value} (h:w.ownsRow base e size v n xs) (hb:base'≤base):w.ownsRow base' e size v n xs:=
 ⟨h.1,h.2.elim Or.inl (fun ⟨g,cap,cur,hv,hg,r⟩=>Or.inr ⟨g,cap,cur,hv,Nat.le_trans hb hg,r⟩)⟩
theorem zms {β:Type} (l:List β) {k:Nat} (h:k<l.length):l.take (k+1)=l.take k++[l[k]]:=by rw [List.take_add_one,List.getElem?_eq_getElem h];rfl
theorem zig {l:List Nat} {a i:Nat} (h:i<l.length):(l++[a]).getD i 0=l.getD i 0:=by
 rw [List.getD_eq_getElem?_getD,List.getD_eq_getElem?_getD,List.getElem?_append_left h]
theorem zih {l:List Nat} {a:Nat}:(l++[a]).getD l.length 0=a:=by
 rw [List.getD_eq_getElem?_getD,List.getElem?_append_right (Nat.le_refl _)]
 simp
set_option maxRecDepth 20000 in
theorem zmt {w:World} {lo B hi:Nat} {s:Nat→Int} {m N:Nat} {x:Nat→RecD} {ce:Nat→List Value} {v:Value} {b1 b2 b3 b4 b5:Nat} (h:Ldg w lo B s m N x ce v b1 b2 b3 b4 b5) (hN:N≤1000000) (hhi:hi≤w.heap.size) (hr:∀ i,i<N→zab.rd w hi (x i) (ce i)) (hk:∀ i,i<N→(x i).kind=1→((x i).length<0↔(x i).length=-1)) :
 Calls Tryz.prog 150 #[.pointer (some ⟨B,0,none⟩)] w fun e w'=>∃ u cu l,e=.returned u∧Live x N l∧View zab 72 w' w.heap.size hi u l.length (fun i=>x (l.getD i 0)) cu∧Below w.heap.size w w':=by
 have HL:=hid h;have HR:=hid hr;have HK:=hid hk;obtain ⟨D,hown,hf⟩:=h.m1;have hsz:=zn0 hown;have d4:w.cell? ⟨B,10,none⟩=some (.map (some b1)):=h.box.cell 10
 have HF:Hid (∀ ss:List (List UInt8),ss.Perm (strKeys D)→Names x N (ss.mergeSort (fun x y=>decide (x≤y)))):=fun ss hS=>znb hown hf (fun i hi'=>by
  obtain ⟨ao6,cap6,ao7,cap7,ao8,cap8,-,-,-,-,-,-,k2,-⟩:=zaN (hr i hi')
  exact k2) hS
 have HSZ:Hid (∀ ss:List (List UInt8),ss.Perm (strKeys D)→ss.length≤1000000):=fun ss hS=>by
  have e1:=hS.length_eq;obtain ⟨es,rfl,_⟩:=hown.keysOf
  have e2:(strKeys (.map es:DataW Value)).length=es.length:=by show (es.map _).length=_;simp
  rw [Maps.size_eq] at hsz;omega
 have CK:=callsIn_wide.1 (zk6 (some b1) w);have CS:=callsIn_wide.1 (zif b1 N D zfY w hown (by unfold maxLen;omega) (by omega));clear h hr hk hown hf hsz
 go_enter Tryz.func150,Tryz.ntmps150
 go_wp2_with fail
 refine CK.mono ?_;rintro e w1 ⟨rfl,rfl⟩
 go_wp2_with fail
 refine CS.mono ?_;rintro e w2 ⟨vs,ss,rfl,hS,hrow,hnil,hb2⟩;have hNm:=HF.out ss hS;have hlen:=HSZ.out ss hS;obtain ⟨ns,hns⟩:∃ ns,ns=ss.mergeSort (fun x y=>decide (x≤y)):=⟨_,rfl⟩
 have hnl:ns.length=ss.length:=by rw [hns];exact (List.mergeSort_perm ss _).length_eq
 rw [← hns] at hNm hrow;rw [← hnl] at hrow hlen;have HNM:=hid hNm;have bel2:Below w.heap.size w w2:=((Below.refl _ w).alloc (Nat.le_refl _) _).trans (hb2.mono (by simp));have HB2:=hid bel2;have z2:w.heap.size≤w2.heap.size:=bel2.size
 obtain ⟨ao,cap,hvs⟩:∃ ao cap,vs=.slice ao ns.length cap:=by
  rcases hrow.2 with ⟨rfl,e⟩ | ⟨g,c,cur,rfl,_⟩
  ·exact ⟨none,0,by rw [e]⟩
  ·exact ⟨_,_,rfl⟩
 subst hvs;have HROW:=hid hrow;obtain ⟨M,hM⟩:∃ M,M=ns.length:=⟨_,rfl⟩;have HM:=hid hM;rw [← hM] at hlen ⊢;clear CK CS hS hrow hnil hb2 hns hnl hNm bel2 d4 hM;go_wp2
 go_loopw [3,14] (fun u i wr=>∃ (k:Nat) (cu:Nat→List Value),k≤M∧i=.int .i64 k∧View zab 72 wr w2.heap.size hi u (lvL x N (ns.take k)).length (fun i=>x ((lvL x N (ns.take k)).getD i 0)) cu∧Below w2.heap.size w2 wr) (fun _ i _=>M-(intOf i).toNat)
 case atStart=>exact ⟨0,fun _=>[],Nat.zero_le _,rfl,View.nil _ _ _ _ _,Below.refl _ _⟩
 case round=>
  obtain ⟨k,cu,hk,rfl,hV,hb⟩:=hrel;obtain ⟨c,hc⟩:∃ c,c=(lvL x N (ns.take k)).length:=⟨_,rfl⟩;have HC:=hid hc;rw [← hc] at hV
  have hck:c≤k:=by
   have h1:=znZ x N (ns.take k);have h2:=List.length_take_le k ns;omega
  obtain ⟨au,cau,hu⟩:=hV.form;subst hu;have HV:=hid hV;have HB:=hid hb;have zr:w2.heap.size≤wr.heap.size:=hb.size;have HBW:=hid (HB2.out.trans (hb.mono z2))
  by_cases hlt:k<M
  ·have hkn:k<ns.length:=by rw [← HM.out];exact hlt
   obtain ⟨gs,hga,ye⟩:∃ gs,ao=some ⟨gs,0,none⟩∧wr.cell? ⟨gs,k,none⟩=some (encStr (ns[k])):=by
    rcases HROW.out.2 with ⟨_,e⟩ | ⟨g,c0,cur,e,q1,q2,q3,q4,q5,q6⟩
    ·omega
    ·cases e
     refine ⟨g,rfl,?_⟩
     have hg:g<w2.heap.size:=by
      obtain ⟨hh,_⟩:=Array.getElem?_eq_some_iff.1 q2;exact hh
     have e1:cur.toList[k]?=some (encStr (ns[k])):=by
      have:(cur.toList.take (ns.length*1))[k]?=some (encStr (ns[k])):=by
       rw [q6,List.getElem?_map,List.getElem?_eq_getElem hkn];rfl
      rw [List.getElem?_take,if_pos (by omega)] at this;exact this
     rw [hb.cell (p:=⟨g,k,none⟩) hg,cell_of_row w2 g k cur _ _ q2]
     simpa using e1
   subst hga;obtain ⟨nk,hnk⟩:∃ nk,nk=ns[k]:=⟨_,rfl⟩;rw [← hnk] at ye
   have hmem:nk∈ns:=by rw [hnk];exact List.getElem_mem hkn
   obtain ⟨j1,j2,j3,j4⟩:=HNM.out.idx_is hmem;have hll:=(HNM.out.at_ nk hmem).1;obtain ⟨j,hj⟩:∃ j,j=idx x N nk:=⟨_,rfl⟩;rw [← hj] at j1 j2 j3 j4;obtain ⟨kl,hkl⟩:=zlH (s:=⟨nk.toArray⟩) (by show nk.toArray.size≤maxLen;simpa using hll);have Lr:=HL.out.keepAll (fun b hb'=>HBW.out.block b hb');have hlook:=Lr.m1.look keyS Tryz.underlying188 (zon _) hkl;rw [(zgP x ce _ N).2 j j2] at hlook;have hlk:(Instr.lookup 188 (.map (some b1)) (.string ⟨nk.toArray⟩) false).run Tryz.prog wr=.ok (.agg (ce j).toArray) wr:=hlook;have d4:wr.cell? ⟨B,10,none⟩=some (.map (some b1)):=Lr.box.cell 10;have ye':wr.cell? ⟨gs,k,none⟩=some (.string ⟨nk.toArray⟩):=ye;have HJ:=hid j1;have hiff:=HK.out j j1 j3;obtain ⟨r,hrr⟩:∃ r,r=x j:=⟨_,rfl⟩;have HRR:=hid hrr;rw [← hrr] at hiff
   have rdj:zab.rd wr hi r (ce j):=by rw [hrr];exact zab.rd_below (HR.out j j1) HBW.out hhi
   have hcl:(ce j).length=9:=zab.rd_len rdj;have hone:=zgm rdj
   have HSN:Hid (lvL x N (ns.take (k+1))=lvL x N (ns.take k)++(if r.length=-1 then [] else [j])):=by
    show lvL x N (ns.take (k+1))=lvL x N (ns.take k)++(if r.length=-1 then [] else [j])
    rw [zms ns hkn,znc,← hnk,← hj,hrr]
   have t1:(k:Int)<(M:Int):=by omega
   have i1:(0:Int)≤(k:Int):=by omega
   have bA:Below wr.heap.size wr (wr.alloc (.cells (ce j).toArray 212)):=(Below.refl _ _).alloc (Nat.le_refl _) _;have X6:Box (wr.alloc (.cells (ce j).toArray 212)) wr.heap.size (ce j).toArray 212:=zap _ _ _
   have y3:(wr.alloc (.cells (ce j).toArray 212)).cell? ⟨wr.heap.size,3,none⟩=some (.int .i64 r.length):=by
    obtain ⟨ao6,cap6,ao7,cap7,ao8,cap8,hce,-⟩:=zaN rdj;rw [X6.cell 3,hce];rfl
   obtain ⟨W6,hW6⟩:∃ y,y=wr.alloc (.cells (ce j).toArray 212):=⟨_,rfl⟩;rw [← hW6] at bA X6 y3;have HBA:=hid bA;have z6:wr.heap.size<W6.heap.size:=X6.lt;have HX6:=hid X6;have HV6:Hid (View zab 72 W6 w2.heap.size hi (.slice au c cau) c (fun i=>x ((lvL x N (ns.take k)).getD i 0)) cu):=HV.out.below bA (by omega);have rd6:zab.rd W6 hi r (ce j):=zab.rd_below rdj bA (by omega);have HB6:=hid (HB.out.trans (bA.mono zr));clear hV hb hc Lr hlook ye hmem j1 j2 j3 j4 hj hkl hnk hrr bA X6
   by_cases hm:r.length=-1
   ·have HE:Hid (lvL x N (ns.take (k+1))=lvL x N (ns.take k)):=by
     show lvL x N (ns.take (k+1))=lvL x N (ns.take k)
     rw [HSN.out,if_pos hm,List.append_nil]
    have dm:(r.length != -1)=false:=by simp [hm]
    clear hm hiff
    go_wp2_with (refine zaQ 212 6 (.tmp 23) (ce j) _ 9 rfl rfl rfl rfl rfl rfl (by simp [Act.eval,Act.put]) (by simp [Act.eval,Act.put]) zlK rfl hcl hone ?_;rw [← hW6];clear hW6)
    go_roundw
    case rel=>exact ⟨k+1,cu,by omega,by go_num,by rw [HE.out,← HC.out];exact HV6.out,HB6.out⟩
    case measure=>simp [intOf];omega
   ·have HE:Hid (lvL x N (ns.take (k+1))=lvL x N (ns.take k)++[j]):=by
     show lvL x N (ns.take (k+1))=lvL x N (ns.take k)++[j]
     rw [HSN.out,if_neg hm]
    have dm:(r.length != -1)=true:=by simp [hm]
    have bS:Below W6.heap.size W6 (W6.alloc (.cells (ce j).toArray 72)):=(Below.refl _ _).alloc (Nat.le_refl _) _;obtain ⟨v8,w8,hrun,V8,_,b8⟩:=zbD zcW za2 67 (HV6.out.below bS (by omega)) 1 (zfC (b:=W6.heap.size) (hi:=hi) (y:=r) (cs:=ce j) (fun q hq=>((zap W6 (ce j).toArray 72).cell q).trans (by simp)) (zab.rd_below rd6 bS (by omega))) (by simp;omega) (by omega) (by omega) (fun e=>by cases e)
    have HV8:Hid (View zab 72 w8 w2.heap.size hi v8 (c+1) (fun i=>x ((lvL x N (ns.take (k+1))).getD i 0)) (cat2 cu c (fun _=>ce j))):=by
     refine V8.congr (fun i hi'=>?_);rw [HE.out]
     by_cases c1:i<c
     ·rw [zcl _ _ c1,zig (by rw [← HC.out];exact c1)]
     ·obtain rfl:i=c:=by omega
      have e9:=zcw (fun i=>x ((lvL x N (ns.take k)).getD i 0)) i (fun _=>r) 0;rw [Nat.add_zero] at e9;rw [e9,HRR.out];have:=@zih (lvL x N (ns.take k)) j;rw [← HC.out] at this;rw [this]
    have HB8:Hid (Below w2.heap.size w2 w8):=HB6.out.trans ((bS.mono (by omega)).trans b8);obtain ⟨a8,c8,hv8⟩:=V8.form;have HV8F:=hid hv8;have rg6:W6.rangeAt wr.heap.size 0 (ce j):=zoo HX6.out;clear V8 b8 bS hv8 hm hiff
    go_wp2_with (first | (refine zaQ 212 6 (.tmp 23) (ce j) _ 9 rfl rfl rfl rfl rfl rfl (by simp [Act.eval,Act.put]) (by simp [Act.eval,Act.put]) zlK rfl hcl hone ?_;rw [← hW6];clear hW6) | (refine wpList_load_mid rfl 72 (.tmp 31) rfl wr.heap.size 0 (by simp [Act.eval,Act.put]) (ce j) _ rg6 Tryz.underlying72 rfl (zar hcl) ?_) | (refine zkQ rfl (.tmp 32) rfl rd6 (by simp [Act.eval,Act.put]) ?_) | (at_builtin;refine zc4 rfl (.tmp 29) (.tmp 33) rfl ?_ ?_ hrun ?_;(simp [Act.eval,Act.put]);(simp [Act.eval,Act.put])))
    clear hrun;go_wp2
    go_roundw
    case rel=>exact ⟨k+1,_,by omega,by go_num,by rw [show (lvL x N (ns.take (k+1))).length=c+1 by rw [HE.out,List.length_append,← HC.out];rfl];exact HV8.out,HB8.out⟩
    case measure=>simp [intOf];omega
  ·obtain rfl:k=M:=by omega
   have e:ns.take k=ns:=by rw [HM.out];exact List.take_length
   have HLV:Hid (Live x N (lvL x N (ns.take k))):=by
    show Live x N (lvL x N (ns.take k))
    rw [e];exact znY HNM.out HK.out
   have HV9:Hid (View zab 72 wr w.heap.size hi (.slice au c cau) c (fun i=>x ((lvL x N (ns.take k)).getD i 0)) cu):=⟨zjl HV.out.row z2,HV.out.each⟩;clear hV hb e;go_wp2;go_ret;exact ⟨_,cu,lvL x N (ns.take k),rfl,HLV.out,by rw [← HC.out];exact HV9.out,HBW.out⟩
end Go.Proofs.YtclclojenogpbaaGreat
