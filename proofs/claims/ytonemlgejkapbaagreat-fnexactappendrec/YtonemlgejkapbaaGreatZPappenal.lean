/- For every world, number and record the program's AppendRec answers as the specification's does, writes into nothing that it is handed, and its answer is memory of its own: the law FnExactAppendRec returns true at every input, and changes nothing that was there. No condition. -/
import Derived.Test.YtonemlgejkapbaaGreatRows
import Derived.Test.YtonemlgejkapbaaGreatZPappenak
set_option linter.unusedVariables false
set_option linter.unusedSimpArgs false
set_option maxHeartbeats 16000000
namespace Go.Proofs.YtonemlgejkapbaaGreat
open Go.ChangeShapes Go.WideShapes Go.ChangeAt Go.RowKit F256
theorem zgL {α:Type} (c:α→Nat) (x:Nat→α) (k:Nat) (a:α):∀ n:Nat,sumN (fun i=>c (upd x k a i)) n≤sumN (fun i=>c (x i)) n+(if k<n then c a else 0)
 | 0=>by simp [sumN]
 | n+1=>by
  have ih:=zgL c x k a n;rw [zaG,zaG]
  by_cases h:n=k
  ·subst h
   rw [zaU,if_pos (by omega)];rw [if_neg (by omega)] at ih;omega
  ·rw [zaW x a h]
   by_cases h2:k<n
   ·rw [if_pos h2] at ih;rw [if_pos (by omega)];omega
   ·rw [if_neg h2] at ih;rw [if_neg (by omega)];omega
theorem ziZ {α:Type} (c:α→Nat) (p:Nat×(Nat→α)) (k:Nat) (a:α):cSl c (p.1,upd p.2 k a)≤cSl c p+c a:=by
 have:=zgL c p.2 k a p.1;unfold cSl
 show sumN (fun i=>c (upd p.2 k a i)) p.1≤_
 split at this<;>omega
theorem zjf (d:WorldD):∃ x,AskAns d x:=by
 obtain ⟨x,hx⟩:=zit d
 by_cases h:x=0
 ·subst h
  cases hd:d.down with
  | true=>exact ⟨9,.inr ⟨hx,.inl ⟨hd,rfl⟩⟩⟩
  | false=>exact ⟨0,.inr ⟨hx,.inr ⟨hd,rfl⟩⟩⟩
 ·exact ⟨x,.inl ⟨h,hx⟩⟩
theorem zjg (d:WorldD) (t:Int) (r:RecD):∃ q,AppAns d t r q:=by
 obtain ⟨x,hx⟩:=zjf d
 by_cases h:x=0
 ·subst h
  by_cases h1:InP t 0 1
  ·rcases zeP d.shape (fun _=>r) 1 with h2 | ⟨i,c,_,h3,h4,_⟩
   ·have h2:=h2 0 (by decide)
    by_cases h3:zim d t
    ·exact ⟨_,.inr ⟨hx,.inr ⟨h1,.inr ⟨h2,.inl ⟨h3,rfl⟩⟩⟩⟩⟩
    ·by_cases h4:zeB d
     ·exact ⟨_,.inr ⟨hx,.inr ⟨h1,.inr ⟨h2,.inr ⟨h3,.inl ⟨h4,rfl⟩⟩⟩⟩⟩⟩
     ·exact ⟨_,.inr ⟨hx,.inr ⟨h1,.inr ⟨h2,.inr ⟨h3,.inr ⟨h4,rfl⟩⟩⟩⟩⟩⟩
   ·exact ⟨_,.inr ⟨hx,.inr ⟨h1,.inl ⟨c,h3,h4,rfl⟩⟩⟩⟩
  ·exact ⟨_,.inr ⟨hx,.inl ⟨h1,rfl⟩⟩⟩
 ·exact ⟨_,.inl ⟨x,h,hx,rfl⟩⟩
theorem zf1 {f g:Nat→Nat}:∀ {n:Nat},(∀ i,i<n→f i=g i)→sumN f n=sumN g n
 | 0,_=>rfl
 | n+1,h=>by rw [zaG,zaG,zf1 (fun i hi=>h i (by omega)),h n (by omega)]
theorem zhI (x:TapeD) (r:RecD):zaC (zfT x r)≤zaC x+zaM r:=by
 have h1:=zgL zaM x.recs.2 x.recs.1 r (x.recs.1+1);rw [if_pos (by omega)] at h1
 have h2:sumN (fun i=>zaM (upd x.recs.2 x.recs.1 r i)) (x.recs.1+1)=sumN (fun i=>zaM (x.recs.2 i)) x.recs.1+zaM r:=by
  rw [zaG,zaU];have:sumN (fun i=>zaM (upd x.recs.2 x.recs.1 r i)) x.recs.1=sumN (fun i=>zaM (x.recs.2 i)) x.recs.1:=zf1 (fun i hi=>by rw [zaW _ _ (by omega)]);omega
 unfold zaC cSl
 show 1+sumN (fun i=>zaM (upd x.recs.2 x.recs.1 r i)) (x.recs.1+1)≤_
 omega
theorem zjh {r:RecD} (h:zaH r≤1048576):zer r≤20000000:=by
 have:=zgt r;unfold zaM at this;unfold zer;omega
theorem zji {d:WorldD} {t:Int} {r:RecD} {q:WorldResultD} (hq:AppAns d t r q) (hsz:zaS d≤1048576) (hsr:zaH r≤1048576):za2 q≤90000000:=by
 have h1:=zex d
 rcases hq with ⟨x,_,_,rfl⟩ | ⟨h0,⟨_,rfl⟩ | ⟨hp,⟨x,_,_,rfl⟩ | ⟨_,⟨_,rfl⟩ | ⟨_,⟨_,rfl⟩ | ⟨_,rfl⟩⟩⟩⟩⟩
 ·exact Nat.zero_le _
 ·exact Nat.zero_le _
 ·exact Nat.zero_le _
 ·exact Nat.zero_le _
 ·have e:za5 (cutW d)+d.on.1=za5 d:=by
   unfold za5 lenD
   show (cSl (cSl zaf)) d.groups+0+(cSl zaC) d.tapes+d.on.1=_
   omega
  show za5 (cutW d)≤_
  omega
 ·obtain ⟨T,rfl,hT,hn⟩:=zfa (zif h0) hp
  have hs:szSl zaN d.tapes≤1048576:=by unfold zaS at hsz;omega
  have h2:=ziZ zaC d.tapes T (zfT (d.tapes.2 T) r);have h3:=zhI (d.tapes.2 T) r;have h4:=zg4 (d.tapes.2 T);have h5:zaN (d.tapes.2 T)≤1048576:=zbf hs hT;have h6:=zgt r
  show za5 (ziY d T r)≤_
  unfold za5 at h1 ⊢
  show (cSl (cSl zaf)) d.groups+lenD d.on+(cSl zaC) (d.tapes.1,upd d.tapes.2 T (zfT (d.tapes.2 T) r))≤_
  omega
theorem ziq {d:WorldD} {t:Int} {r:RecD} {q:WorldResultD} {w:World} {f:Nat} {args:Array Value} (hq:AppAns d t r q) (h:Calls Tryz.prog f args w (zcF (AppAns d t r) w)):Calls Tryz.prog f args w fun e w'=>∃ cs,e=.returned (.agg cs.toArray)∧OwnT zaj w' w.heap.size w'.heap.size q cs∧Below w.heap.size w w':=
 h.mono fun e w' ⟨d',cs,h1,h2,h3,h4⟩=>⟨cs,h1,by rw [hq.one h2];exact h3,h4⟩
theorem secT {w:World} {lo hi:Nat} {r:RecD} {cs:List Value} (h:OwnT zac w lo hi r cs):∃ s6 m6 s7 m7 s8 m8,cs=[.int .i64 r.kind,.int .i64 r.seq,.string r.name,.int .i64 r.length,.int .i64 r.group,.int .i64 r.row,.slice s6 r.rows.1 m6,.slice s7 r.data.1 m7,.slice s8 r.delta.1 m8]:=by
 obtain ⟨M,h1,_⟩:=h;obtain ⟨a,b,c,e,f,g,K6,K7,K8,rfl,_⟩:=zdL h1;exact ⟨a,b,c,e,f,g,rfl⟩
theorem zf2:zaj.sz=16:=by kernel_rfl
theorem zed:(Tryz.prog.info? 53).map (·.size)=some 9:=by kernel_rfl
theorem zgM:(Tryz.prog.info? 56).map (·.size)=some 9:=by kernel_rfl
theorem zi0:(Tryz.prog.info? 56).map (fun i=>(i.zero.map (·.cells),i.size))=some (some #[.int .i64 0,.int .i64 0,.string ByteArray.empty,.int .i64 0,.int .i64 0,.int .i64 0,.slice none 0 0,.slice none 0 0,.slice none 0 0],9):=by kernel_rfl
set_option maxRecDepth 20000 in
theorem zcI (d:WorldD) (cs:List Value) (i0:Int) (r:RecD) (csr:List Value) (w:World) (rd0:zae.rd w w.heap.size d cs) (hi0:-9223372036854775808≤i0∧i0≤9223372036854775807) (rd1:zac.rd w w.heap.size r csr) :
 Calls Tryz.prog 4 #[.agg cs.toArray,.int .i64 i0,.agg csr.toArray] w fun e w'=>e=.returned (.bool true)∧Below w.heap.size w w':=by
 obtain ⟨v0,v1,v2,v3,v4,v5,v6,v7,v8,vp0,vl0,vq0,vp1,vl1,vq1,vp2,vl2,vq2,v9,v10,vb,rfl⟩:=zgE rd0;obtain ⟨o6,k6,o7,k7,o8,k8,rfl,-⟩:=zbd rd1;have HR:=hid rd0;have HR2:=hid rd1;have HHi0:=hid hi0;clear rd0 rd1 hi0;have T0:=zay w (rwV v0 v1 v2 v3 v4 v5 v6 v7 v8 vp0 vl0 vq0 vp1 vl1 vq1 vp2 vl2 vq2 v9 v10 vb).toArray (rwR r o6 k6 o7 k7 o8 k8).toArray 28 53
 go_enter Tryz.func4,Tryz.ntmps4
 go_wp2_with (refine zao 28 (.tmp 3) rfl rfl (w.heap.size) rfl T0.b1 Tryz.underlying28 zdU rfl ?_)
 refine (zhu _ d w.heap.size 1048576 _ (zae.rd_below HR.out T0.bel (Nat.le_refl _)) T0.bel.size (by omega)).mono ?_;rintro e wz ⟨x,rfl,hx,bz⟩;have TZ:=T0.call bz;have HTZ:=hid TZ;clear bz T0
 rcases hx with rfl | ⟨hsz,hx⟩
 ·clear TZ
  go_wp2;go_ret;exact ⟨rfl,HTZ.out.bel⟩
 obtain ⟨X,rfl⟩:∃ X:Nat,x=(X:Int):=⟨x.toNat,by omega⟩
 have hx0:¬ (X:Int)<0:=by omega
 have HXX:Hid (X≤1048576):=by show X≤1048576;omega
 have HSW:Hid (zaS d≤1048576):=by show zaS d≤1048576;omega
 clear hx hsz
 go_wp2_with (refine zao 53 (.tmp 5) rfl rfl (w.heap.size+1) rfl TZ.b2 Tryz.underlying53 zed rfl ?_)
 refine (zgZ _ r w.heap.size X _ (zac.rd_below HR2.out TZ.bel (Nat.le_refl _)) TZ.bel.size (by have:=HXX.out;omega)).mono ?_;rintro e w1 ⟨y,rfl,hy,b1⟩;have T1:=TZ.call b1;have HT1:=hid T1;clear b1 TZ HTZ
 rcases hy with rfl | ⟨hsr,hy⟩
 ·clear T1
  go_wp2;go_ret;exact ⟨rfl,HT1.out.bel⟩
 have hy0:¬ y<0:=by have:=HXX.out;omega
 have hsz:=HSW.out
 have hsr':zaH r≤1048576:=by have:=HXX.out;omega
 clear hy hsr HXX;obtain ⟨q,hq⟩:=zjg d i0 r;obtain ⟨N,hN⟩:∃ N,N=1+za2 q:=⟨_,rfl⟩
 have hj:1+za2 q≤100000000:=by have:=zji hq hsz hsr';omega
 obtain ⟨M,hM⟩:∃ M,M=1+za5 d:=⟨_,rfl⟩
 have hk:1+za5 d≤50000000:=by have:=zex d;omega
 obtain ⟨M2,hM2⟩:∃ M2,M2=M+zer r:=⟨_,rfl⟩
 have hk2:M+zer r≤100000000:=by have:=zjh hsr';omega
 have CT:∀ w',Below w1.heap.size w1 w'→Calls Tryz.prog 8 #[.agg (rwV v0 v1 v2 v3 v4 v5 v6 v7 v8 vp0 vl0 vq0 vp1 vl1 vq1 vp2 vl2 vq2 v9 v10 vb).toArray] w' fun e w''=>∃ cs',e=.returned (.agg cs'.toArray)∧OwnT zae w'' w'.heap.size w''.heap.size d cs'∧Below w'.heap.size w' w'':=fun w' hb=>
  zhm _ d w.heap.size w' (zae.rd_below (zae.rd_below HR.out HT1.out.bel (Nat.le_refl _)) hb HT1.out.bel.size) (Nat.le_trans HT1.out.bel.size hb.size) hsz
 have CT2:∀ w',Below w1.heap.size w1 w'→Calls Tryz.prog 20 #[.agg (rwR r o6 k6 o7 k7 o8 k8).toArray] w' fun e w''=>∃ cs',e=.returned (.agg cs'.toArray)∧OwnT zac w'' w'.heap.size w''.heap.size r cs'∧Below w'.heap.size w' w'':=fun w' hb=>
  zgX _ r w.heap.size w' (zac.rd_below (zac.rd_below HR2.out HT1.out.bel (Nat.le_refl _)) hb HT1.out.bel.size) (Nat.le_trans HT1.out.bel.size hb.size) hsr'
 have CS:=fun (cs' csr':List Value) (hi:Nat) (w':World) (h1:zae.rd w' hi d cs') (h3:zac.rd w' hi r csr') (h2:hi≤w'.heap.size)=>ziq hq (zen d i0 r cs' csr' hi w' h1 h3 h2 hsz hsr' HHi0.out);have CI:=fun (cs' csr':List Value) (hi:Nat) (w':World) (h1:zae.rd w' hi d cs') (h3:zac.rd w' hi r csr') (h2:hi≤w'.heap.size)=>ziq hq (zeo d i0 r cs' csr' hi w' h1 h3 h2 hsz hsr' HHi0.out);have CE:=fun c1 c2 h1 h2 w'=>zdx c1 c2 q h1 h2 w';have CW:=fun c1 c2 h1 h2 w'=>zet c1 c2 d h1 h2 w';have CW2:=fun c1 c2 h1 h2 w'=>zgY c1 c2 r h1 h2 w';have CM:=fun {w':World} {lo hi:Nat} {cs:List Value} (h:OwnT zaj w' lo hi q cs)=>zh4 zc6 h 1 hj;have CK:=fun {w':World} {lo hi:Nat} {cs:List Value} (h:OwnT zae w' lo hi d cs)=>zh4 zdn h 1 (by omega);have CK2:=fun {w':World} {lo hi:Nat} {cs:List Value} (h:OwnT zac w' lo hi r cs)=>zh4 zhq h M hk2;have CH:=fun (cs:List Value) (hi:Nat) (w':World) (h:zaj.rd w' hi (zbC 1 q) cs) (hh:hi≤w'.heap.size)=>zc7 cs q hi 1 w' h hh hj;rw [← hN] at CM CH;rw [← hM] at CK;rw [← hM2] at CK2;clear hN hM hM2 hj hk hk2 hq hsz hsr' HSW T1
 go_upto_region 8 with fail
 go_cut [8] (fun v wx=>∃ b lo hi cS,v=.pointer (some ⟨b,0,none⟩)∧Box wx b (cS:List Value).toArray 40∧OwnT zaj wx lo hi q cS∧Below w1.heap.size w1 wx∧w1.heap.size≤b∧b<wx.heap.size∧w1.heap.size≤lo∧hi≤wx.heap.size∧(b<lo∨hi≤b))
 case first=>
  have TD:=HT1.out;have KS:∀ w',Below w1.heap.size w1 w'→(Box w' w.heap.size (rwV v0 v1 v2 v3 v4 v5 v6 v7 v8 vp0 vl0 vq0 vp1 vl1 vq1 vp2 vl2 vq2 v9 v10 vb).toArray 28∧Box w' (w.heap.size+1) (rwR r o6 k6 o7 k7 o8 k8).toArray 53):=fun w' hb=>⟨TD.b1.call hb,TD.b2.call hb⟩;have B0:Below w1.heap.size w1 w1.drew:=zcP _;refine zbb 7 (fun w'=>Box w' w.heap.size (rwV v0 v1 v2 v3 v4 v5 v6 v7 v8 vp0 vl0 vq0 vp1 vl1 vq1 vp2 vl2 vq2 v9 v10 vb).toArray 28∧Box w' (w.heap.size+1) (rwR r o6 k6 o7 k7 o8 k8).toArray 53) (by kernel_rfl) (KS _ B0) (fun hHeld=>?_);refine zaa (i:=0) (oi:=_) 16 rfl (by kernel_rfl) (fun _ _ _ h=>h) (zbu 28 (.tmp 3) rfl rfl (w.heap.size) rfl (cs:=(rwV v0 v1 v2 v3 v4 v5 v6 v7 v8 vp0 vl0 vq0 vp1 vl1 vq1 vp2 vl2 vq2 v9 v10 vb)) (fun w' h=>h.1) Tryz.underlying28 zdU rfl) (by assumption) ?_
  try simp only [Act.put,SL]
  refine zjc 2 (v:=?_) rfl ?_ ?_
  rotate_left
  ·intro w' hSw;go_simp;try with_reducible rfl
  try simp only [Act.put,SL]
  refine zaa (i:=3) (oi:=_) 16 rfl (by kernel_rfl) (fun _ _ _ h=>h) (zbu 53 (.tmp 5) rfl rfl (w.heap.size+1) rfl (cs:=(rwR r o6 k6 o7 k7 o8 k8)) (fun w' h=>h.2) Tryz.underlying53 zed rfl) (by assumption) ?_
  try simp only [Act.put,SL]
  refine zbY (i:=1) (j:=6) (oi:=_) (oj:=_) rfl rfl (by kernel_rfl) (by decide) (fun KC hKC=>?_) (fun KC hKC=>?_)
  ·refine zaw rfl 8 _ _ rfl #[.agg (rwV v0 v1 v2 v3 v4 v5 v6 v7 v8 vp0 vl0 vq0 vp1 vl1 vq1 vp2 vl2 vq2 v9 v10 vb).toArray] ?_ Tryz.func8 (by kernel_rfl) (by kernel_rfl) (CT w1.drew B0) ?_
   ·simp [Act.eval,Act.put]
   rintro ee x1 ⟨cA,rfl,o1,b1⟩;have z1:=b1.size;have bb1:Below w1.heap.size w1 x1:=B0.trans (b1.mono B0.size);refine ⟨_,rfl,?_⟩;refine hKC.out _ _ (KS _ bb1) (fun hHeld=>?_);clear hKC KC
   try simp only [Act.put,SL]
   refine zbY (i:=4) (j:=6) (oi:=_) (oj:=_) rfl rfl (by kernel_rfl) (by decide) (fun KC hKC=>?_) (fun KC hKC=>?_)
   ·refine zaw rfl 20 _ _ rfl #[.agg (rwR r o6 k6 o7 k7 o8 k8).toArray] ?_ Tryz.func20 (by kernel_rfl) (by kernel_rfl) (CT2 x1 bb1) ?_
    ·simp [Act.eval,Act.put]
    rintro ee x2 ⟨cB,rfl,o2,b2⟩;have z2:=b2.size;have bb2:Below w1.heap.size w1 x2:=bb1.trans (b2.mono bb1.size);refine ⟨_,rfl,?_⟩;refine hKC.out _ _ (KS _ bb2) (fun hHeld=>?_);clear hKC KC
    try simp only [Act.put,SL]
    refine zbY (i:=5) (j:=6) (oi:=_) (oj:=_) rfl rfl (by kernel_rfl) (by decide) (fun KC hKC=>?_) (fun KC hKC=>?_)
    ·refine zaw rfl 19 _ _ rfl #[.agg cA.toArray,.int .i64 i0,.agg cB.toArray] ?_ Tryz.func19 (by kernel_rfl) (by kernel_rfl) (CS cA cB x2.heap.size x2 (((o1).call b2).weaken (Nat.le_refl _) (by omega)).rd ((o2).weaken (Nat.le_refl _) (by omega)).rd (Nat.le_refl _)) ?_
     ·simp [Act.eval,Act.put]
     rintro ee x3 ⟨cS,rfl,o3,b3⟩;have z3:=b3.size;have bb3:Below w1.heap.size w1 x3:=bb2.trans (b3.mono bb2.size);refine ⟨_,rfl,?_⟩;refine hKC.out _ _ (KS _ bb3) (fun hHeld=>?_);clear hKC KC
     try simp only [Act.put,SL]
     refine zam (i:=6) (o:=_) rfl (by kernel_rfl) (fun KC hKC=>?_);have b4:=bAl x3 (.cells rwZ.toArray 40);have X4:=zaz x3 rwZ.toArray 40;refine zbv rfl 40 rfl zci ?_;obtain ⟨x4,hx4⟩:∃ x,x=(x3.alloc (.cells rwZ.toArray 40)):=⟨_,rfl⟩;rw [← hx4] at b4 X4 ⊢;clear hx4;have z4:=b4.size;have y4:x3.heap.size<x4.heap.size:=X4.lt;have bb4:Below w1.heap.size w1 x4:=bb3.trans (b4.mono bb3.size);refine hKC.out _ _ (KS _ bb4) (fun hHeld=>?_);clear hKC KC
     try simp only [Act.put,SL]
     have oS:=(o3).call b4;have bX:=X4;have hl:=oS.len.trans zf2;have h1:=oS.one;refine za8 (o:=_) rfl (by kernel_rfl) (by kernel_rfl) rfl rfl 40 (.tmp 8) (.tmp 31) rfl (x3.heap.size) ?_ (cs:=cS) (old:=rwZ) ?_ bX zax hl rfl h1 ?_
     ·simp [Act.eval,Act.put]
     ·simp [Act.eval,Act.put]
     intro w9 X9 C9 z9
     try simp only [Act.put,SL]
     have zB:=B0.size;have z0:=bb4.size;have HF:Hid (Box w9 (x3.heap.size) cS.toArray 40∧OwnT zaj w9 (x2.heap.size) (x3.heap.size) q cS∧Below w1.heap.size w1 w9∧w1.heap.size≤x3.heap.size∧x3.heap.size<w9.heap.size∧w1.heap.size≤x2.heap.size∧x3.heap.size≤w9.heap.size∧(x3.heap.size<x2.heap.size∨x3.heap.size≤x3.heap.size)):=⟨X9,oS.chgk C9 (fun b hb=>by simp only [List.mem_cons,List.not_mem_nil,or_false] at hb;omega),bb4.trans (C9.bel (fun b hb=>by simp only [List.mem_cons,List.not_mem_nil,or_false] at hb;omega) bb4.size),by omega,by omega,by omega,by omega,by omega⟩;clear oS X9 C9 KS bX hl h1;go_wp2
     go_meet
     exact ⟨_,_,_,_,rfl,HF.out⟩
    ·have b5:=bAl x2 (.cells rwZ.toArray 40)
     have X5:=zaz x2 rwZ.toArray 40;refine zbv rfl 40 rfl zci ?_;obtain ⟨x5,hx5⟩:∃ x,x=(x2.alloc (.cells rwZ.toArray 40)):=⟨_,rfl⟩;rw [← hx5] at b5 X5 ⊢;clear hx5;have z5:=b5.size;have y5:x2.heap.size<x5.heap.size:=X5.lt;have bb5:Below w1.heap.size w1 x5:=bb2.trans (b5.mono bb2.size);refine hKC.out _ _ (KS _ bb5) (fun hHeld=>?_);clear hKC KC
     try simp only [Act.put,SL]
     refine zam (i:=5) (o:=_) rfl (by kernel_rfl) (fun KC hKC=>?_);refine zaw rfl 19 _ _ rfl #[.agg cA.toArray,.int .i64 i0,.agg cB.toArray] ?_ Tryz.func19 (by kernel_rfl) (by kernel_rfl) (CS cA cB x5.heap.size x5 ((((o1).call b2).call b5).weaken (Nat.le_refl _) (by omega)).rd (((o2).call b5).weaken (Nat.le_refl _) (by omega)).rd (Nat.le_refl _)) ?_
     ·simp [Act.eval,Act.put]
     rintro ee x6 ⟨cS,rfl,o6,b6⟩;have z6:=b6.size;have bb6:Below w1.heap.size w1 x6:=bb5.trans (b6.mono bb5.size);refine ⟨_,rfl,?_⟩;refine hKC.out _ _ (KS _ bb6) (fun hHeld=>?_);clear hKC KC
     try simp only [Act.put,SL]
     have oS:=o6;have bX:=(X5).call b6;have hl:=oS.len.trans zf2;have h1:=oS.one;refine za8 (o:=_) rfl (by kernel_rfl) (by kernel_rfl) rfl rfl 40 (.tmp 8) (.tmp 31) rfl (x2.heap.size) ?_ (cs:=cS) (old:=rwZ) ?_ bX zax hl rfl h1 ?_
     ·simp [Act.eval,Act.put]
     ·simp [Act.eval,Act.put]
     intro w9 X9 C9 z9
     try simp only [Act.put,SL]
     have zB:=B0.size;have z0:=bb6.size;have HF:Hid (Box w9 (x2.heap.size) cS.toArray 40∧OwnT zaj w9 (x5.heap.size) (x6.heap.size) q cS∧Below w1.heap.size w1 w9∧w1.heap.size≤x2.heap.size∧x2.heap.size<w9.heap.size∧w1.heap.size≤x5.heap.size∧x6.heap.size≤w9.heap.size∧(x2.heap.size<x5.heap.size∨x6.heap.size≤x2.heap.size)):=⟨X9,oS.chgk C9 (fun b hb=>by simp only [List.mem_cons,List.not_mem_nil,or_false] at hb;omega),bb6.trans (C9.bel (fun b hb=>by simp only [List.mem_cons,List.not_mem_nil,or_false] at hb;omega) bb6.size),by omega,by omega,by omega,by omega,by omega⟩;clear oS X9 C9 KS bX hl h1;go_wp2
     go_meet
     exact ⟨_,_,_,_,rfl,HF.out⟩
   ·have b7:=bAl x1 (.cells rwZ.toArray 40)
    have X7:=zaz x1 rwZ.toArray 40;refine zbv rfl 40 rfl zci ?_;obtain ⟨x7,hx7⟩:∃ x,x=(x1.alloc (.cells rwZ.toArray 40)):=⟨_,rfl⟩;rw [← hx7] at b7 X7 ⊢;clear hx7;have z7:=b7.size;have y7:x1.heap.size<x7.heap.size:=X7.lt;have bb7:Below w1.heap.size w1 x7:=bb1.trans (b7.mono bb1.size);refine hKC.out _ _ (KS _ bb7) (fun hHeld=>?_);clear hKC KC
    try simp only [Act.put,SL]
    refine zam (i:=4) (o:=_) rfl (by kernel_rfl) (fun KC hKC=>?_);refine zaw rfl 20 _ _ rfl #[.agg (rwR r o6 k6 o7 k7 o8 k8).toArray] ?_ Tryz.func20 (by kernel_rfl) (by kernel_rfl) (CT2 x7 bb7) ?_
    ·simp [Act.eval,Act.put]
    rintro ee x8 ⟨cB,rfl,o8,b8⟩;have z8:=b8.size;have bb8:Below w1.heap.size w1 x8:=bb7.trans (b8.mono bb7.size);refine ⟨_,rfl,?_⟩;refine hKC.out _ _ (KS _ bb8) (fun hHeld=>?_);clear hKC KC
    try simp only [Act.put,SL]
    refine zam (i:=5) (o:=_) rfl (by kernel_rfl) (fun KC hKC=>?_);refine zaw rfl 19 _ _ rfl #[.agg cA.toArray,.int .i64 i0,.agg cB.toArray] ?_ Tryz.func19 (by kernel_rfl) (by kernel_rfl) (CS cA cB x8.heap.size x8 ((((o1).call b7).call b8).weaken (Nat.le_refl _) (by omega)).rd ((o8).weaken (Nat.le_refl _) (by omega)).rd (Nat.le_refl _)) ?_
    ·simp [Act.eval,Act.put]
    rintro ee x9 ⟨cS,rfl,o9,b9⟩;have z9:=b9.size;have bb9:Below w1.heap.size w1 x9:=bb8.trans (b9.mono bb8.size);refine ⟨_,rfl,?_⟩;refine hKC.out _ _ (KS _ bb9) (fun hHeld=>?_);clear hKC KC
    try simp only [Act.put,SL]
    have oS:=o9;have bX:=((X7).call b8).call b9;have hl:=oS.len.trans zf2;have h1:=oS.one;refine za8 (o:=_) rfl (by kernel_rfl) (by kernel_rfl) rfl rfl 40 (.tmp 8) (.tmp 31) rfl (x1.heap.size) ?_ (cs:=cS) (old:=rwZ) ?_ bX zax hl rfl h1 ?_
    ·simp [Act.eval,Act.put]
    ·simp [Act.eval,Act.put]
    intro w9 X9 C9 z9
    try simp only [Act.put,SL]
    have zB:=B0.size;have z0:=bb9.size;have HF:Hid (Box w9 (x1.heap.size) cS.toArray 40∧OwnT zaj w9 (x8.heap.size) (x9.heap.size) q cS∧Below w1.heap.size w1 w9∧w1.heap.size≤x1.heap.size∧x1.heap.size<w9.heap.size∧w1.heap.size≤x8.heap.size∧x9.heap.size≤w9.heap.size∧(x1.heap.size<x8.heap.size∨x9.heap.size≤x1.heap.size)):=⟨X9,oS.chgk C9 (fun b hb=>by simp only [List.mem_cons,List.not_mem_nil,or_false] at hb;omega),bb9.trans (C9.bel (fun b hb=>by simp only [List.mem_cons,List.not_mem_nil,or_false] at hb;omega) bb9.size),by omega,by omega,by omega,by omega,by omega⟩;clear oS X9 C9 KS bX hl h1;go_wp2
    go_meet
    exact ⟨_,_,_,_,rfl,HF.out⟩
  ·have b10:=bAl w1.drew (.cells rwZ.toArray 40)
   have X10:=zaz w1.drew rwZ.toArray 40;refine zbv rfl 40 rfl zci ?_;obtain ⟨x10,hx10⟩:∃ x,x=(w1.drew.alloc (.cells rwZ.toArray 40)):=⟨_,rfl⟩;rw [← hx10] at b10 X10 ⊢;clear hx10;have z10:=b10.size;have y10:w1.drew.heap.size<x10.heap.size:=X10.lt;have bb10:Below w1.heap.size w1 x10:=B0.trans (b10.mono B0.size);refine hKC.out _ _ (KS _ bb10) (fun hHeld=>?_);clear hKC KC
   try simp only [Act.put,SL]
   refine zam (i:=1) (o:=_) rfl (by kernel_rfl) (fun KC hKC=>?_);refine zaw rfl 8 _ _ rfl #[.agg (rwV v0 v1 v2 v3 v4 v5 v6 v7 v8 vp0 vl0 vq0 vp1 vl1 vq1 vp2 vl2 vq2 v9 v10 vb).toArray] ?_ Tryz.func8 (by kernel_rfl) (by kernel_rfl) (CT x10 bb10) ?_
   ·simp [Act.eval,Act.put]
   rintro ee x11 ⟨cA,rfl,o11,b11⟩;have z11:=b11.size;have bb11:Below w1.heap.size w1 x11:=bb10.trans (b11.mono bb10.size);refine ⟨_,rfl,?_⟩;refine hKC.out _ _ (KS _ bb11) (fun hHeld=>?_);clear hKC KC
   try simp only [Act.put,SL]
   refine zam (i:=4) (o:=_) rfl (by kernel_rfl) (fun KC hKC=>?_);refine zaw rfl 20 _ _ rfl #[.agg (rwR r o6 k6 o7 k7 o8 k8).toArray] ?_ Tryz.func20 (by kernel_rfl) (by kernel_rfl) (CT2 x11 bb11) ?_
   ·simp [Act.eval,Act.put]
   rintro ee x12 ⟨cB,rfl,o12,b12⟩;have z12:=b12.size;have bb12:Below w1.heap.size w1 x12:=bb11.trans (b12.mono bb11.size);refine ⟨_,rfl,?_⟩;refine hKC.out _ _ (KS _ bb12) (fun hHeld=>?_);clear hKC KC
   try simp only [Act.put,SL]
   refine zam (i:=5) (o:=_) rfl (by kernel_rfl) (fun KC hKC=>?_);refine zaw rfl 19 _ _ rfl #[.agg cA.toArray,.int .i64 i0,.agg cB.toArray] ?_ Tryz.func19 (by kernel_rfl) (by kernel_rfl) (CS cA cB x12.heap.size x12 (((o11).call b12).weaken (Nat.le_refl _) (by omega)).rd ((o12).weaken (Nat.le_refl _) (by omega)).rd (Nat.le_refl _)) ?_
   ·simp [Act.eval,Act.put]
   rintro ee x13 ⟨cS,rfl,o13,b13⟩;have z13:=b13.size;have bb13:Below w1.heap.size w1 x13:=bb12.trans (b13.mono bb12.size);refine ⟨_,rfl,?_⟩;refine hKC.out _ _ (KS _ bb13) (fun hHeld=>?_);clear hKC KC
   try simp only [Act.put,SL]
   have oS:=o13;have bX:=(((X10).call b11).call b12).call b13;have hl:=oS.len.trans zf2;have h1:=oS.one;refine za8 (o:=_) rfl (by kernel_rfl) (by kernel_rfl) rfl rfl 40 (.tmp 8) (.tmp 31) rfl (w1.drew.heap.size) ?_ (cs:=cS) (old:=rwZ) ?_ bX zax hl rfl h1 ?_
   ·simp [Act.eval,Act.put]
   ·simp [Act.eval,Act.put]
   intro w9 X9 C9 z9
   try simp only [Act.put,SL]
   have zB:=B0.size;have z0:=bb13.size;have HF:Hid (Box w9 (w1.drew.heap.size) cS.toArray 40∧OwnT zaj w9 (x12.heap.size) (x13.heap.size) q cS∧Below w1.heap.size w1 w9∧w1.heap.size≤w1.drew.heap.size∧w1.drew.heap.size<w9.heap.size∧w1.heap.size≤x12.heap.size∧x13.heap.size≤w9.heap.size∧(w1.drew.heap.size<x12.heap.size∨x13.heap.size≤w1.drew.heap.size)):=⟨X9,oS.chgk C9 (fun b hb=>by simp only [List.mem_cons,List.not_mem_nil,or_false] at hb;omega),bb13.trans (C9.bel (fun b hb=>by simp only [List.mem_cons,List.not_mem_nil,or_false] at hb;omega) bb13.size),by omega,by omega,by omega,by omega,by omega⟩;clear oS X9 C9 KS bX hl h1;go_wp2
   go_meet
   exact ⟨_,_,_,_,rfl,HF.out⟩
 case rest=>
 obtain ⟨bS,lS,hS,cS,rfl,S4,OS4,B4,s1,s2,s3,s4,s5⟩:=hcut;obtain ⟨W4,rfl⟩:∃ x,x=wc:=⟨_,rfl⟩;obtain ⟨sc,s0,s1,s2,s3,s4,s5,s6,s7,s8,sp0,sl0,sq0,sp1,sl1,sq1,sp2,sl2,sq2,s9,s10,sb,rfl⟩:=zg5 OS4.rd;have z1:w.heap.size+1<w1.heap.size:=HT1.out.b2.lt;have z4:w1.heap.size≤W4.heap.size:=B4.size;have P4:=HT1.out.call B4
 go_wp2_with (refine zao 28 (.tmp 3) rfl rfl (w.heap.size) rfl P4.b1 Tryz.underlying28 zdU rfl ?_)
 refine (CT _ B4).mono ?_;rintro e w5 ⟨cX,rfl,oX,b5⟩;obtain ⟨x0,x1,x2,x3,x4,x5,x6,x7,x8,xp0,xl0,xq0,xp1,xl1,xq1,xp2,xl2,xq2,x9,x10,xb,rfl⟩:=zg6 oX;have z5:W4.heap.size≤w5.heap.size:=b5.size;have B5:=B4.trans (b5.mono (by omega));have S5:=S4.call b5;have OS5:=OS4.call b5;clear P4 b5 B4 S4 OS4
 go_upto_region 10 with (refine zbU 38 9 (.tmp 33) _ _ 15 rfl rfl rfl rfl rfl rfl rfl rfl ziK rfl rfl oX.one ?_)
 have bA:=bAl w5 (.cells (rwV x0 x1 x2 x3 x4 x5 x6 x7 x8 xp0 xl0 xq0 xp1 xl1 xq1 xp2 xl2 xq2 x9 x10 xb).toArray 38);have X6:=zaz w5 (rwV x0 x1 x2 x3 x4 x5 x6 x7 x8 xp0 xl0 xq0 xp1 xl1 xq1 xp2 xl2 xq2 x9 x10 xb).toArray 38;obtain ⟨W6,hW6⟩:∃ x,x=w5.alloc (.cells (rwV x0 x1 x2 x3 x4 x5 x6 x7 x8 xp0 xl0 xq0 xp1 xl1 xq1 xp2 xl2 xq2 x9 x10 xb).toArray 38):=⟨_,rfl⟩;rw [← hW6] at bA X6 ⊢;have B6:=B5.trans (bA.mono (by omega));have S6:=S5.call bA;have OS6:=OS5.call bA;have OX6:=oX.call bA;have z6:w5.heap.size<W6.heap.size:=X6.lt;have P6:=HT1.out.call B6;clear bA hW6 oX B5 S5 OS5
 go_wp2_with (refine zao 53 (.tmp 5) rfl rfl (w.heap.size+1) rfl P6.b2 Tryz.underlying53 zed rfl ?_)
 refine (CT2 _ B6).mono ?_;rintro e wr ⟨cR,rfl,oR,br⟩;obtain ⟨p6,l6,p7,l7,p8,l8,rfl⟩:=secT oR;have zr:W6.heap.size≤wr.heap.size:=br.size;have Br:=B6.trans (br.mono (by omega));have Sr:=S6.call br;have OSr:=OS6.call br;have Xr:=X6.call br;have OXr:=OX6.call br;clear P6 br B6 S6 OS6 X6 OX6
 go_upto_region 11 with (refine zbU 56 10 (.tmp 35) _ _ 9 rfl rfl rfl rfl rfl rfl rfl rfl zi0 rfl rfl oR.one ?_)
 have bA:=bAl wr (.cells (rwR r p6 l6 p7 l7 p8 l8).toArray 56);have Y6:=zaz wr (rwR r p6 l6 p7 l7 p8 l8).toArray 56;obtain ⟨Wr,hWr⟩:∃ x,x=wr.alloc (.cells (rwR r p6 l6 p7 l7 p8 l8).toArray 56):=⟨_,rfl⟩;rw [← hWr] at bA Y6 ⊢;have B6:=Br.trans (bA.mono (by omega));have S6:=Sr.call bA;have OS6:=OSr.call bA;have X6:=Xr.call bA;have OX6:=OXr.call bA;have OY6:=oR.call bA;have zr6:wr.heap.size<Wr.heap.size:=Y6.lt;clear bA hWr oR Br Sr OSr Xr OXr
 go_wp2_with (first | (refine zao 38 (.tmp 9) rfl rfl (w5.heap.size) rfl X6 Tryz.underlying38 zbH rfl ?_) | (refine zao 56 (.tmp 10) rfl rfl (wr.heap.size) rfl Y6 Tryz.underlying56 zgM rfl ?_))
 refine (CI _ _ Wr.heap.size _ (OX6.weaken (Nat.le_refl _) (by omega)).rd (OY6.weaken (Nat.le_refl _) (by omega)).rd (Nat.le_refl _)).mono ?_;rintro e w7 ⟨cG,rfl,oG,b7⟩;obtain ⟨gc,g0,g1,g2,g3,g4,g5,g6,g7,g8,gp0,gl0,gq0,gp1,gl1,gq1,gp2,gl2,gq2,g9,g10,gb,rfl⟩:=zg5 oG.rd;have z7:Wr.heap.size≤w7.heap.size:=b7.size;have B7:=B6.trans (b7.mono (by omega));have S7:=S6.call b7;have OS7:=OS6.call b7;have X7:=X6.call b7;have OX7:=OX6.call b7;have Y7:=Y6.call b7;have OY7:=OY6.call b7;clear b7 B6 S6 OS6 X6 OX6 Y6 OY6
 go_upto_region 12 with (refine zbU 40 11 (.tmp 39) _ _ 16 rfl rfl rfl rfl rfl rfl rfl rfl zci rfl rfl oG.one ?_)
 have bA:=bAl w7 (.cells (.int .i64 gc::rwV g0 g1 g2 g3 g4 g5 g6 g7 g8 gp0 gl0 gq0 gp1 gl1 gq1 gp2 gl2 gq2 g9 g10 gb).toArray 40);have G8:=zaz w7 (.int .i64 gc::rwV g0 g1 g2 g3 g4 g5 g6 g7 g8 gp0 gl0 gq0 gp1 gl1 gq1 gp2 gl2 gq2 g9 g10 gb).toArray 40;obtain ⟨W8,hW8⟩:∃ x,x=w7.alloc (.cells (.int .i64 gc::rwV g0 g1 g2 g3 g4 g5 g6 g7 g8 gp0 gl0 gq0 gp1 gl1 gq1 gp2 gl2 gq2 g9 g10 gb).toArray 40):=⟨_,rfl⟩;rw [← hW8] at bA G8 ⊢;have B8:=B7.trans (bA.mono (by omega));have S8:=S7.call bA;have OS8:=OS7.call bA;have X8:=X7.call bA;have OX8:=OX7.call bA;have Y8:=Y7.call bA;have OY8:=OY7.call bA;have OG8:=oG.call bA;have z8:w7.heap.size<W8.heap.size:=G8.lt;clear bA hW8 oG B7 S7 OS7 X7 OX7 Y7 OY7
 go_wp2_with (first | (refine zao 40 (.tmp 11) rfl rfl (w7.heap.size) rfl G8 Tryz.underlying40 zax rfl ?_) | (refine zao 40 (.tmp 8) rfl rfl (bS) rfl S8 Tryz.underlying40 zax rfl ?_))
 refine (CE _ _ _ _ _ OG8.rd OS8.rd (by omega) (by omega)).mono ?_;rintro e w9 ⟨rfl,b9⟩;have z9:W8.heap.size≤w9.heap.size:=b9.size;have B9:=B8.trans (b9.mono (by omega));have S9:=hid (S8.call b9);have OS9:=hid (OS8.call b9);have X9:=hid (X8.call b9);have OX9:=hid (OX8.call b9);have Y9:=hid (Y8.call b9);have OY9:=hid (OY8.call b9);have G9:=hid (G8.call b9);have OG9:=hid (OG8.call b9);have HB9:=hid B9;have P9:=hid (HT1.out.call B9);have CTc:=fun w' (hb:Below w9.heap.size w9 w')=>CT w' (HB9.out.trans (hb.mono (by omega)))
 clear b9 B8 S8 OS8 X8 OX8 Y8 OY8 G8 OG8 B9
 go_upto_region 14 with fail
 go_cut [48] (fun v wx=>v=.bool false∧Below w9.heap.size w9 wx)
 case first=>
  have KS:∀ w',Below w9.heap.size w9 w'→(Box w' (w5.heap.size) (rwV x0 x1 x2 x3 x4 x5 x6 x7 x8 xp0 xl0 xq0 xp1 xl1 xq1 xp2 xl2 xq2 x9 x10 xb).toArray 38∧Box w' (w.heap.size) (rwV v0 v1 v2 v3 v4 v5 v6 v7 v8 vp0 vl0 vq0 vp1 vl1 vq1 vp2 vl2 vq2 v9 v10 vb).toArray 28):=fun w' hb=>⟨(X9.out).call hb,(P9.out.b1).call hb⟩;have B0:Below w9.heap.size w9 w9.drew:=zcP _;refine zbb 4 (fun w'=>Box w' (w5.heap.size) (rwV x0 x1 x2 x3 x4 x5 x6 x7 x8 xp0 xl0 xq0 xp1 xl1 xq1 xp2 xl2 xq2 x9 x10 xb).toArray 38∧Box w' (w.heap.size) (rwV v0 v1 v2 v3 v4 v5 v6 v7 v8 vp0 vl0 vq0 vp1 vl1 vq1 vp2 vl2 vq2 v9 v10 vb).toArray 28) (by kernel_rfl) (KS _ B0) (fun hHeld=>?_);refine zaa (i:=0) (oi:=_) 16 rfl (by kernel_rfl) (fun _ _ _ h=>h) (zbu 38 (.tmp 9) rfl rfl (w5.heap.size) rfl (cs:=(rwV x0 x1 x2 x3 x4 x5 x6 x7 x8 xp0 xl0 xq0 xp1 xl1 xq1 xp2 xl2 xq2 x9 x10 xb)) (fun w' h=>h.1) Tryz.underlying38 zbH rfl) (by assumption) ?_
  try simp only [Act.put,SL]
  refine zaa (i:=1) (oi:=_) 16 rfl (by kernel_rfl) (fun _ _ _ h=>h) (zbu 28 (.tmp 3) rfl rfl (w.heap.size) rfl (cs:=(rwV v0 v1 v2 v3 v4 v5 v6 v7 v8 vp0 vl0 vq0 vp1 vl1 vq1 vp2 vl2 vq2 v9 v10 vb)) (fun w' h=>h.2) Tryz.underlying28 zdU rfl) (by assumption) ?_
  try simp only [Act.put,SL]
  refine zam (i:=2) (o:=_) rfl (by kernel_rfl) (fun KC hKC=>?_);refine zaw rfl 8 _ _ rfl #[.agg (rwV v0 v1 v2 v3 v4 v5 v6 v7 v8 vp0 vl0 vq0 vp1 vl1 vq1 vp2 vl2 vq2 v9 v10 vb).toArray] ?_ Tryz.func8 (by kernel_rfl) (by kernel_rfl) (CTc _ B0) ?_
  ·simp [Act.eval,Act.put]
  rintro ee wb ⟨cs',rfl,oR,bb⟩;have bR:Below w9.heap.size w9 wb:=B0.trans (bb.mono B0.size);refine ⟨_,rfl,?_⟩;refine hKC.out _ _ (KS _ bR) (fun hHeld=>?_);clear hKC KC
  try simp only [Act.put,SL]
  refine zam (i:=3) (o:=_) rfl (by kernel_rfl) (fun KC hKC=>?_);refine zaw rfl 12 _ _ rfl #[.agg (rwV x0 x1 x2 x3 x4 x5 x6 x7 x8 xp0 xl0 xq0 xp1 xl1 xq1 xp2 xl2 xq2 x9 x10 xb).toArray,.agg cs'.toArray] ?_ Tryz.func12 (by kernel_rfl) (by kernel_rfl) (CW _ _ _ _ _ ((OX9.out).call bR).rd oR.rd (Nat.le_trans (by omega) bR.size) (Nat.le_refl _)) ?_
  ·simp [Act.eval,Act.put]
  rintro ee wc' ⟨rfl,bc⟩;have bC:Below w9.heap.size w9 wc':=bR.trans (bc.mono bR.size);refine ⟨_,rfl,?_⟩;refine hKC.out _ _ (KS _ bC) (fun hHeld=>?_);clear hKC KC
  try simp only [Act.put,SL]
  refine zbk (o:=_) rfl (by kernel_rfl) (fun KC hKC=>?_);go_simp;refine hKC.out _ _ ?_;clear hKC KC
  try simp only [Act.put,SL]
  refine zbl (by kernel_rfl) ?_ _;go_wp2
  go_meet
  exact ⟨rfl,bC⟩
 case rest=>
 obtain ⟨rfl,b10⟩:=hcut;obtain ⟨wa,rfl⟩:∃ x,x=wc:=⟨_,rfl⟩;clear CTc;have za:w9.heap.size≤wa.heap.size:=b10.size;have Ba:Hid (Below w1.heap.size w1 wa):=HB9.out.trans (b10.mono (by omega));have Sa:=hid (S9.out.call b10);have OSa:=hid (OS9.out.call b10);have Xa:=hid (X9.out.call b10);have OXa:=hid (OX9.out.call b10);have Ya:=hid (Y9.out.call b10);have OYa:=hid (OY9.out.call b10);have Ga:=hid (G9.out.call b10);have OGa:=hid (OG9.out.call b10);have Pa:=hid (HT1.out.call Ba.out);have CTc:=fun w' (hb:Below wa.heap.size wa w')=>CT2 w' (Ba.out.trans (hb.mono (by omega)))
 clear b10 HB9 S9 OS9 X9 OX9 Y9 OY9 G9 OG9 P9
 go_upto_region 16 with fail
 go_cut [53] (fun v wx=>v=.bool false∧Below wa.heap.size wa wx)
 case first=>
  have KS:∀ w',Below wa.heap.size wa w'→(Box w' (wr.heap.size) (rwR r p6 l6 p7 l7 p8 l8).toArray 56∧Box w' (w.heap.size+1) (rwR r o6 k6 o7 k7 o8 k8).toArray 53):=fun w' hb=>⟨(Ya.out).call hb,(Pa.out.b2).call hb⟩;have B0:Below wa.heap.size wa wa.drew:=zcP _;refine zbb 4 (fun w'=>Box w' (wr.heap.size) (rwR r p6 l6 p7 l7 p8 l8).toArray 56∧Box w' (w.heap.size+1) (rwR r o6 k6 o7 k7 o8 k8).toArray 53) (by kernel_rfl) (KS _ B0) (fun hHeld=>?_);refine zaa (i:=0) (oi:=_) 16 rfl (by kernel_rfl) (fun _ _ _ h=>h) (zbu 56 (.tmp 10) rfl rfl (wr.heap.size) rfl (cs:=(rwR r p6 l6 p7 l7 p8 l8)) (fun w' h=>h.1) Tryz.underlying56 zgM rfl) (by assumption) ?_
  try simp only [Act.put,SL]
  refine zaa (i:=1) (oi:=_) 16 rfl (by kernel_rfl) (fun _ _ _ h=>h) (zbu 53 (.tmp 5) rfl rfl (w.heap.size+1) rfl (cs:=(rwR r o6 k6 o7 k7 o8 k8)) (fun w' h=>h.2) Tryz.underlying53 zed rfl) (by assumption) ?_
  try simp only [Act.put,SL]
  refine zam (i:=2) (o:=_) rfl (by kernel_rfl) (fun KC hKC=>?_);refine zaw rfl 20 _ _ rfl #[.agg (rwR r o6 k6 o7 k7 o8 k8).toArray] ?_ Tryz.func20 (by kernel_rfl) (by kernel_rfl) (CTc _ B0) ?_
  ·simp [Act.eval,Act.put]
  rintro ee wb ⟨cs',rfl,oR,bb⟩;have bR:Below wa.heap.size wa wb:=B0.trans (bb.mono B0.size);refine ⟨_,rfl,?_⟩;refine hKC.out _ _ (KS _ bR) (fun hHeld=>?_);clear hKC KC
  try simp only [Act.put,SL]
  refine zam (i:=3) (o:=_) rfl (by kernel_rfl) (fun KC hKC=>?_);refine zaw rfl 22 _ _ rfl #[.agg (rwR r p6 l6 p7 l7 p8 l8).toArray,.agg cs'.toArray] ?_ Tryz.func22 (by kernel_rfl) (by kernel_rfl) (CW2 _ _ _ _ _ ((OYa.out).call bR).rd oR.rd (Nat.le_trans (by omega) bR.size) (Nat.le_refl _)) ?_
  ·simp [Act.eval,Act.put]
  rintro ee wc' ⟨rfl,bc⟩;have bC:Below wa.heap.size wa wc':=bR.trans (bc.mono bR.size);refine ⟨_,rfl,?_⟩;refine hKC.out _ _ (KS _ bC) (fun hHeld=>?_);clear hKC KC
  try simp only [Act.put,SL]
  refine zbk (o:=_) rfl (by kernel_rfl) (fun KC hKC=>?_);go_simp;refine hKC.out _ _ ?_;clear hKC KC
  try simp only [Act.put,SL]
  refine zbl (by kernel_rfl) ?_ _;go_wp2
  go_meet
  exact ⟨rfl,bC⟩
 case rest=>
 obtain ⟨rfl,b10⟩:=hcut;obtain ⟨w10,rfl⟩:∃ x,x=wc:=⟨_,rfl⟩;clear CTc;have z10:wa.heap.size≤w10.heap.size:=b10.size;have B10:=Ba.out.trans (b10.mono (by omega));have S10:=Sa.out.call b10;have OS10:=OSa.out.call b10;have X10:=Xa.out.call b10;have OX10:=OXa.out.call b10;have Y10:=Ya.out.call b10;have OY10:=OYa.out.call b10;have G10:=Ga.out.call b10;have OG10:=OGa.out.call b10;clear b10 Ba Sa OSa Xa OXa Ya OYa Ga OGa Pa
 go_wp2_with (refine zao 38 (.tmp 9) rfl rfl (w5.heap.size) rfl X10 Tryz.underlying38 zbH rfl ?_)
 refine (CK OX10).mono ?_;rintro e wk ⟨rfl,OXk,ck⟩;have zk:w10.heap.size≤wk.heap.size:=ck.size;have Bk:=B10.trans (ck.bel (B:=w1.heap.size) (by omega) (by omega));have Sk:=S10.chg ck (.inl (by omega));have OSk:=OS10.chg ck (.inl (by omega));have Yk:=Y10.chg ck (.inr (by omega));have OYk:=OY10.chg ck (.inr (by omega));have Gk:=G10.chg ck (.inr (by omega));have OGk:=OG10.chg ck (.inr (by omega));clear OXk ck B10 S10 OS10 X10 OX10 Y10 OY10 G10 OG10
 go_wp2_with (refine zao 56 (.tmp 10) rfl rfl (wr.heap.size) rfl Yk Tryz.underlying56 zgM rfl ?_)
 refine (CK2 OYk).mono ?_;rintro e w11 ⟨rfl,OY11,c11⟩
 have hm0:¬ (M2:Int)<0:=by omega
 have z11:wk.heap.size≤w11.heap.size:=c11.size;have B11:=Bk.trans (c11.bel (B:=w1.heap.size) (by omega) (by omega));have S11:=Sk.chg c11 (.inl (by omega));have OS11:=OSk.chg c11 (.inl (by omega));have G11:=Gk.chg c11 (.inr (by omega));have OG11:=OGk.chg c11 (.inr (by omega));have u_0:w11.cell? ⟨w7.heap.size,0,none⟩=some (.int .i64 gc):=G11.cell 0;have u_1:w11.cell? ⟨w7.heap.size,1,none⟩=some (.int .i64 g0):=G11.cell 1;have u_2:w11.cell? ⟨w7.heap.size,2,none⟩=some (.int .i64 g1):=G11.cell 2;have u_3:w11.cell? ⟨w7.heap.size,3,none⟩=some (.int .i64 g2):=G11.cell 3;have u_4:w11.cell? ⟨w7.heap.size,4,none⟩=some (.int .i64 g3):=G11.cell 4;have u_5:w11.cell? ⟨w7.heap.size,5,none⟩=some (.int .i64 g4):=G11.cell 5;have u_6:w11.cell? ⟨w7.heap.size,6,none⟩=some (.int .i64 g5):=G11.cell 6;have u_7:w11.cell? ⟨w7.heap.size,7,none⟩=some (.int .i64 g6):=G11.cell 7;have u_8:w11.cell? ⟨w7.heap.size,8,none⟩=some (.int .i64 g7):=G11.cell 8;have u_9:w11.cell? ⟨w7.heap.size,9,none⟩=some (.int .i64 g8):=G11.cell 9;have u_10:w11.cell? ⟨w7.heap.size,10,none⟩=some (.slice gp0 gl0 gq0):=G11.cell 10;have u_11:w11.cell? ⟨w7.heap.size,11,none⟩=some (.slice gp1 gl1 gq1):=G11.cell 11;have u_12:w11.cell? ⟨w7.heap.size,12,none⟩=some (.slice gp2 gl2 gq2):=G11.cell 12;have u_13:w11.cell? ⟨w7.heap.size,13,none⟩=some (.int .i64 g9):=G11.cell 13;have u_14:w11.cell? ⟨w7.heap.size,14,none⟩=some (.int .i64 g10):=G11.cell 14;have u_15:w11.cell? ⟨w7.heap.size,15,none⟩=some (.bool gb):=G11.cell 15;have y_0:w11.cell? ⟨bS,0,none⟩=some (.int .i64 sc):=S11.cell 0;have y_1:w11.cell? ⟨bS,1,none⟩=some (.int .i64 s0):=S11.cell 1;have y_2:w11.cell? ⟨bS,2,none⟩=some (.int .i64 s1):=S11.cell 2;have y_3:w11.cell? ⟨bS,3,none⟩=some (.int .i64 s2):=S11.cell 3;have y_4:w11.cell? ⟨bS,4,none⟩=some (.int .i64 s3):=S11.cell 4;have y_5:w11.cell? ⟨bS,5,none⟩=some (.int .i64 s4):=S11.cell 5;have y_6:w11.cell? ⟨bS,6,none⟩=some (.int .i64 s5):=S11.cell 6;have y_7:w11.cell? ⟨bS,7,none⟩=some (.int .i64 s6):=S11.cell 7;have y_8:w11.cell? ⟨bS,8,none⟩=some (.int .i64 s7):=S11.cell 8;have y_9:w11.cell? ⟨bS,9,none⟩=some (.int .i64 s8):=S11.cell 9;have y_10:w11.cell? ⟨bS,10,none⟩=some (.slice sp0 sl0 sq0):=S11.cell 10;have y_11:w11.cell? ⟨bS,11,none⟩=some (.slice sp1 sl1 sq1):=S11.cell 11;have y_12:w11.cell? ⟨bS,12,none⟩=some (.slice sp2 sl2 sq2):=S11.cell 12;have y_13:w11.cell? ⟨bS,13,none⟩=some (.int .i64 s9):=S11.cell 13;have y_14:w11.cell? ⟨bS,14,none⟩=some (.int .i64 s10):=S11.cell 14;have y_15:w11.cell? ⟨bS,15,none⟩=some (.bool sb):=S11.cell 15;clear OY11 c11 Bk Sk OSk Yk OYk Gk OGk
 go_wp2_with fail
 refine (CE _ _ _ _ _ OG11.rd OS11.rd (by omega) (by omega)).mono ?_;rintro e w12 ⟨rfl,b12⟩;have z12:w11.heap.size≤w12.heap.size:=b12.size;have B12:=B11.trans (b12.mono (by omega));have S12:=S11.call b12;have OS12:=OS11.call b12;have G12:=G11.call b12;have OG12:=OG11.call b12;clear b12 B11 S11 OS11 G11 OG11 u_0 u_1 u_2 u_3 u_4 u_5 u_6 u_7 u_8 u_9 u_10 u_11 u_12 u_13 u_14 u_15 y_0 y_1 y_2 y_3 y_4 y_5 y_6 y_7 y_8 y_9 y_10 y_11 y_12 y_13 y_14 y_15
 go_wp2_with (refine zao 40 (.tmp 11) rfl rfl (w7.heap.size) rfl G12 Tryz.underlying40 zax rfl ?_)
 refine (CM OG12).mono ?_;rintro e w13 ⟨rfl,OG13,c13⟩;have z13:w12.heap.size≤w13.heap.size:=c13.size;have B13:=B12.trans (c13.bel (B:=w1.heap.size) (by omega) (by omega));have S13:=S12.chg c13 (.inl (by omega));have OS13:=OS12.chg c13 (.inl (by omega));have G13:=G12.chg c13 (.inr (by omega));clear c13 B12 S12 OS12 G12 OG12
 go_wp2_with (refine zao 40 (.tmp 11) rfl rfl (w7.heap.size) rfl G13 Tryz.underlying40 zax rfl ?_)
 refine (CH _ _ _ OG13.rd (by omega)).mono ?_;rintro e w14 ⟨rfl,b14⟩;have z14:w13.heap.size≤w14.heap.size:=b14.size;have B14:Hid (Below w1.heap.size w1 w14):=B13.trans (b14.mono (by omega));have S14:=hid (S13.call b14);have OS14:=hid (OS13.call b14);have G14:=hid (G13.call b14);have OG14:=hid (OG13.call b14);have P14:=HT1.out.call B14.out;clear b14 B13 S13 OS13 G13 OG13
 have hn0:¬ (N:Int)<0:=by omega
 have CTb:=fun w' (hb:Below w14.heap.size w14 w')=>CT w' (B14.out.trans (hb.mono (by omega)));have CT2b:=fun w' (hb:Below w14.heap.size w14 w')=>CT2 w' (B14.out.trans (hb.mono (by omega)))
 go_upto_region 31 with fail
 go_cut [15] (fun v wx=>∃ b lo hi cS,v=.pointer (some ⟨b,0,none⟩)∧Box wx b (cS:List Value).toArray 40∧OwnT zaj wx lo hi q cS∧Below w14.heap.size w14 wx∧w14.heap.size≤b∧b<wx.heap.size∧w14.heap.size≤lo∧hi≤wx.heap.size∧(b<lo∨hi≤b))
 case first=>
  have TD:=P14;have KS:∀ w',Below w14.heap.size w14 w'→(Box w' w.heap.size (rwV v0 v1 v2 v3 v4 v5 v6 v7 v8 vp0 vl0 vq0 vp1 vl1 vq1 vp2 vl2 vq2 v9 v10 vb).toArray 28∧Box w' (w.heap.size+1) (rwR r o6 k6 o7 k7 o8 k8).toArray 53):=fun w' hb=>⟨TD.b1.call hb,TD.b2.call hb⟩;have B0:Below w14.heap.size w14 w14.drew:=zcP _;refine zbb 7 (fun w'=>Box w' w.heap.size (rwV v0 v1 v2 v3 v4 v5 v6 v7 v8 vp0 vl0 vq0 vp1 vl1 vq1 vp2 vl2 vq2 v9 v10 vb).toArray 28∧Box w' (w.heap.size+1) (rwR r o6 k6 o7 k7 o8 k8).toArray 53) (by kernel_rfl) (KS _ B0) (fun hHeld=>?_);refine zaa (i:=0) (oi:=_) 16 rfl (by kernel_rfl) (fun _ _ _ h=>h) (zbu 28 (.tmp 3) rfl rfl (w.heap.size) rfl (cs:=(rwV v0 v1 v2 v3 v4 v5 v6 v7 v8 vp0 vl0 vq0 vp1 vl1 vq1 vp2 vl2 vq2 v9 v10 vb)) (fun w' h=>h.1) Tryz.underlying28 zdU rfl) (by assumption) ?_
  try simp only [Act.put,SL]
  refine zjc 2 (v:=?_) rfl ?_ ?_
  rotate_left
  ·intro w' hSw;go_simp;try with_reducible rfl
  try simp only [Act.put,SL]
  refine zaa (i:=3) (oi:=_) 16 rfl (by kernel_rfl) (fun _ _ _ h=>h) (zbu 53 (.tmp 5) rfl rfl (w.heap.size+1) rfl (cs:=(rwR r o6 k6 o7 k7 o8 k8)) (fun w' h=>h.2) Tryz.underlying53 zed rfl) (by assumption) ?_
  try simp only [Act.put,SL]
  refine zbY (i:=1) (j:=6) (oi:=_) (oj:=_) rfl rfl (by kernel_rfl) (by decide) (fun KC hKC=>?_) (fun KC hKC=>?_)
  ·refine zaw rfl 8 _ _ rfl #[.agg (rwV v0 v1 v2 v3 v4 v5 v6 v7 v8 vp0 vl0 vq0 vp1 vl1 vq1 vp2 vl2 vq2 v9 v10 vb).toArray] ?_ Tryz.func8 (by kernel_rfl) (by kernel_rfl) (CTb w14.drew B0) ?_
   ·simp [Act.eval,Act.put]
   rintro ee x1 ⟨cA,rfl,o1,b1⟩;have z1:=b1.size;have bb1:Below w14.heap.size w14 x1:=B0.trans (b1.mono B0.size);refine ⟨_,rfl,?_⟩;refine hKC.out _ _ (KS _ bb1) (fun hHeld=>?_);clear hKC KC
   try simp only [Act.put,SL]
   refine zbY (i:=4) (j:=6) (oi:=_) (oj:=_) rfl rfl (by kernel_rfl) (by decide) (fun KC hKC=>?_) (fun KC hKC=>?_)
   ·refine zaw rfl 20 _ _ rfl #[.agg (rwR r o6 k6 o7 k7 o8 k8).toArray] ?_ Tryz.func20 (by kernel_rfl) (by kernel_rfl) (CT2b x1 bb1) ?_
    ·simp [Act.eval,Act.put]
    rintro ee x2 ⟨cB,rfl,o2,b2⟩;have z2:=b2.size;have bb2:Below w14.heap.size w14 x2:=bb1.trans (b2.mono bb1.size);refine ⟨_,rfl,?_⟩;refine hKC.out _ _ (KS _ bb2) (fun hHeld=>?_);clear hKC KC
    try simp only [Act.put,SL]
    refine zbY (i:=5) (j:=6) (oi:=_) (oj:=_) rfl rfl (by kernel_rfl) (by decide) (fun KC hKC=>?_) (fun KC hKC=>?_)
    ·refine zaw rfl 21 _ _ rfl #[.agg cA.toArray,.int .i64 i0,.agg cB.toArray] ?_ Tryz.func21 (by kernel_rfl) (by kernel_rfl) (CI cA cB x2.heap.size x2 (((o1).call b2).weaken (Nat.le_refl _) (by omega)).rd ((o2).weaken (Nat.le_refl _) (by omega)).rd (Nat.le_refl _)) ?_
     ·simp [Act.eval,Act.put]
     rintro ee x3 ⟨cS,rfl,o3,b3⟩;have z3:=b3.size;have bb3:Below w14.heap.size w14 x3:=bb2.trans (b3.mono bb2.size);refine ⟨_,rfl,?_⟩;refine hKC.out _ _ (KS _ bb3) (fun hHeld=>?_);clear hKC KC
     try simp only [Act.put,SL]
     refine zam (i:=6) (o:=_) rfl (by kernel_rfl) (fun KC hKC=>?_);have b4:=bAl x3 (.cells rwZ.toArray 40);have X4:=zaz x3 rwZ.toArray 40;refine zbv rfl 40 rfl zci ?_;obtain ⟨x4,hx4⟩:∃ x,x=(x3.alloc (.cells rwZ.toArray 40)):=⟨_,rfl⟩;rw [← hx4] at b4 X4 ⊢;clear hx4;have z4:=b4.size;have y4:x3.heap.size<x4.heap.size:=X4.lt;have bb4:Below w14.heap.size w14 x4:=bb3.trans (b4.mono bb3.size);refine hKC.out _ _ (KS _ bb4) (fun hHeld=>?_);clear hKC KC
     try simp only [Act.put,SL]
     have oS:=(o3).call b4;have bX:=X4;have hl:=oS.len.trans zf2;have h1:=oS.one;refine za8 (o:=_) rfl (by kernel_rfl) (by kernel_rfl) rfl rfl 40 (.tmp 15) (.tmp 84) rfl (x3.heap.size) ?_ (cs:=cS) (old:=rwZ) ?_ bX zax hl rfl h1 ?_
     ·simp [Act.eval,Act.put]
     ·simp [Act.eval,Act.put]
     intro w9 X9 C9 z9
     try simp only [Act.put,SL]
     have zB:=B0.size;have z0:=bb4.size;have HF:Hid (Box w9 (x3.heap.size) cS.toArray 40∧OwnT zaj w9 (x2.heap.size) (x3.heap.size) q cS∧Below w14.heap.size w14 w9∧w14.heap.size≤x3.heap.size∧x3.heap.size<w9.heap.size∧w14.heap.size≤x2.heap.size∧x3.heap.size≤w9.heap.size∧(x3.heap.size<x2.heap.size∨x3.heap.size≤x3.heap.size)):=⟨X9,oS.chgk C9 (fun b hb=>by simp only [List.mem_cons,List.not_mem_nil,or_false] at hb;omega),bb4.trans (C9.bel (fun b hb=>by simp only [List.mem_cons,List.not_mem_nil,or_false] at hb;omega) bb4.size),by omega,by omega,by omega,by omega,by omega⟩;clear oS X9 C9 KS bX hl h1;go_wp2
     go_meet
     exact ⟨_,_,_,_,rfl,HF.out⟩
    ·have b5:=bAl x2 (.cells rwZ.toArray 40)
     have X5:=zaz x2 rwZ.toArray 40;refine zbv rfl 40 rfl zci ?_;obtain ⟨x5,hx5⟩:∃ x,x=(x2.alloc (.cells rwZ.toArray 40)):=⟨_,rfl⟩;rw [← hx5] at b5 X5 ⊢;clear hx5;have z5:=b5.size;have y5:x2.heap.size<x5.heap.size:=X5.lt;have bb5:Below w14.heap.size w14 x5:=bb2.trans (b5.mono bb2.size);refine hKC.out _ _ (KS _ bb5) (fun hHeld=>?_);clear hKC KC
     try simp only [Act.put,SL]
     refine zam (i:=5) (o:=_) rfl (by kernel_rfl) (fun KC hKC=>?_);refine zaw rfl 21 _ _ rfl #[.agg cA.toArray,.int .i64 i0,.agg cB.toArray] ?_ Tryz.func21 (by kernel_rfl) (by kernel_rfl) (CI cA cB x5.heap.size x5 ((((o1).call b2).call b5).weaken (Nat.le_refl _) (by omega)).rd (((o2).call b5).weaken (Nat.le_refl _) (by omega)).rd (Nat.le_refl _)) ?_
     ·simp [Act.eval,Act.put]
     rintro ee x6 ⟨cS,rfl,o6,b6⟩;have z6:=b6.size;have bb6:Below w14.heap.size w14 x6:=bb5.trans (b6.mono bb5.size);refine ⟨_,rfl,?_⟩;refine hKC.out _ _ (KS _ bb6) (fun hHeld=>?_);clear hKC KC
     try simp only [Act.put,SL]
     have oS:=o6;have bX:=(X5).call b6;have hl:=oS.len.trans zf2;have h1:=oS.one;refine za8 (o:=_) rfl (by kernel_rfl) (by kernel_rfl) rfl rfl 40 (.tmp 15) (.tmp 84) rfl (x2.heap.size) ?_ (cs:=cS) (old:=rwZ) ?_ bX zax hl rfl h1 ?_
     ·simp [Act.eval,Act.put]
     ·simp [Act.eval,Act.put]
     intro w9 X9 C9 z9
     try simp only [Act.put,SL]
     have zB:=B0.size;have z0:=bb6.size;have HF:Hid (Box w9 (x2.heap.size) cS.toArray 40∧OwnT zaj w9 (x5.heap.size) (x6.heap.size) q cS∧Below w14.heap.size w14 w9∧w14.heap.size≤x2.heap.size∧x2.heap.size<w9.heap.size∧w14.heap.size≤x5.heap.size∧x6.heap.size≤w9.heap.size∧(x2.heap.size<x5.heap.size∨x6.heap.size≤x2.heap.size)):=⟨X9,oS.chgk C9 (fun b hb=>by simp only [List.mem_cons,List.not_mem_nil,or_false] at hb;omega),bb6.trans (C9.bel (fun b hb=>by simp only [List.mem_cons,List.not_mem_nil,or_false] at hb;omega) bb6.size),by omega,by omega,by omega,by omega,by omega⟩;clear oS X9 C9 KS bX hl h1;go_wp2
     go_meet
     exact ⟨_,_,_,_,rfl,HF.out⟩
   ·have b7:=bAl x1 (.cells rwZ.toArray 40)
    have X7:=zaz x1 rwZ.toArray 40;refine zbv rfl 40 rfl zci ?_;obtain ⟨x7,hx7⟩:∃ x,x=(x1.alloc (.cells rwZ.toArray 40)):=⟨_,rfl⟩;rw [← hx7] at b7 X7 ⊢;clear hx7;have z7:=b7.size;have y7:x1.heap.size<x7.heap.size:=X7.lt;have bb7:Below w14.heap.size w14 x7:=bb1.trans (b7.mono bb1.size);refine hKC.out _ _ (KS _ bb7) (fun hHeld=>?_);clear hKC KC
    try simp only [Act.put,SL]
    refine zam (i:=4) (o:=_) rfl (by kernel_rfl) (fun KC hKC=>?_);refine zaw rfl 20 _ _ rfl #[.agg (rwR r o6 k6 o7 k7 o8 k8).toArray] ?_ Tryz.func20 (by kernel_rfl) (by kernel_rfl) (CT2b x7 bb7) ?_
    ·simp [Act.eval,Act.put]
    rintro ee x8 ⟨cB,rfl,o8,b8⟩;have z8:=b8.size;have bb8:Below w14.heap.size w14 x8:=bb7.trans (b8.mono bb7.size);refine ⟨_,rfl,?_⟩;refine hKC.out _ _ (KS _ bb8) (fun hHeld=>?_);clear hKC KC
    try simp only [Act.put,SL]
    refine zam (i:=5) (o:=_) rfl (by kernel_rfl) (fun KC hKC=>?_);refine zaw rfl 21 _ _ rfl #[.agg cA.toArray,.int .i64 i0,.agg cB.toArray] ?_ Tryz.func21 (by kernel_rfl) (by kernel_rfl) (CI cA cB x8.heap.size x8 ((((o1).call b7).call b8).weaken (Nat.le_refl _) (by omega)).rd ((o8).weaken (Nat.le_refl _) (by omega)).rd (Nat.le_refl _)) ?_
    ·simp [Act.eval,Act.put]
    rintro ee x9 ⟨cS,rfl,o9,b9⟩;have z9:=b9.size;have bb9:Below w14.heap.size w14 x9:=bb8.trans (b9.mono bb8.size);refine ⟨_,rfl,?_⟩;refine hKC.out _ _ (KS _ bb9) (fun hHeld=>?_);clear hKC KC
    try simp only [Act.put,SL]
    have oS:=o9;have bX:=((X7).call b8).call b9;have hl:=oS.len.trans zf2;have h1:=oS.one;refine za8 (o:=_) rfl (by kernel_rfl) (by kernel_rfl) rfl rfl 40 (.tmp 15) (.tmp 84) rfl (x1.heap.size) ?_ (cs:=cS) (old:=rwZ) ?_ bX zax hl rfl h1 ?_
    ·simp [Act.eval,Act.put]
    ·simp [Act.eval,Act.put]
    intro w9 X9 C9 z9
    try simp only [Act.put,SL]
    have zB:=B0.size;have z0:=bb9.size;have HF:Hid (Box w9 (x1.heap.size) cS.toArray 40∧OwnT zaj w9 (x8.heap.size) (x9.heap.size) q cS∧Below w14.heap.size w14 w9∧w14.heap.size≤x1.heap.size∧x1.heap.size<w9.heap.size∧w14.heap.size≤x8.heap.size∧x9.heap.size≤w9.heap.size∧(x1.heap.size<x8.heap.size∨x9.heap.size≤x1.heap.size)):=⟨X9,oS.chgk C9 (fun b hb=>by simp only [List.mem_cons,List.not_mem_nil,or_false] at hb;omega),bb9.trans (C9.bel (fun b hb=>by simp only [List.mem_cons,List.not_mem_nil,or_false] at hb;omega) bb9.size),by omega,by omega,by omega,by omega,by omega⟩;clear oS X9 C9 KS bX hl h1;go_wp2
    go_meet
    exact ⟨_,_,_,_,rfl,HF.out⟩
  ·have b10:=bAl w14.drew (.cells rwZ.toArray 40)
   have X10:=zaz w14.drew rwZ.toArray 40;refine zbv rfl 40 rfl zci ?_;obtain ⟨x10,hx10⟩:∃ x,x=(w14.drew.alloc (.cells rwZ.toArray 40)):=⟨_,rfl⟩;rw [← hx10] at b10 X10 ⊢;clear hx10;have z10:=b10.size;have y10:w14.drew.heap.size<x10.heap.size:=X10.lt;have bb10:Below w14.heap.size w14 x10:=B0.trans (b10.mono B0.size);refine hKC.out _ _ (KS _ bb10) (fun hHeld=>?_);clear hKC KC
   try simp only [Act.put,SL]
   refine zam (i:=1) (o:=_) rfl (by kernel_rfl) (fun KC hKC=>?_);refine zaw rfl 8 _ _ rfl #[.agg (rwV v0 v1 v2 v3 v4 v5 v6 v7 v8 vp0 vl0 vq0 vp1 vl1 vq1 vp2 vl2 vq2 v9 v10 vb).toArray] ?_ Tryz.func8 (by kernel_rfl) (by kernel_rfl) (CTb x10 bb10) ?_
   ·simp [Act.eval,Act.put]
   rintro ee x11 ⟨cA,rfl,o11,b11⟩;have z11:=b11.size;have bb11:Below w14.heap.size w14 x11:=bb10.trans (b11.mono bb10.size);refine ⟨_,rfl,?_⟩;refine hKC.out _ _ (KS _ bb11) (fun hHeld=>?_);clear hKC KC
   try simp only [Act.put,SL]
   refine zam (i:=4) (o:=_) rfl (by kernel_rfl) (fun KC hKC=>?_);refine zaw rfl 20 _ _ rfl #[.agg (rwR r o6 k6 o7 k7 o8 k8).toArray] ?_ Tryz.func20 (by kernel_rfl) (by kernel_rfl) (CT2b x11 bb11) ?_
   ·simp [Act.eval,Act.put]
   rintro ee x12 ⟨cB,rfl,o12,b12⟩;have z12:=b12.size;have bb12:Below w14.heap.size w14 x12:=bb11.trans (b12.mono bb11.size);refine ⟨_,rfl,?_⟩;refine hKC.out _ _ (KS _ bb12) (fun hHeld=>?_);clear hKC KC
   try simp only [Act.put,SL]
   refine zam (i:=5) (o:=_) rfl (by kernel_rfl) (fun KC hKC=>?_);refine zaw rfl 21 _ _ rfl #[.agg cA.toArray,.int .i64 i0,.agg cB.toArray] ?_ Tryz.func21 (by kernel_rfl) (by kernel_rfl) (CI cA cB x12.heap.size x12 (((o11).call b12).weaken (Nat.le_refl _) (by omega)).rd ((o12).weaken (Nat.le_refl _) (by omega)).rd (Nat.le_refl _)) ?_
   ·simp [Act.eval,Act.put]
   rintro ee x13 ⟨cS,rfl,o13,b13⟩;have z13:=b13.size;have bb13:Below w14.heap.size w14 x13:=bb12.trans (b13.mono bb12.size);refine ⟨_,rfl,?_⟩;refine hKC.out _ _ (KS _ bb13) (fun hHeld=>?_);clear hKC KC
   try simp only [Act.put,SL]
   have oS:=o13;have bX:=(((X10).call b11).call b12).call b13;have hl:=oS.len.trans zf2;have h1:=oS.one;refine za8 (o:=_) rfl (by kernel_rfl) (by kernel_rfl) rfl rfl 40 (.tmp 15) (.tmp 84) rfl (w14.drew.heap.size) ?_ (cs:=cS) (old:=rwZ) ?_ bX zax hl rfl h1 ?_
   ·simp [Act.eval,Act.put]
   ·simp [Act.eval,Act.put]
   intro w9 X9 C9 z9
   try simp only [Act.put,SL]
   have zB:=B0.size;have z0:=bb13.size;have HF:Hid (Box w9 (w14.drew.heap.size) cS.toArray 40∧OwnT zaj w9 (x12.heap.size) (x13.heap.size) q cS∧Below w14.heap.size w14 w9∧w14.heap.size≤w14.drew.heap.size∧w14.drew.heap.size<w9.heap.size∧w14.heap.size≤x12.heap.size∧x13.heap.size≤w9.heap.size∧(w14.drew.heap.size<x12.heap.size∨x13.heap.size≤w14.drew.heap.size)):=⟨X9,oS.chgk C9 (fun b hb=>by simp only [List.mem_cons,List.not_mem_nil,or_false] at hb;omega),bb13.trans (C9.bel (fun b hb=>by simp only [List.mem_cons,List.not_mem_nil,or_false] at hb;omega) bb13.size),by omega,by omega,by omega,by omega,by omega⟩;clear oS X9 C9 KS bX hl h1;go_wp2
   go_meet
   exact ⟨_,_,_,_,rfl,HF.out⟩
 case rest=>
 obtain ⟨bH,lH,hH,cH,rfl,H17,OH17,b17,t1,t2,t3,t4,t5⟩:=hcut;obtain ⟨W17,rfl⟩:∃ x,x=wc:=⟨_,rfl⟩;obtain ⟨hc,h0,h1,h2,h3,h4,h5,h6,h7,h8,hp0,hl0,hq0,hp1,hl1,hq1,hp2,hl2,hq2,h9,h10,hb,rfl⟩:=zg5 OH17.rd;have z17:w14.heap.size≤W17.heap.size:=b17.size;have B17:=B14.out.trans (b17.mono (by omega));have S17:=S14.out.call b17;have OS17:=OS14.out.call b17;have G17:=G14.out.call b17;have OG17:=OG14.out.call b17;clear b17 B14 S14 OS14 G14 OG14 P14 CTb CT2b
 go_wp2_with (first | (refine zao 40 (.tmp 15) rfl rfl (bH) rfl H17 Tryz.underlying40 zax rfl ?_) | (refine zao 40 (.tmp 8) rfl rfl (bS) rfl S17 Tryz.underlying40 zax rfl ?_))
 refine (CE _ _ _ _ _ OH17.rd OS17.rd (by omega) (by omega)).mono ?_;rintro e w18 ⟨rfl,b18⟩;have z18:W17.heap.size≤w18.heap.size:=b18.size;have B18:=B17.trans (b18.mono (by omega));have G18:=G17.call b18;have OG18:=OG17.call b18;clear b18 B17 S17 OS17 G17 OG17 OH17 H17
 go_wp2_with (refine zao 40 (.tmp 11) rfl rfl (w7.heap.size) rfl G18 Tryz.underlying40 zax rfl ?_)
 refine (CH _ _ _ OG18.rd (by omega)).mono ?_;rintro e w19 ⟨rfl,b19⟩;have HB:Hid (Below w.heap.size w w19):=(HT1.out.call (B18.trans (b19.mono (by omega)))).bel;clear b19 B18 G18 OG18;go_wp2;go_ret;exact ⟨rfl,HB.out⟩
set_option maxRecDepth 100000 in
theorem zcn (os:Os) (started:os.Started) (H:Type) (enc:TypeId×Value→H) :
 ReturnsInHanded {} Tryz.checked os 4 .any (Rows.fnExactAppendRecSpec.pre6 enc Tryz.prog Tryz.f4 Rows.fnExactAppendRecRow.domain false) (Rows.fnExactAppendRecSpec.post enc Tryz.prog Tryz.f4 false true false false):=by
 refine returnsInHanded_of_change (C:=Tryz.checked) zhJ started (by kernel_rfl) Tryz.func4
  (ChangeSpec.witness6 (enc:=enc) (C:=Tryz.checked) false ⟨#[],#[.agg (rwV 0 0 0 0 0 0 0 0 0 none 0 0 none 0 0 none 0 0 0 0 false).toArray,.int .i64 0,.agg #[.int .i64 0,.int .i64 0,.string ByteArray.empty,.int .i64 0,.int .i64 0,.int .i64 0,.slice none 0 0,.slice none 0 0,.slice none 0 0]],[]⟩ 8 (by kernel_rfl) (by kernel_rfl) (by kernel_rfl) (by kernel_rfl)) ?_
 intro W base args ds gs before hval0 hW hcnd _;have hval:∀ (j:Nat) t v,Tryz.f4.params[j]?=some t→args[j]?=some v→Value.okWide Tryz.prog W .any base t v:=hval0;have hW':=hW;obtain ⟨p,q,hA0,hV,rfl,hfz,hnd⟩:=hW;have hA:DataW.TrodAll enc Tryz.prog W 0 (fun _=>true) true Tryz.f4.params.toList args.toList ds p:=hA0;rw [Tryz.params4] at hA hval;obtain ⟨v0,vs0,d0,ds0,p0,q0,hargs,rfl,rfl,h0,r0⟩:=trodAll_cons hA;obtain ⟨v1,vs1,d1,ds1,p1,q1,rfl,rfl,rfl,h1,r1⟩:=trodAll_cons r0;obtain ⟨v2,vs2,d2,ds2,p2,q2,rfl,rfl,rfl,h2,r2⟩:=trodAll_cons r1;obtain ⟨rfl,rfl,rfl⟩:=trodAll_nil r2
 obtain rfl:args=#[v0,v1,v2]:=by cases args;simp_all
 obtain ⟨rfl,rfl⟩:=trodVars_none hV;have k0:=h0
 have lt0:∀ x∈p0,x.block<W.heap.size:=by obtain ⟨m,hm⟩:=k0;exact DataW.trod_lt m _ _ _ hm
 have k2:=h2
 have lt2:∀ x∈p2,x.block<W.heap.size:=by obtain ⟨m,hm⟩:=k2;exact DataW.trod_lt m _ _ _ hm
 obtain ⟨cs0,a0,rfl,rd0⟩:=zcQ zhe Tryz.underlying28 (hval 0 28 v0 rfl rfl) h0;obtain ⟨n1,rfl,rfl,rfl,hn1⟩:=open_int Tryz.underlying2 (hval 1 2 v1 rfl rfl) h1;obtain ⟨cs2,a2,rfl,rd2⟩:=zcQ zgR Tryz.underlying53 (hval 2 53 v2 rfl rfl) h2;clear hA0 hval0;refine (zcI a0 cs0 n1 a2 cs2 W rd0 (bounds_i64 hn1) rd2).mono fun e W' ⟨he,bel⟩=>?_;subst he;exact ⟨_,rfl,_,_,_,[],_,[],hW',trodAll_mk1 (shut_bool Tryz.underlying4 _),(trodAll_cons_mk (Below.trod zep (by kernel_rfl) (of_decide_eq_true (by kernel_rfl)) k0 bel lt0) (trodAll_cons_mk (shut_int Tryz.underlying2 hn1) (trodAll_cons_mk (Below.trod zep (by kernel_rfl) (of_decide_eq_true (by kernel_rfl)) k2 bel lt2) trodAll_mk0))),rfl,bel.frame _,fun h=>by cases h⟩
end Go.Proofs.YtonemlgejkapbaaGreat
