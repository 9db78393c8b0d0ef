/- For every world and every name the program's DropItem answers as the specification's does, writes into nothing that it is handed, and its answer is memory of its own: the law FnExactDropItem returns true at every input, and changes nothing that was there. No condition. -/
import Derived.Test.YtclclojenogpbaaGreatRows
import Derived.Test.YtclclojenogpbaaGreatZPdropiau
set_option linter.unusedVariables false
set_option linter.unusedSimpArgs false
set_option maxHeartbeats 16000000
namespace Go.Proofs.YtclclojenogpbaaGreat
open Go.ChangeShapes Go.WideShapes Go.ChangeAt Go.RowKit F256
theorem zjc {α:Type} (c:α→Nat) (x:Nat→α) (k:Nat) (a:α):∀ n:Nat,sumN (fun i=>c (upd x k a i)) n≤sumN (fun i=>c (x i)) n+(if k<n then c a else 0)
 | 0=>by simp [sumN]
 | n+1=>by
  have ih:=zjc c x k a n;rw [zaC,zaC]
  by_cases h:n=k
  ·subst h
   rw [zaY,if_pos (by omega)];rw [if_neg (by omega)] at ih;omega
  ·rw [za5 x a h]
   by_cases h2:k<n
   ·rw [if_pos h2] at ih;rw [if_pos (by omega)];omega
   ·rw [if_neg h2] at ih;rw [if_neg (by omega)];omega
theorem znc {α:Type} (c:α→Nat) (p:Nat×(Nat→α)) (k:Nat) (a:α):cSl c (p.1,upd p.2 k a)≤cSl c p+c a:=by
 have:=zjc c p.2 k a p.1;unfold cSl
 show sumN (fun i=>c (upd p.2 k a i)) p.1≤_
 split at this<;>omega
theorem zif {f g:Nat→Nat}:∀ {n:Nat},(∀ i,i<n→f i=g i)→sumN f n=sumN g n
 | 0,_=>rfl
 | n+1,h=>by rw [zaC,zaC,zif (fun i hi=>h i (by omega)),h n (by omega)]
theorem zkI (x:TapeD) (r:RecD):zaP (zg2 x r)≤zaP x+za3 r:=by
 have h1:=zjc za3 x.recs.2 x.recs.1 r (x.recs.1+1);rw [if_pos (by omega)] at h1
 have h2:sumN (fun i=>za3 (upd x.recs.2 x.recs.1 r i)) (x.recs.1+1)=sumN (fun i=>za3 (x.recs.2 i)) x.recs.1+za3 r:=by
  rw [zaC,zaY];have:sumN (fun i=>za3 (upd x.recs.2 x.recs.1 r i)) x.recs.1=sumN (fun i=>za3 (x.recs.2 i)) x.recs.1:=zif (fun i hi=>by rw [za5 _ _ (by omega)]);omega
 unfold zaP cSl
 show 1+sumN (fun i=>za3 (upd x.recs.2 x.recs.1 r i)) (x.recs.1+1)≤_
 omega
theorem znD {α:Type} (c:α→Nat) (p:Nat×(Nat→α)) (k:Nat) (hk:k<p.1):c (p.2 k)≤cSl c p:=by
 obtain ⟨n,x⟩:=p;unfold cSl
 simp only at hk ⊢
 induction n with
 | zero=>omega
 | succ n ih=>
  rw [zaC]
  by_cases h:k=n
  ·subst h;omega
  ·have:=ih (by omega);omega
theorem zmM (d:WorldD):zbc (cutW d)≤zbc d:=by
 unfold zbc lenD
 show (cSl (cSl zag)) d.groups+0+(cSl zaP) d.tapes≤_
 omega
theorem zlX (d:WorldD) (k:Nat) (hk:k<d.tapes.1) (r:RecD) (n:Int):zbc { zbR d k r with writes:=n }≤2*zbc d+za3 r:=by
 have h2:=znc zaP d.tapes k (zg2 (d.tapes.2 k) r);have h3:=zkI (d.tapes.2 k) r;have h4:=znD zaP d.tapes k hk;unfold zbc
 show (cSl (cSl zag)) d.groups+lenD d.on+(cSl zaP) (d.tapes.1,upd d.tapes.2 k (zg2 (d.tapes.2 k) r))≤_
 omega
theorem znd {d:WorldD} {r:RecD} (two:d.tapes.1=2) (hsz:zaS d≤1048576) (hsr:zaG r≤1048576):za4 (layF r d).final≤90000000:=by
 have h1:=zf7 d;have hc:=zk8 r;unfold layF
 split
 ·exact Nat.zero_le _
 ·have k1:=zlX d 0 (by omega) r (d.writes+1)
  have kc:=zmM d;have e0:runO (zaK r) 2 0 d=(zaK r 0 d).next (fun d1=>(zaK r 1 d1).next (fun d2=>.done 0 d2)):=rfl;rw [e0]
  by_cases hf:d.stop≠-1∧d.stop≤d.writes
  ·rw [show zaK r 0 d=.cut d by unfold zaK rawO;rw [if_pos hf]]
   show zbc (cutW d)≤_
   omega
  ·rw [show zaK r 0 d=.done 0 { zbR d 0 r with writes:=d.writes+1 } by unfold zaK rawO;rw [if_neg hf]]
   show za4 ((zaK r 1 { zbR d 0 r with writes:=d.writes+1 }).next (fun d2=>.done 0 d2)).final≤_
   obtain ⟨d1,hd1⟩:∃ x,x=({ zbR d 0 r with writes:=d.writes+1 }:WorldD):=⟨_,rfl⟩
   have t1:d1.tapes.1=2:=by rw [hd1];exact two
   rw [← hd1] at k1 ⊢;have k2:=zlX d1 1 (by omega) r (d1.writes+1);have kc1:=zmM d1
   by_cases hf1:d1.stop≠-1∧d1.stop≤d1.writes
   ·rw [show zaK r 1 d1=.cut d1 by unfold zaK rawO;rw [if_pos hf1]]
    show zbc (cutW d1)≤_
    omega
   ·rw [show zaK r 1 d1=.done 0 { zbR d1 1 r with writes:=d1.writes+1 } by unfold zaK rawO;rw [if_neg hf1]]
    show zbc { zbR d1 1 r with writes:=d1.writes+1 }≤_
    omega
theorem zmy {d:WorldD} {r:RecD} (two:d.tapes.1=2) (hsz:zaS d≤1048576) (hsr:zaG r≤1048576):za4 (zbN r d).final≤90000000:=by
 unfold zbN
 split
 ·exact Nat.zero_le _
 ·exact znd two hsz hsr
theorem znE (d:WorldD) (nm:ByteArray):∃ q,DrpAns d nm q:=by
 have nn:∃ p,NnAns d nm p:=by
  obtain ⟨x,hx⟩:=znC d
  by_cases h:x=0
  ·subst h
   by_cases hn:zb9 nm
   ·obtain ⟨l,hl⟩:=zjx (recT d.tapes.2 2) (lenT d.tapes.2 2)
    obtain ⟨q,hq⟩:=zny (fun i=>recT d.tapes.2 2 (l.getD i 0)) l.length nm;exact ⟨q,.inr ⟨.inr ⟨hx,.inr ⟨rfl,hn⟩⟩,.inr ⟨zfA hx,l,hl,hq⟩⟩⟩
   ·exact ⟨_,.inl ⟨5,by decide,.inr ⟨hx,.inl ⟨rfl,hn⟩⟩,rfl⟩⟩
  ·exact ⟨_,.inl ⟨x,h,.inl ⟨h,hx⟩,rfl⟩⟩
 obtain ⟨p,hp⟩:=nn
 by_cases h:p.code=0
 ·exact ⟨_,p,hp,.inr ⟨h,rfl⟩⟩
 ·exact ⟨_,p,hp,.inl ⟨h,rfl⟩⟩
theorem znF {d:WorldD} {nm:ByteArray} {q:WorldResultD} (hq:DrpAns d nm q) (hsz:zaS d≤1048576) (hnm:nm.size≤1048576):za4 q≤90000000:=by
 obtain ⟨p,hp,⟨_,rfl⟩ | ⟨h0,rfl⟩⟩:=hq
 ·exact Nat.zero_le _
 ·have hnf:NfC d nm 0:=by
   rcases hp with ⟨y,h1,_,h3⟩ | ⟨h,_⟩
   ·rw [h3] at h0;exact absurd h0 h1
   ·exact h
  exact zmy (zfA (zgY hnf).1).ok.form.2.2 hsz (zlT hnm)
theorem zlY {d:WorldD} {nm:ByteArray} {q:WorldResultD} {w:World} {f:Nat} {args:Array Value} (hq:DrpAns d nm q) (h:Calls Tryz.prog f args w (zfa (DrpAns d nm) w)):Calls Tryz.prog f args w fun e w'=>∃ cs,e=.returned (.agg cs.toArray)∧OwnT zaA w' w.heap.size w'.heap.size q cs∧Below w.heap.size w w':=
 h.mono fun e w' ⟨d',cs,h1,h2,h3,h4⟩=>⟨cs,h1,by rw [hq.one h2];exact h3,h4⟩
set_option maxRecDepth 20000 in
theorem zdH (d:WorldD) (cs:List Value) (i0:ByteArray) (w:World) (rd0:zad.rd w w.heap.size d cs) (hi0:i0.size≤maxLen) :
 Calls Tryz.prog 4 #[.agg cs.toArray,.string i0] w fun e w'=>e=.returned (.bool true)∧Below w.heap.size w w':=by
 obtain ⟨v0,v1,v2,v3,v4,v5,v6,v7,v8,vp0,vl0,vq0,vp1,vl1,vq1,vp2,vl2,vq2,v9,v10,vb,rfl⟩:=zgV rd0;have HR:=hid rd0;clear rd0;unfold maxLen at hi0;have T0:=zaI w (rwV v0 v1 v2 v3 v4 v5 v6 v7 v8 vp0 vl0 vq0 vp1 vl1 vq1 vp2 vl2 vq2 v9 v10 vb).toArray 28
 by_cases hbig:1048576<i0.size
 ·have hb1:(1048576:Int)<(i0.size:Int):=by omega
  have HB0:=hid T0.bel;clear T0 hbig
  go_enter Tryz.func4,Tryz.ntmps4
  go_wp2;go_ret;exact ⟨rfl,HB0.out⟩
 have hb1:¬ (1048576:Int)<(i0.size:Int):=by omega
 have HHi0:Hid (i0.size≤1048576):=(by omega:i0.size≤1048576);clear hbig hi0
 go_enter Tryz.func4,Tryz.ntmps4
 go_wp2_with (refine zai 28 (.tmp 2) rfl rfl (w.heap.size) rfl T0.b1 Tryz.underlying28 zfb rfl ?_)
 refine (zjY _ d w.heap.size 1048576 _ (zad.rd_below HR.out T0.bel (Nat.le_refl _)) T0.bel.size (by omega)).mono ?_;rintro e w1 ⟨x,rfl,hx,b1⟩;have T1:=T0.call b1;have HT1:=hid T1;clear b1 T0
 rcases hx with rfl | ⟨hsz,hx⟩
 ·clear T1
  go_wp2;go_ret;exact ⟨rfl,HT1.out.bel⟩
 have hx0:¬ x<0:=by omega
 clear hx;obtain ⟨q,hq⟩:=znE d i0;obtain ⟨N,hN⟩:∃ N,N=1+za4 q:=⟨_,rfl⟩
 have hj:1+za4 q≤100000000:=by have:=znF hq hsz HHi0.out;omega
 obtain ⟨M,hM⟩:∃ M,M=1+zbc d:=⟨_,rfl⟩
 have hk:1+zbc d≤100000000:=by have:=zf7 d;omega
 have CT:∀ w',Below w1.heap.size w1 w'→Calls Tryz.prog 8 #[.agg (rwV v0 v1 v2 v3 v4 v5 v6 v7 v8 vp0 vl0 vq0 vp1 vl1 vq1 vp2 vl2 vq2 v9 v10 vb).toArray] w' fun e w''=>∃ cs',e=.returned (.agg cs'.toArray)∧OwnT zad w'' w'.heap.size w''.heap.size d cs'∧Below w'.heap.size w' w'':=fun w' hb=>
  zjR _ d w.heap.size w' (zad.rd_below (zad.rd_below HR.out HT1.out.bel (Nat.le_refl _)) hb HT1.out.bel.size) (Nat.le_trans HT1.out.bel.size hb.size) hsz
 have CS:=fun (cs':List Value) (hi:Nat) (w':World) (h1:zad.rd w' hi d cs') (h2:hi≤w'.heap.size)=>zlY hq (zic d i0 cs' hi w' h1 h2 hsz HHi0.out);have CI:=fun (cs':List Value) (hi:Nat) (w':World) (h1:zad.rd w' hi d cs') (h2:hi≤w'.heap.size)=>zlY hq (zie d i0 cs' hi w' h1 h2 hsz HHi0.out);have CE:=fun c1 c2 h1 h2 w'=>zeN c1 c2 q h1 h2 w';have CW:=fun c1 c2 h1 h2 w'=>zf3 c1 c2 d h1 h2 w';have CM:=fun {w':World} {lo hi:Nat} {cs:List Value} (h:OwnT zaA w' lo hi q cs)=>zmC zd1 h 1 hj;have CK:=fun {w':World} {lo hi:Nat} {cs:List Value} (h:OwnT zad w' lo hi d cs)=>zmC zey h 1 hk;have CH:=fun (cs:List Value) (hi:Nat) (w':World) (h:zaA.rd w' hi (zb2 1 q) cs) (hh:hi≤w'.heap.size)=>zd2 cs q hi 1 w' h hh hj;rw [← hN] at CM CH;rw [← hM] at CK;clear hN hM hj hk hq hsz
 go_wp2_with (refine zai 28 (.tmp 2) rfl rfl (w.heap.size) rfl T1.b1 Tryz.underlying28 zfb rfl ?_)
 refine (CT _ (Below.refl _ _)).mono ?_;rintro e w2 ⟨c2,rfl,o2,b2⟩;have z1:w.heap.size<w1.heap.size:=T1.b1.lt;clear T1
 go_wp2_with fail
 refine (CS _ _ _ o2.rd (Nat.le_refl _)).mono ?_;rintro e w3 ⟨cS,rfl,oS,b3⟩;obtain ⟨sc,s0,s1,s2,s3,s4,s5,s6,s7,s8,sp0,sl0,sq0,sp1,sl1,sq1,sp2,sl2,sq2,s9,s10,sb,rfl⟩:=zjz oS.rd;have z2:w1.heap.size≤w2.heap.size:=b2.size;have z3:w2.heap.size≤w3.heap.size:=b3.size;have B3:Below w1.heap.size w1 w3:=b2.trans (b3.mono b2.size);clear o2 b2 b3
 go_upto_region 8 with (refine zaN 46 6 (.tmp 24) _ _ 16 rfl rfl rfl rfl rfl rfl rfl rfl ziJ rfl rfl oS.one ?_)
 have bA:=bAl w3 (.cells (.int .i64 sc::rwV s0 s1 s2 s3 s4 s5 s6 s7 s8 sp0 sl0 sq0 sp1 sl1 sq1 sp2 sl2 sq2 s9 s10 sb).toArray 46);have S4:=zaq w3 (.int .i64 sc::rwV s0 s1 s2 s3 s4 s5 s6 s7 s8 sp0 sl0 sq0 sp1 sl1 sq1 sp2 sl2 sq2 s9 s10 sb).toArray 46;obtain ⟨W4,hW4⟩:∃ x,x=w3.alloc (.cells (.int .i64 sc::rwV s0 s1 s2 s3 s4 s5 s6 s7 s8 sp0 sl0 sq0 sp1 sl1 sq1 sp2 sl2 sq2 s9 s10 sb).toArray 46):=⟨_,rfl⟩;rw [← hW4] at bA S4 ⊢;have B4:=B3.trans (bA.mono (by omega));have P4:=HT1.out.call B4;have OS4:=oS.call bA;have z4:w3.heap.size<W4.heap.size:=S4.lt;clear bA hW4 oS B3
 go_wp2_with (refine zai 28 (.tmp 2) rfl rfl (w.heap.size) rfl P4.b1 Tryz.underlying28 zfb rfl ?_)
 refine (CT _ B4).mono ?_;rintro e w5 ⟨cX,rfl,oX,b5⟩;obtain ⟨x0,x1,x2,x3,x4,x5,x6,x7,x8,xp0,xl0,xq0,xp1,xl1,xq1,xp2,xl2,xq2,x9,x10,xb,rfl⟩:=zjA oX;have z5:W4.heap.size≤w5.heap.size:=b5.size;have B5:=B4.trans (b5.mono (by omega));have S5:=S4.call b5;have OS5:=OS4.call b5;clear P4 b5 B4 S4 OS4
 go_upto_region 9 with (refine zaN 38 7 (.tmp 26) _ _ 15 rfl rfl rfl rfl rfl rfl rfl rfl zmD rfl rfl oX.one ?_)
 have bA:=bAl w5 (.cells (rwV x0 x1 x2 x3 x4 x5 x6 x7 x8 xp0 xl0 xq0 xp1 xl1 xq1 xp2 xl2 xq2 x9 x10 xb).toArray 38);have X6:=zaq w5 (rwV x0 x1 x2 x3 x4 x5 x6 x7 x8 xp0 xl0 xq0 xp1 xl1 xq1 xp2 xl2 xq2 x9 x10 xb).toArray 38;obtain ⟨W6,hW6⟩:∃ x,x=w5.alloc (.cells (rwV x0 x1 x2 x3 x4 x5 x6 x7 x8 xp0 xl0 xq0 xp1 xl1 xq1 xp2 xl2 xq2 x9 x10 xb).toArray 38):=⟨_,rfl⟩;rw [← hW6] at bA X6 ⊢;have B6:=B5.trans (bA.mono (by omega));have S6:=S5.call bA;have OS6:=OS5.call bA;have OX6:=oX.call bA;have z6:w5.heap.size<W6.heap.size:=X6.lt;clear bA hW6 oX B5 S5 OS5
 go_wp2_with (refine zai 38 (.tmp 7) rfl rfl (w5.heap.size) rfl X6 Tryz.underlying38 zbk rfl ?_)
 refine (CI _ _ _ OX6.rd (by omega)).mono ?_;rintro e w7 ⟨cG,rfl,oG,b7⟩;obtain ⟨gc,g0,g1,g2,g3,g4,g5,g6,g7,g8,gp0,gl0,gq0,gp1,gl1,gq1,gp2,gl2,gq2,g9,g10,gb,rfl⟩:=zjz oG.rd;have z7:W6.heap.size≤w7.heap.size:=b7.size;have B7:=B6.trans (b7.mono (by omega));have S7:=S6.call b7;have OS7:=OS6.call b7;have X7:=X6.call b7;have OX7:=OX6.call b7;clear b7 B6 S6 OS6 X6 OX6
 go_upto_region 10 with (refine zaN 46 8 (.tmp 29) _ _ 16 rfl rfl rfl rfl rfl rfl rfl rfl ziJ rfl rfl oG.one ?_)
 have bA:=bAl w7 (.cells (.int .i64 gc::rwV g0 g1 g2 g3 g4 g5 g6 g7 g8 gp0 gl0 gq0 gp1 gl1 gq1 gp2 gl2 gq2 g9 g10 gb).toArray 46);have G8:=zaq w7 (.int .i64 gc::rwV g0 g1 g2 g3 g4 g5 g6 g7 g8 gp0 gl0 gq0 gp1 gl1 gq1 gp2 gl2 gq2 g9 g10 gb).toArray 46;obtain ⟨W8,hW8⟩:∃ x,x=w7.alloc (.cells (.int .i64 gc::rwV g0 g1 g2 g3 g4 g5 g6 g7 g8 gp0 gl0 gq0 gp1 gl1 gq1 gp2 gl2 gq2 g9 g10 gb).toArray 46):=⟨_,rfl⟩;rw [← hW8] at bA G8 ⊢;have B8:=B7.trans (bA.mono (by omega));have S8:=S7.call bA;have OS8:=OS7.call bA;have X8:=X7.call bA;have OX8:=OX7.call bA;have OG8:=oG.call bA;have z8:w7.heap.size<W8.heap.size:=G8.lt;clear bA hW8 oG B7 S7 OS7 X7 OX7
 go_wp2_with (first | (refine zai 46 (.tmp 8) rfl rfl (w7.heap.size) rfl G8 Tryz.underlying46 zaU rfl ?_) | (refine zai 46 (.tmp 6) rfl rfl (w3.heap.size) rfl S8 Tryz.underlying46 zaU rfl ?_))
 refine (CE _ _ _ _ _ OG8.rd OS8.rd (by omega) (by omega)).mono ?_;rintro e w9 ⟨rfl,b9⟩;have z9:W8.heap.size≤w9.heap.size:=b9.size;have B9:=B8.trans (b9.mono (by omega));have S9:=hid (S8.call b9);have OS9:=hid (OS8.call b9);have X9:=hid (X8.call b9);have OX9:=hid (OX8.call b9);have G9:=hid (G8.call b9);have OG9:=hid (OG8.call b9);have HB9:=hid B9;have P9:=hid (HT1.out.call B9);have CTc:=fun w' (hb:Below w9.heap.size w9 w')=>CT w' (HB9.out.trans (hb.mono (by omega)));clear b9 B8 S8 OS8 X8 OX8 G8 OG8 B9
 go_upto_region 12 with fail
 go_cut [38] (fun v wx=>v=.bool false∧Below w9.heap.size w9 wx)
 case first=>
  have KS:∀ w',Below w9.heap.size w9 w'→(Box w' (w5.heap.size) (rwV x0 x1 x2 x3 x4 x5 x6 x7 x8 xp0 xl0 xq0 xp1 xl1 xq1 xp2 xl2 xq2 x9 x10 xb).toArray 38∧Box w' (w.heap.size) (rwV v0 v1 v2 v3 v4 v5 v6 v7 v8 vp0 vl0 vq0 vp1 vl1 vq1 vp2 vl2 vq2 v9 v10 vb).toArray 28):=fun w' hb=>⟨(X9.out).call hb,(P9.out.b1).call hb⟩;have B0:Below w9.heap.size w9 w9.drew:=zev _;refine zbz 4 (fun w'=>Box w' (w5.heap.size) (rwV x0 x1 x2 x3 x4 x5 x6 x7 x8 xp0 xl0 xq0 xp1 xl1 xq1 xp2 xl2 xq2 x9 x10 xb).toArray 38∧Box w' (w.heap.size) (rwV v0 v1 v2 v3 v4 v5 v6 v7 v8 vp0 vl0 vq0 vp1 vl1 vq1 vp2 vl2 vq2 v9 v10 vb).toArray 28) (by kernel_rfl) (KS _ B0) (fun hHeld=>?_);refine zac (i:=0) (oi:=_) 16 rfl (by kernel_rfl) (fun _ _ _ h=>h) (zcO 38 (.tmp 7) rfl rfl (w5.heap.size) rfl (cs:=(rwV x0 x1 x2 x3 x4 x5 x6 x7 x8 xp0 xl0 xq0 xp1 xl1 xq1 xp2 xl2 xq2 x9 x10 xb)) (fun w' h=>h.1) Tryz.underlying38 zbk rfl) (by assumption) ?_
  try simp only [Act.put,SL]
  refine zac (i:=1) (oi:=_) 16 rfl (by kernel_rfl) (fun _ _ _ h=>h) (zcO 28 (.tmp 2) rfl rfl (w.heap.size) rfl (cs:=(rwV v0 v1 v2 v3 v4 v5 v6 v7 v8 vp0 vl0 vq0 vp1 vl1 vq1 vp2 vl2 vq2 v9 v10 vb)) (fun w' h=>h.2) Tryz.underlying28 zfb rfl) (by assumption) ?_
  try simp only [Act.put,SL]
  refine zav (i:=2) (o:=_) rfl (by kernel_rfl) (fun KC hKC=>?_);refine za9 rfl 8 _ _ rfl #[.agg (rwV v0 v1 v2 v3 v4 v5 v6 v7 v8 vp0 vl0 vq0 vp1 vl1 vq1 vp2 vl2 vq2 v9 v10 vb).toArray] ?_ Tryz.func8 (by kernel_rfl) (by kernel_rfl) (CTc _ B0) ?_
  ·simp [Act.eval,Act.put]
  rintro ee wb ⟨cs',rfl,oR,bb⟩;have bR:Below w9.heap.size w9 wb:=B0.trans (bb.mono B0.size);refine ⟨_,rfl,?_⟩;refine hKC.out _ _ (KS _ bR) (fun hHeld=>?_);clear hKC KC
  try simp only [Act.put,SL]
  refine zav (i:=3) (o:=_) rfl (by kernel_rfl) (fun KC hKC=>?_);refine za9 rfl 11 _ _ rfl #[.agg (rwV x0 x1 x2 x3 x4 x5 x6 x7 x8 xp0 xl0 xq0 xp1 xl1 xq1 xp2 xl2 xq2 x9 x10 xb).toArray,.agg cs'.toArray] ?_ Tryz.func11 (by kernel_rfl) (by kernel_rfl) (CW _ _ _ _ _ ((OX9.out).call bR).rd oR.rd (Nat.le_trans (by omega) bR.size) (Nat.le_refl _)) ?_
  ·simp [Act.eval,Act.put]
  rintro ee wc' ⟨rfl,bc⟩;have bC:Below w9.heap.size w9 wc':=bR.trans (bc.mono bR.size);refine ⟨_,rfl,?_⟩;refine hKC.out _ _ (KS _ bC) (fun hHeld=>?_);clear hKC KC
  try simp only [Act.put,SL]
  refine zbx (o:=_) rfl (by kernel_rfl) (fun KC hKC=>?_);go_simp;refine hKC.out _ _ ?_;clear hKC KC
  try simp only [Act.put,SL]
  refine zby (by kernel_rfl) ?_ _;go_wp2
  go_meet
  exact ⟨rfl,bC⟩
 case rest=>
  obtain ⟨rfl,b10⟩:=hcut;obtain ⟨w10,rfl⟩:∃ x,x=wc:=⟨_,rfl⟩;clear CTc;have z10:w9.heap.size≤w10.heap.size:=b10.size;have B10:=HB9.out.trans (b10.mono (by omega));have S10:=S9.out.call b10;have OS10:=OS9.out.call b10;have X10:=X9.out.call b10;have OX10:=OX9.out.call b10;have G10:=G9.out.call b10;have OG10:=OG9.out.call b10;clear b10 HB9 S9 OS9 X9 OX9 G9 OG9 P9
  have hm0:¬ (M:Int)<0:=by omega
  go_wp2_with (refine zai 38 (.tmp 7) rfl rfl (w5.heap.size) rfl X10 Tryz.underlying38 zbk rfl ?_)
  refine (CK OX10).mono ?_;rintro e w11 ⟨rfl,OX11,c11⟩;have z11:w10.heap.size≤w11.heap.size:=c11.size;have B11:=B10.trans (c11.bel (B:=w1.heap.size) (by omega) (by omega));have S11:=S10.chg c11 (.inl (by omega));have OS11:=OS10.chg c11 (.inl (by omega));have G11:=G10.chg c11 (.inr (by omega));have OG11:=OG10.chg c11 (.inr (by omega));have u_0:w11.cell? ⟨w7.heap.size,0,none⟩=some (.int .i64 gc):=G11.cell 0;have u_1:w11.cell? ⟨w7.heap.size,1,none⟩=some (.int .i64 g0):=G11.cell 1;have u_2:w11.cell? ⟨w7.heap.size,2,none⟩=some (.int .i64 g1):=G11.cell 2;have u_3:w11.cell? ⟨w7.heap.size,3,none⟩=some (.int .i64 g2):=G11.cell 3;have u_4:w11.cell? ⟨w7.heap.size,4,none⟩=some (.int .i64 g3):=G11.cell 4;have u_5:w11.cell? ⟨w7.heap.size,5,none⟩=some (.int .i64 g4):=G11.cell 5;have u_6:w11.cell? ⟨w7.heap.size,6,none⟩=some (.int .i64 g5):=G11.cell 6;have u_7:w11.cell? ⟨w7.heap.size,7,none⟩=some (.int .i64 g6):=G11.cell 7;have u_8:w11.cell? ⟨w7.heap.size,8,none⟩=some (.int .i64 g7):=G11.cell 8;have u_9:w11.cell? ⟨w7.heap.size,9,none⟩=some (.int .i64 g8):=G11.cell 9;have u_10:w11.cell? ⟨w7.heap.size,10,none⟩=some (.slice gp0 gl0 gq0):=G11.cell 10;have u_11:w11.cell? ⟨w7.heap.size,11,none⟩=some (.slice gp1 gl1 gq1):=G11.cell 11;have u_12:w11.cell? ⟨w7.heap.size,12,none⟩=some (.slice gp2 gl2 gq2):=G11.cell 12;have u_13:w11.cell? ⟨w7.heap.size,13,none⟩=some (.int .i64 g9):=G11.cell 13;have u_14:w11.cell? ⟨w7.heap.size,14,none⟩=some (.int .i64 g10):=G11.cell 14;have u_15:w11.cell? ⟨w7.heap.size,15,none⟩=some (.bool gb):=G11.cell 15;have y_0:w11.cell? ⟨w3.heap.size,0,none⟩=some (.int .i64 sc):=S11.cell 0;have y_1:w11.cell? ⟨w3.heap.size,1,none⟩=some (.int .i64 s0):=S11.cell 1;have y_2:w11.cell? ⟨w3.heap.size,2,none⟩=some (.int .i64 s1):=S11.cell 2;have y_3:w11.cell? ⟨w3.heap.size,3,none⟩=some (.int .i64 s2):=S11.cell 3;have y_4:w11.cell? ⟨w3.heap.size,4,none⟩=some (.int .i64 s3):=S11.cell 4;have y_5:w11.cell? ⟨w3.heap.size,5,none⟩=some (.int .i64 s4):=S11.cell 5;have y_6:w11.cell? ⟨w3.heap.size,6,none⟩=some (.int .i64 s5):=S11.cell 6;have y_7:w11.cell? ⟨w3.heap.size,7,none⟩=some (.int .i64 s6):=S11.cell 7;have y_8:w11.cell? ⟨w3.heap.size,8,none⟩=some (.int .i64 s7):=S11.cell 8;have y_9:w11.cell? ⟨w3.heap.size,9,none⟩=some (.int .i64 s8):=S11.cell 9;have y_10:w11.cell? ⟨w3.heap.size,10,none⟩=some (.slice sp0 sl0 sq0):=S11.cell 10;have y_11:w11.cell? ⟨w3.heap.size,11,none⟩=some (.slice sp1 sl1 sq1):=S11.cell 11;have y_12:w11.cell? ⟨w3.heap.size,12,none⟩=some (.slice sp2 sl2 sq2):=S11.cell 12;have y_13:w11.cell? ⟨w3.heap.size,13,none⟩=some (.int .i64 s9):=S11.cell 13;have y_14:w11.cell? ⟨w3.heap.size,14,none⟩=some (.int .i64 s10):=S11.cell 14;have y_15:w11.cell? ⟨w3.heap.size,15,none⟩=some (.bool sb):=S11.cell 15
  clear OX11 c11 B10 S10 OS10 X10 OX10 G10 OG10
  go_wp2_with fail
  refine (CE _ _ _ _ _ OG11.rd OS11.rd (by omega) (by omega)).mono ?_;rintro e w12 ⟨rfl,b12⟩;have z12:w11.heap.size≤w12.heap.size:=b12.size;have B12:=B11.trans (b12.mono (by omega));have S12:=S11.call b12;have OS12:=OS11.call b12;have G12:=G11.call b12;have OG12:=OG11.call b12;clear b12 B11 S11 OS11 G11 OG11 u_0 u_1 u_2 u_3 u_4 u_5 u_6 u_7 u_8 u_9 u_10 u_11 u_12 u_13 u_14 u_15 y_0 y_1 y_2 y_3 y_4 y_5 y_6 y_7 y_8 y_9 y_10 y_11 y_12 y_13 y_14 y_15
  go_wp2_with (refine zai 46 (.tmp 8) rfl rfl (w7.heap.size) rfl G12 Tryz.underlying46 zaU rfl ?_)
  refine (CM OG12).mono ?_;rintro e w13 ⟨rfl,OG13,c13⟩;have z13:w12.heap.size≤w13.heap.size:=c13.size;have B13:=B12.trans (c13.bel (B:=w1.heap.size) (by omega) (by omega));have S13:=S12.chg c13 (.inl (by omega));have OS13:=OS12.chg c13 (.inl (by omega));have G13:=G12.chg c13 (.inr (by omega));clear c13 B12 S12 OS12 G12 OG12
  go_wp2_with (refine zai 46 (.tmp 8) rfl rfl (w7.heap.size) rfl G13 Tryz.underlying46 zaU rfl ?_)
  refine (CH _ _ _ OG13.rd (by omega)).mono ?_;rintro e w14 ⟨rfl,b14⟩;have z14:w13.heap.size≤w14.heap.size:=b14.size;have B14:=B13.trans (b14.mono (by omega));have S14:=S13.call b14;have OS14:=OS13.call b14;have G14:=G13.call b14;have OG14:=OG13.call b14;have P14:=HT1.out.call B14;clear b14 B13 S13 OS13 G13 OG13
  have hn0:¬ (N:Int)<0:=by omega
  go_wp2_with (refine zai 28 (.tmp 2) rfl rfl (w.heap.size) rfl P14.b1 Tryz.underlying28 zfb rfl ?_)
  refine (CT _ B14).mono ?_;rintro e w15 ⟨c15,rfl,o15,b15⟩
  go_wp2_with fail
  refine (CI _ _ _ o15.rd (Nat.le_refl _)).mono ?_;rintro e w16 ⟨cH,rfl,oH,b16⟩;obtain ⟨hc,h0,h1,h2,h3,h4,h5,h6,h7,h8,hp0,hl0,hq0,hp1,hl1,hq1,hp2,hl2,hq2,h9,h10,hb,rfl⟩:=zjz oH.rd;have z15:w14.heap.size≤w15.heap.size:=b15.size;have z16:w15.heap.size≤w16.heap.size:=b16.size;have B16:=(B14.trans (b15.mono (by omega))).trans (b16.mono (by omega));have S16:=(S14.call b15).call b16;have OS16:=(OS14.call b15).call b16;have G16:=(G14.call b15).call b16;have OG16:=(OG14.call b15).call b16;clear P14 o15 b15 b16 B14 S14 OS14 G14 OG14
  go_upto_region 27 with (refine zaN 46 12 (.tmp 64) _ _ 16 rfl rfl rfl rfl rfl rfl rfl rfl ziJ rfl rfl oH.one ?_)
  have bA:=bAl w16 (.cells (.int .i64 hc::rwV h0 h1 h2 h3 h4 h5 h6 h7 h8 hp0 hl0 hq0 hp1 hl1 hq1 hp2 hl2 hq2 h9 h10 hb).toArray 46);have H17:=zaq w16 (.int .i64 hc::rwV h0 h1 h2 h3 h4 h5 h6 h7 h8 hp0 hl0 hq0 hp1 hl1 hq1 hp2 hl2 hq2 h9 h10 hb).toArray 46;obtain ⟨W17,hW17⟩:∃ x,x=w16.alloc (.cells (.int .i64 hc::rwV h0 h1 h2 h3 h4 h5 h6 h7 h8 hp0 hl0 hq0 hp1 hl1 hq1 hp2 hl2 hq2 h9 h10 hb).toArray 46):=⟨_,rfl⟩;rw [← hW17] at bA H17 ⊢;have B17:=B16.trans (bA.mono (by omega));have S17:=S16.call bA;have OS17:=OS16.call bA;have G17:=G16.call bA;have OG17:=OG16.call bA;have OH17:=oH.call bA;have z17:w16.heap.size<W17.heap.size:=H17.lt;clear bA hW17 oH B16 S16 OS16 G16 OG16
  go_wp2_with (first | (refine zai 46 (.tmp 12) rfl rfl (w16.heap.size) rfl H17 Tryz.underlying46 zaU rfl ?_) | (refine zai 46 (.tmp 6) rfl rfl (w3.heap.size) rfl S17 Tryz.underlying46 zaU rfl ?_))
  refine (CE _ _ _ _ _ OH17.rd OS17.rd (by omega) (by omega)).mono ?_;rintro e w18 ⟨rfl,b18⟩;have z18:W17.heap.size≤w18.heap.size:=b18.size;have B18:=B17.trans (b18.mono (by omega));have G18:=G17.call b18;have OG18:=OG17.call b18;clear b18 B17 S17 OS17 G17 OG17 OH17 H17
  go_wp2_with (refine zai 46 (.tmp 8) rfl rfl (w7.heap.size) rfl G18 Tryz.underlying46 zaU rfl ?_)
  refine (CH _ _ _ OG18.rd (by omega)).mono ?_;rintro e w19 ⟨rfl,b19⟩;have HB:Hid (Below w.heap.size w w19):=(HT1.out.call (B18.trans (b19.mono (by omega)))).bel;clear b19 B18 G18 OG18;go_wp2;go_ret;exact ⟨rfl,HB.out⟩
set_option maxRecDepth 100000 in
theorem zda (os:Os) (started:os.Started) (H:Type) (enc:TypeId×Value→H) :
 ReturnsInHanded {} Tryz.checked os 4 .any (Rows.fnExactDropItemSpec.pre6 enc Tryz.prog Tryz.f4 Rows.fnExactDropItemRow.domain false) (Rows.fnExactDropItemSpec.post enc Tryz.prog Tryz.f4 false true false false):=by
 refine returnsInHanded_of_change (C:=Tryz.checked) zkJ started (by kernel_rfl) Tryz.func4
  (ChangeSpec.witness6 (enc:=enc) (C:=Tryz.checked) false ⟨#[],#[.agg (rwV 0 0 0 0 0 0 0 0 0 none 0 0 none 0 0 none 0 0 0 0 false).toArray,.string ByteArray.empty],[]⟩ 8 (by kernel_rfl) (by kernel_rfl) (by kernel_rfl) (by kernel_rfl)) ?_
 intro W base args ds gs before hval0 hW hcnd _;have hval:∀ (j:Nat) t v,Tryz.f4.params[j]?=some t→args[j]?=some v→Value.okWide Tryz.prog W .any base t v:=hval0;have hW':=hW;obtain ⟨p,q,hA0,hV,rfl,hfz,hnd⟩:=hW;have hA:DataW.TrodAll enc Tryz.prog W 0 (fun _=>true) true Tryz.f4.params.toList args.toList ds p:=hA0;rw [Tryz.params4] at hA hval;obtain ⟨v0,vs0,d0,ds0,p0,q0,hargs,rfl,rfl,h0,r0⟩:=trodAll_cons hA;obtain ⟨v1,vs1,d1,ds1,p1,q1,rfl,rfl,rfl,h1,r1⟩:=trodAll_cons r0;obtain ⟨rfl,rfl,rfl⟩:=trodAll_nil r1
 obtain rfl:args=#[v0,v1]:=by cases args;simp_all
 obtain ⟨rfl,rfl⟩:=trodVars_none hV;have k0:=h0
 have lt0:∀ x∈p0,x.block<W.heap.size:=by obtain ⟨m,hm⟩:=k0;exact DataW.trod_lt m _ _ _ hm
 obtain ⟨cs0,a0,rfl,rd0⟩:=zfJ zjJ Tryz.underlying28 (hval 0 28 v0 rfl rfl) h0;obtain ⟨n1,rfl,rfl,rfl,hn1⟩:=ChangeMaps.open_string Tryz.underlying9 (hval 1 9 v1 rfl rfl) h1;clear hA0 hval0;refine (zdH a0 cs0 n1 W rd0 hn1).mono fun e W' ⟨he,bel⟩=>?_;subst he;exact ⟨_,rfl,_,_,_,[],_,[],hW',trodAll_mk1 (shut_bool Tryz.underlying4 _),(trodAll_cons_mk (Below.trod zjE (by kernel_rfl) (of_decide_eq_true (by kernel_rfl)) k0 bel lt0) (trodAll_cons_mk (ChangeMaps.shut_string Tryz.underlying9 hn1) trodAll_mk0)),rfl,bel.frame _,fun h=>by cases h⟩
end Go.Proofs.YtclclojenogpbaaGreat
