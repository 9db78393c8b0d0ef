/- For every world, every name and all bytes the program's PutItem answers as the specification's does, writes into nothing that it is handed, keeps nothing of it, and its answer is memory of its own: the law FnExactPutItem returns true at every input, and changes nothing that was there. No condition. -/
import Derived.Test.YtclclojenogpbaaGreatRows
import Derived.Test.YtclclojenogpbaaGreatZPputitaw
set_option linter.unusedVariables false
set_option linter.unusedSimpArgs false
set_option maxHeartbeats 16000000
namespace Go.Proofs.YtclclojenogpbaaGreat
open Go.ChangeShapes Go.WideShapes Go.ChangeAt Go.RowKit F256
theorem zjt {α:Type} (c:α→Nat) (x:Nat→α) (k:Nat) (a:α):∀ n:Nat,sumN (fun i=>c (upd x k a i)) n≤sumN (fun i=>c (x i)) n+(if k<n then c a else 0)
 | 0=>by simp [sumN]
 | n+1=>by
  have ih:=zjt c x k a n;rw [zaF,zaF]
  by_cases h:n=k
  ·subst h
   rw [za0,if_pos (by omega)];rw [if_neg (by omega)] at ih;omega
  ·rw [za7 x a h]
   by_cases h2:k<n
   ·rw [if_pos h2] at ih;rw [if_pos (by omega)];omega
   ·rw [if_neg h2] at ih;rw [if_neg (by omega)];omega
theorem zn2 {α:Type} (c:α→Nat) (p:Nat×(Nat→α)) (k:Nat) (a:α):cSl c (p.1,upd p.2 k a)≤cSl c p+c a:=by
 have:=zjt c p.2 k a p.1;unfold cSl
 show sumN (fun i=>c (upd p.2 k a i)) p.1≤_
 split at this<;>omega
theorem zim {f g:Nat→Nat}:∀ {n:Nat},(∀ i,i<n→f i=g i)→sumN f n=sumN g n
 | 0,_=>rfl
 | n+1,h=>by rw [zaF,zaF,zim (fun i hi=>h i (by omega)),h n (by omega)]
theorem zle (x:TapeD) (r:RecD):zaU (zg7 x r)≤zaU x+za5 r:=by
 have h1:=zjt za5 x.recs.2 x.recs.1 r (x.recs.1+1);rw [if_pos (by omega)] at h1
 have h2:sumN (fun i=>za5 (upd x.recs.2 x.recs.1 r i)) (x.recs.1+1)=sumN (fun i=>za5 (x.recs.2 i)) x.recs.1+za5 r:=by
  rw [zaF,za0];have:sumN (fun i=>za5 (upd x.recs.2 x.recs.1 r i)) x.recs.1=sumN (fun i=>za5 (x.recs.2 i)) x.recs.1:=zim (fun i hi=>by rw [za7 _ _ (by omega)]);omega
 unfold zaU cSl
 show 1+sumN (fun i=>za5 (upd x.recs.2 x.recs.1 r i)) (x.recs.1+1)≤_
 omega
theorem zoz {α:Type} (c:α→Nat) (p:Nat×(Nat→α)) (k:Nat) (hk:k<p.1):c (p.2 k)≤cSl c p:=by
 obtain ⟨n,x⟩:=p;unfold cSl
 simp only at hk ⊢
 induction n with
 | zero=>omega
 | succ n ih=>
  rw [zaF]
  by_cases h:k=n
  ·subst h;omega
  ·have:=ih (by omega);omega
theorem znv (d:WorldD):zbh (cutW d)≤zbh d:=by
 unfold zbh lenD
 show (cSl (cSl zag)) d.groups+0+(cSl zaU) d.tapes≤_
 omega
theorem zmC (d:WorldD) (k:Nat) (hk:k<d.tapes.1) (r:RecD) (n:Int):zbh { zbZ d k r with writes:=n }≤2*zbh d+za5 r:=by
 have h2:=zn2 zaU d.tapes k (zg7 (d.tapes.2 k) r);have h3:=zle (d.tapes.2 k) r;have h4:=zoz zaU d.tapes k hk;unfold zbh
 show (cSl (cSl zag)) d.groups+lenD d.on+(cSl zaU) (d.tapes.1,upd d.tapes.2 k (zg7 (d.tapes.2 k) r))≤_
 omega
theorem zn3 {d:WorldD} {r:RecD} (two:d.tapes.1=2) (hsz:zaT d≤1048576) (hsr:zaJ r≤1048576):za8 (layF r d).final≤90000000:=by
 have h1:=zgh d;have hc:=zlE r;unfold layF
 split
 ·exact Nat.zero_le _
 ·have k1:=zmC d 0 (by omega) r (d.writes+1)
  have kc:=znv d;have e0:runO (zaM r) 2 0 d=(zaM r 0 d).next (fun d1=>(zaM r 1 d1).next (fun d2=>.done 0 d2)):=rfl;rw [e0]
  by_cases hf:d.stop≠-1∧d.stop≤d.writes
  ·rw [show zaM r 0 d=.cut d by unfold zaM rawO;rw [if_pos hf]]
   show zbh (cutW d)≤_
   omega
  ·rw [show zaM r 0 d=.done 0 { zbZ d 0 r with writes:=d.writes+1 } by unfold zaM rawO;rw [if_neg hf]]
   show za8 ((zaM r 1 { zbZ d 0 r with writes:=d.writes+1 }).next (fun d2=>.done 0 d2)).final≤_
   obtain ⟨d1,hd1⟩:∃ x,x=({ zbZ d 0 r with writes:=d.writes+1 }:WorldD):=⟨_,rfl⟩
   have t1:d1.tapes.1=2:=by rw [hd1];exact two
   rw [← hd1] at k1 ⊢;have k2:=zmC d1 1 (by omega) r (d1.writes+1);have kc1:=znv d1
   by_cases hf1:d1.stop≠-1∧d1.stop≤d1.writes
   ·rw [show zaM r 1 d1=.cut d1 by unfold zaM rawO;rw [if_pos hf1]]
    show zbh (cutW d1)≤_
    omega
   ·rw [show zaM r 1 d1=.done 0 { zbZ d1 1 r with writes:=d1.writes+1 } by unfold zaM rawO;rw [if_neg hf1]]
    show zbh { zbZ d1 1 r with writes:=d1.writes+1 }≤_
    omega
theorem zng {d:WorldD} {r:RecD} (two:d.tapes.1=2) (hsz:zaT d≤1048576) (hsr:zaJ r≤1048576):za8 (zbG r d).final≤90000000:=by
 unfold zbG
 split
 ·exact Nat.zero_le _
 ·exact zn3 two hsz hsr
theorem zoA (d:WorldD) (nm:ByteArray) (n:Nat) (f:Nat→Nat):∃ q,PutAns d nm n f q:=by
 obtain ⟨x,hx⟩:=zoy d
 by_cases h:x=0
 ·subst h
  by_cases hn:zca nm
  ·have hnf:NfC d nm 0:=.inr ⟨hx,.inr ⟨rfl,hn⟩⟩
   obtain ⟨c,hc⟩:=zox d n
   by_cases h0:c=0
   ·subst h0
    obtain ⟨l,hl⟩:=zjQ (recT d.tapes.2 2) (lenT d.tapes.2 2);obtain ⟨m,hm⟩:=zn1 (fun i=>recT d.tapes.2 2 (l.getD i 0)) l.length;have hw:WtbAns d 0 _:=.inr ⟨zd0 hx,rfl,l,m,hl,hm,rfl⟩
    by_cases hb:d.shape 8<(wsum (fun i=>recT d.tapes.2 2 (l.getD i 0)) m m.length:Int)+n
    ·exact ⟨_,.inr ⟨hnf,.inr ⟨hc,_,hw,.inl ⟨hb,rfl⟩⟩⟩⟩
    ·exact ⟨_,.inr ⟨hnf,.inr ⟨hc,_,hw,.inr ⟨hb,rfl⟩⟩⟩⟩
   ·exact ⟨_,.inr ⟨hnf,.inl ⟨c,h0,hc,rfl⟩⟩⟩
  ·exact ⟨_,.inl ⟨5,by decide,.inr ⟨hx,.inl ⟨rfl,hn⟩⟩,rfl⟩⟩
 ·exact ⟨_,.inl ⟨x,h,.inl ⟨h,hx⟩,rfl⟩⟩
theorem zoB {d:WorldD} {nm:ByteArray} {n:Nat} {f:Nat→Nat} {q:WorldResultD} (hq:PutAns d nm n f q) (hsz:zaT d≤1048576):za8 q≤90000000:=by
 rcases hq with ⟨x,_,_,rfl⟩ | ⟨h0,⟨c,_,_,rfl⟩ | ⟨hc,v,_,⟨_,rfl⟩ | ⟨_,rfl⟩⟩⟩
 ·exact Nat.zero_le _
 ·exact Nat.zero_le _
 ·exact Nat.zero_le _
 ·have hok:=(zd0 (zg3 h0).1).ok
  exact zng hok.form.2.2 hsz (zik (zjq (zg3 h0).2) (zjp hok.shape hc))
theorem zmD {d:WorldD} {nm:ByteArray} {n:Nat} {g:Nat→Nat} {q:WorldResultD} {w:World} {f:Nat} {args:Array Value} (hq:PutAns d nm n g q) (h:Calls Tryz.prog f args w (zft (PutAns d nm n g) w)):Calls Tryz.prog f args w fun e w'=>∃ cs,e=.returned (.agg cs.toArray)∧OwnT zas w' w.heap.size w'.heap.size q cs∧Below w.heap.size w w':=
 h.mono fun e w' ⟨d',cs,h1,h2,h3,h4⟩=>⟨cs,h1,by rw [hq.one h2];exact h3,h4⟩
theorem zju:Opens zaf 30:=zdJ Tryz.underlying30 Tryz.underlying5 (by kernel_rfl) (by kernel_rfl)
theorem zhg {α:Type} {A:Lay α} {H:Type} {enc:TypeId×Value→H} {W:World} {ao:Option Addr} {len cap:Nat} {d:DataW H} {ps:List MemPlace} {t:TypeId} (hO:Opens A t)
 (h:DataW.Trod enc Tryz.prog W 0 (fun _=>true) true t (.slice ao len cap) d ps):∃ a,A.rd W W.heap.size a [.slice ao len cap]:=by
 obtain ⟨fuel,hfu⟩:=h;exact hO.opens (cs:=[.slice ao len cap]) hfu
theorem zoC {α:Type} {A:Lay α} {c:α→Nat} {mk:Nat→α→α} {fn:Nat} (hm:MkS A c mk fn) {w:World} {lo hi:Nat} {d:α} {v:Value} (h:OwnT A w lo hi d [v]) (j:Nat) (hj:j+c d≤100000000) :
 Calls Tryz.prog fn #[v,.int .i64 j] w fun e w'=>e=.returned (.int .i64 ((j+c d:Nat):Int))∧OwnT A w' lo hi (mk j d) [v]∧Chg lo hi w w':=by
 obtain ⟨L,h1,h2,h3⟩:=h;exact (hm v d L j w h1 h2 hj).mono fun e w' ⟨he,ho,hc⟩=>⟨he,⟨L,ho,h2,h3⟩,hc.chg h3⟩
set_option maxRecDepth 20000 in
theorem zd3 (d:WorldD) (cs:List Value) (i0:ByteArray) (q:Nat×(Nat→Nat)) (u:Value) (w:World) (rd0:zad.rd w w.heap.size d cs) (hi0:i0.size≤maxLen) (r2:zaf.rd w w.heap.size q [u]) :
 Calls Tryz.prog 5 #[.agg cs.toArray,.string i0,u] w fun e w'=>e=.returned (.bool true)∧Below w.heap.size w w':=by
 obtain ⟨v0,v1,v2,v3,v4,v5,v6,v7,v8,vp0,vl0,vq0,vp1,vl1,vq1,vp2,vl2,vq2,v9,v10,vb,rfl⟩:=zfI rd0;have HR:=hid rd0;obtain ⟨bo,bc,hv⟩:=zcB r2;obtain rfl:=zaW hv;have R2:=hid r2
 have hqm:q.1≤maxLen:=by
  obtain ⟨v',e9,r9,_⟩:=r2
  cases e9
  obtain ⟨_,_,e8,h8,_⟩:=r9;exact h8
 unfold maxLen at hqm hi0;clear rd0 r2 hv;have T0:=zaL w (rwV v0 v1 v2 v3 v4 v5 v6 v7 v8 vp0 vl0 vq0 vp1 vl1 vq1 vp2 vl2 vq2 v9 v10 vb).toArray 28
 by_cases hbg:1048576<i0.size
 ·have hb0:(1048576:Int)<(i0.size:Int):=by omega
  have HB0:=hid T0.bel;clear T0 hbg
  go_enter Tryz.func5,Tryz.ntmps5
  go_wp2;go_ret;exact ⟨rfl,HB0.out⟩
 have hb0:¬ (1048576:Int)<(i0.size:Int):=by omega
 have HN0:Hid (i0.size≤1048576):=(by omega:i0.size≤1048576);clear hbg hi0
 by_cases hbig:1048576<q.1
 ·have hb1:(1048576:Int)<(q.1:Int):=by omega
  have HB0:=hid T0.bel;clear T0 hbig
  go_enter Tryz.func5,Tryz.ntmps5
  go_wp2;go_ret;exact ⟨rfl,HB0.out⟩
 have hb1:¬ (1048576:Int)<(q.1:Int):=by omega
 have hbb:q.1≤1048576:=by omega
 clear hbig
 go_enter Tryz.func5,Tryz.ntmps5
 go_wp2_with (refine zai 28 (.tmp 3) rfl rfl (w.heap.size) rfl T0.b1 Tryz.underlying28 zfu rfl ?_)
 refine (zkp _ d w.heap.size 1048576 _ (zad.rd_below HR.out T0.bel (Nat.le_refl _)) T0.bel.size (by omega)).mono ?_;rintro e w1 ⟨x,rfl,hx,bb⟩;have T1:=T0.call bb;have P:=hid T1.b1;have HB:=hid T1.bel;have z0:w.heap.size<w1.heap.size:=P.out.lt;clear T0 T1 bb
 rcases hx with rfl | ⟨hsz,hx⟩
 ·go_wp2
  go_ret;exact ⟨rfl,HB.out⟩
 have hx0:¬ x<0:=by omega
 clear hx;obtain ⟨y,hy⟩:=zoA d i0 q.1 q.2;obtain ⟨N,hN⟩:∃ N,N=1+za8 y:=⟨_,rfl⟩
 have hj:1+za8 y≤100000000:=by have:=zoB hy hsz;omega
 obtain ⟨M,hM⟩:∃ M,M=1+zbh d:=⟨_,rfl⟩
 have hk:1+zbh d≤90000000:=by have:=zgh d;omega
 obtain ⟨K,hK⟩:∃ K,K=M+lenD q:=⟨_,rfl⟩
 have hk2:M+lenD q≤100000000:=by unfold lenD;omega
 have hm0:¬ (K:Int)<0:=by omega
 have hn0:¬ (N:Int)<0:=by omega
 have CT:∀ w',Below w.heap.size w w'→Calls Tryz.prog 8 #[.agg (rwV v0 v1 v2 v3 v4 v5 v6 v7 v8 vp0 vl0 vq0 vp1 vl1 vq1 vp2 vl2 vq2 v9 v10 vb).toArray] w' fun e w''=>∃ cs',e=.returned (.agg cs'.toArray)∧OwnT zad w'' w'.heap.size w''.heap.size d cs'∧Below w'.heap.size w' w'':=fun w' hb=>
  zki _ d w.heap.size w' (zad.rd_below HR.out hb (Nat.le_refl _)) hb.size hsz
 have CB:∀ w',Below w.heap.size w w'→Calls Tryz.prog 21 #[.slice bo q.1 bc] w' fun e w''=>∃ v',e=.returned v'∧OwnT zaf w'' w'.heap.size w''.heap.size q [v']∧Below w'.heap.size w' w'':=fun w' hb=>
  zdL _ q w.heap.size w' (zaf.rd_below R2.out hb (Nat.le_refl _)) hb.size hbb
 have CS:=fun (cs':List Value) (ao':Option Addr) (cap' k1 k2:Nat) (w':World) (h1:zad.rd w' k1 d cs') (h2:k1≤w'.heap.size) (h3:zaf.rd w' k2 q [.slice ao' q.1 cap']) (h4:k2≤w'.heap.size)=>zmD hy (zjr d i0 q.1 cap' ao' q.2 cs' k1 k2 w' h1 h2 h3 h4 hsz HN0.out hbb);have CI:=fun (cs':List Value) (ao':Option Addr) (cap' k1 k2:Nat) (w':World) (h1:zad.rd w' k1 d cs') (h2:k1≤w'.heap.size) (h3:zaf.rd w' k2 q [.slice ao' q.1 cap']) (h4:k2≤w'.heap.size)=>zmD hy (zjs d i0 q.1 cap' ao' q.2 cs' k1 k2 w' h1 h2 h3 h4 hsz HN0.out hbb);have CE:=fun c1 c2 h1 h2 w'=>ze2 c1 c2 y h1 h2 w';have CW:=fun c1 c2 h1 h2 w'=>zgd c1 c2 d h1 h2 w';have CM:=fun {w':World} {lo hi:Nat} {cs:List Value} (h:OwnT zas w' lo hi y cs)=>znk zed h 1 hj;have CK:=fun {w':World} {lo hi:Nat} {cs:List Value} (h:OwnT zad w' lo hi d cs)=>znk zeL h 1 (by omega);have CKB:=fun {w':World} {lo hi:Nat} {v:Value} (h:OwnT zaf w' lo hi q [v])=>zoC zcN h M hk2;have CH:=fun (cs:List Value) (hi:Nat) (w':World) (h:zas.rd w' hi (zb9 1 y) cs) (hh:hi≤w'.heap.size)=>zee cs y hi 1 w' h hh hj;rw [← hN] at CM CH;rw [← hM] at CK;rw [← hK] at CKB;clear hN hM hK hj hk hk2 hy hsz
 go_wp2_with (refine zai 28 (.tmp 3) rfl rfl (w.heap.size) rfl P.out Tryz.underlying28 zfu rfl ?_)
 refine (CT _ HB.out).mono ?_;rintro e w2 ⟨cA,rfl,oo,bb⟩;have P':=hid (P.out.call bb);clear P;have P:=P';clear P';have HB':=hid (HB.out.trans (bb.mono HB.out.size));clear HB;have HB:=HB';clear HB';have z1:w1.heap.size≤w2.heap.size:=bb.size;have A1:=hid oo;clear oo bb
 go_wp2_with fail
 refine (CB _ HB.out).mono ?_;rintro e w3 ⟨vA,rfl,oo,bb⟩;have A1':=hid (A1.out.call bb);clear A1;have P':=hid (P.out.call bb);clear P;have P:=P';clear P';have HB':=hid (HB.out.trans (bb.mono HB.out.size));clear HB;have HB:=HB';clear HB';have z2:w2.heap.size≤w3.heap.size:=bb.size;obtain ⟨aA,capA,hv⟩:=zbd oo;obtain rfl:=zaW hv;clear hv;have A2:=hid oo;clear oo bb
 go_wp2_with fail
 refine (CS _ _ _ _ _ _ A1'.out.rd (by omega) A2.out.rd (Nat.le_refl _)).mono ?_;rintro e w4 ⟨cc,rfl,oo,bb⟩;obtain ⟨sc,s0,s1,s2,s3,s4,s5,s6,s7,s8,sp0,sl0,sq0,sp1,sl1,sq1,sp2,sl2,sq2,s9,s10,sb,hv⟩:=zjT oo.rd;subst hv;have P':=hid (P.out.call bb);clear P;have P:=P';clear P';have HB':=hid (HB.out.trans (bb.mono HB.out.size));clear HB;have HB:=HB';clear HB';have z3:w3.heap.size≤w4.heap.size:=bb.size;have OS:=hid oo;clear oo bb;clear A1' A2
 go_upto_region 10 with (refine zaQ 46 8 (.tmp 32) _ _ 16 rfl rfl rfl rfl rfl rfl rfl rfl ziQ rfl rfl OS.out.one ?_)
 have bA:=bAl w4 (.cells (.int .i64 sc::rwV s0 s1 s2 s3 s4 s5 s6 s7 s8 sp0 sl0 sq0 sp1 sl1 sq1 sp2 sl2 sq2 s9 s10 sb).toArray 46);have bx:=zap w4 (.int .i64 sc::rwV s0 s1 s2 s3 s4 s5 s6 s7 s8 sp0 sl0 sq0 sp1 sl1 sq1 sp2 sl2 sq2 s9 s10 sb).toArray 46;obtain ⟨w5,hW⟩:∃ x,x=w4.alloc (.cells (.int .i64 sc::rwV s0 s1 s2 s3 s4 s5 s6 s7 s8 sp0 sl0 sq0 sp1 sl1 sq1 sp2 sl2 sq2 s9 s10 sb).toArray 46):=⟨_,rfl⟩;rw [← hW] at bA bx ⊢;have P':=hid (P.out.call bA);clear P;have P:=P';clear P';have OS':=hid (OS.out.call bA);clear OS;have OS:=OS';clear OS';have HB':=hid (HB.out.trans (bA.mono HB.out.size));clear HB;have HB:=HB';clear HB';have z4:w4.heap.size≤w5.heap.size:=bA.size;have S:=hid bx;have z5:w4.heap.size<w5.heap.size:=bx.lt;clear bA bx hW
 go_wp2_with (refine zai 28 (.tmp 3) rfl rfl (w.heap.size) rfl P.out Tryz.underlying28 zfu rfl ?_)
 refine (CT _ HB.out).mono ?_;rintro e w6 ⟨cc,rfl,oo,bb⟩;obtain ⟨x0,x1,x2,x3,x4,x5,x6,x7,x8,xp0,xl0,xq0,xp1,xl1,xq1,xp2,xl2,xq2,x9,x10,xb,hv⟩:=zjU oo;subst hv;have P':=hid (P.out.call bb);clear P;have P:=P';clear P';have OS':=hid (OS.out.call bb);clear OS;have OS:=OS';clear OS';have S':=hid (S.out.call bb);clear S;have S:=S';clear S';have HB':=hid (HB.out.trans (bb.mono HB.out.size));clear HB;have HB:=HB';clear HB';have z6:w5.heap.size≤w6.heap.size:=bb.size;have OX:=hid oo;clear oo bb
 go_upto_region 11 with (refine zaQ 38 9 (.tmp 34) _ _ 15 rfl rfl rfl rfl rfl rfl rfl rfl znl rfl rfl OX.out.one ?_)
 have bA:=bAl w6 (.cells (rwV x0 x1 x2 x3 x4 x5 x6 x7 x8 xp0 xl0 xq0 xp1 xl1 xq1 xp2 xl2 xq2 x9 x10 xb).toArray 38);have bx:=zap w6 (rwV x0 x1 x2 x3 x4 x5 x6 x7 x8 xp0 xl0 xq0 xp1 xl1 xq1 xp2 xl2 xq2 x9 x10 xb).toArray 38;obtain ⟨w7,hW⟩:∃ x,x=w6.alloc (.cells (rwV x0 x1 x2 x3 x4 x5 x6 x7 x8 xp0 xl0 xq0 xp1 xl1 xq1 xp2 xl2 xq2 x9 x10 xb).toArray 38):=⟨_,rfl⟩;rw [← hW] at bA bx ⊢;have P':=hid (P.out.call bA);clear P;have P:=P';clear P';have OS':=hid (OS.out.call bA);clear OS;have OS:=OS';clear OS';have S':=hid (S.out.call bA);clear S;have S:=S';clear S';have OX':=hid (OX.out.call bA);clear OX;have OX:=OX';clear OX';have HB':=hid (HB.out.trans (bA.mono HB.out.size));clear HB;have HB:=HB';clear HB';have z7:w6.heap.size≤w7.heap.size:=bA.size;have X:=hid bx;have z8:w6.heap.size<w7.heap.size:=bx.lt;clear bA bx hW
 go_wp2_with fail
 refine (CB _ HB.out).mono ?_;rintro e w8 ⟨vY,rfl,oo,bb⟩;obtain ⟨yo,yc,hv⟩:=zbd oo;obtain rfl:=zaW hv;clear hv;have P':=hid (P.out.call bb);clear P;have P:=P';clear P';have OS':=hid (OS.out.call bb);clear OS;have OS:=OS';clear OS';have S':=hid (S.out.call bb);clear S;have S:=S';clear S';have OX':=hid (OX.out.call bb);clear OX;have OX:=OX';clear OX';have X':=hid (X.out.call bb);clear X;have X:=X';clear X';have HB':=hid (HB.out.trans (bb.mono HB.out.size));clear HB;have HB:=HB';clear HB';have z9:w7.heap.size≤w8.heap.size:=bb.size;have OY:=hid oo;clear oo bb
 go_wp2_with (refine zai 38 (.tmp 9) rfl rfl (w6.heap.size) rfl X.out Tryz.underlying38 zbq rfl ?_)
 refine (CI _ _ _ _ _ _ OX.out.rd (by omega) OY.out.rd (by omega)).mono ?_;rintro e w9 ⟨cc,rfl,oo,bb⟩;obtain ⟨gc,g0,g1,g2,g3,g4,g5,g6,g7,g8,gp0,gl0,gq0,gp1,gl1,gq1,gp2,gl2,gq2,g9,g10,gb,hv⟩:=zjT oo.rd;subst hv;have P':=hid (P.out.call bb);clear P;have P:=P';clear P';have OS':=hid (OS.out.call bb);clear OS;have OS:=OS';clear OS';have S':=hid (S.out.call bb);clear S;have S:=S';clear S';have OX':=hid (OX.out.call bb);clear OX;have OX:=OX';clear OX';have X':=hid (X.out.call bb);clear X;have X:=X';clear X';have OY':=hid (OY.out.call bb);clear OY;have OY:=OY';clear OY';have HB':=hid (HB.out.trans (bb.mono HB.out.size));clear HB;have HB:=HB';clear HB';have z10:w8.heap.size≤w9.heap.size:=bb.size;have OG:=hid oo;clear oo bb
 go_upto_region 13 with (refine zaQ 46 11 (.tmp 40) _ _ 16 rfl rfl rfl rfl rfl rfl rfl rfl ziQ rfl rfl OG.out.one ?_)
 have bA:=bAl w9 (.cells (.int .i64 gc::rwV g0 g1 g2 g3 g4 g5 g6 g7 g8 gp0 gl0 gq0 gp1 gl1 gq1 gp2 gl2 gq2 g9 g10 gb).toArray 46);have bx:=zap w9 (.int .i64 gc::rwV g0 g1 g2 g3 g4 g5 g6 g7 g8 gp0 gl0 gq0 gp1 gl1 gq1 gp2 gl2 gq2 g9 g10 gb).toArray 46;obtain ⟨w10,hW⟩:∃ x,x=w9.alloc (.cells (.int .i64 gc::rwV g0 g1 g2 g3 g4 g5 g6 g7 g8 gp0 gl0 gq0 gp1 gl1 gq1 gp2 gl2 gq2 g9 g10 gb).toArray 46):=⟨_,rfl⟩;rw [← hW] at bA bx ⊢;have P':=hid (P.out.call bA);clear P;have P:=P';clear P';have OS':=hid (OS.out.call bA);clear OS;have OS:=OS';clear OS';have S':=hid (S.out.call bA);clear S;have S:=S';clear S';have OX':=hid (OX.out.call bA);clear OX;have OX:=OX';clear OX';have X':=hid (X.out.call bA);clear X;have X:=X';clear X';have OY':=hid (OY.out.call bA);clear OY
 have OY:=OY';clear OY';have OG':=hid (OG.out.call bA);clear OG;have OG:=OG';clear OG';have HB':=hid (HB.out.trans (bA.mono HB.out.size));clear HB;have HB:=HB';clear HB';have z11:w9.heap.size≤w10.heap.size:=bA.size;have G:=hid bx;have z12:w9.heap.size<w10.heap.size:=bx.lt;clear bA bx hW
 go_wp2_with (first | (refine zai 46 (.tmp 11) rfl rfl (w9.heap.size) rfl G.out Tryz.underlying46 zaS rfl ?_) | (refine zai 46 (.tmp 8) rfl rfl (w4.heap.size) rfl S.out Tryz.underlying46 zaS rfl ?_))
 refine (CE _ _ _ _ _ OG.out.rd OS.out.rd (by omega) (by omega)).mono ?_;rintro e w11 ⟨rfl,bb⟩;have P':=hid (P.out.call bb);clear P;have P:=P';clear P';have OS':=hid (OS.out.call bb);clear OS;have OS:=OS';clear OS';have S':=hid (S.out.call bb);clear S;have S:=S';clear S';have OX':=hid (OX.out.call bb);clear OX;have OX:=OX';clear OX';have X':=hid (X.out.call bb);clear X;have X:=X';clear X';have OY':=hid (OY.out.call bb);clear OY;have OY:=OY';clear OY';have OG':=hid (OG.out.call bb);clear OG;have OG:=OG';clear OG';have G':=hid (G.out.call bb);clear G;have G:=G';clear G';have HB':=hid (HB.out.trans (bb.mono HB.out.size));clear HB;have HB:=HB';clear HB';have z13:w10.heap.size≤w11.heap.size:=bb.size;clear bb;have CTc:=fun w' (hb:Below w11.heap.size w11 w')=>CT w' (HB.out.trans (hb.mono HB.out.size))
 go_upto_region 15 with fail
 go_cut [49] (fun v wx=>v=.bool false∧Below w11.heap.size w11 wx)
 case first=>
  have KS:∀ w',Below w11.heap.size w11 w'→(Box w' (w6.heap.size) (rwV x0 x1 x2 x3 x4 x5 x6 x7 x8 xp0 xl0 xq0 xp1 xl1 xq1 xp2 xl2 xq2 x9 x10 xb).toArray 38∧Box w' (w.heap.size) (rwV v0 v1 v2 v3 v4 v5 v6 v7 v8 vp0 vl0 vq0 vp1 vl1 vq1 vp2 vl2 vq2 v9 v10 vb).toArray 28):=fun w' hb=>⟨(X.out).call hb,(P.out).call hb⟩;have B0:Below w11.heap.size w11 w11.drew:=zeI _;refine zbC 4 (fun w'=>Box w' (w6.heap.size) (rwV x0 x1 x2 x3 x4 x5 x6 x7 x8 xp0 xl0 xq0 xp1 xl1 xq1 xp2 xl2 xq2 x9 x10 xb).toArray 38∧Box w' (w.heap.size) (rwV v0 v1 v2 v3 v4 v5 v6 v7 v8 vp0 vl0 vq0 vp1 vl1 vq1 vp2 vl2 vq2 v9 v10 vb).toArray 28) (by kernel_rfl) (KS _ B0) (fun hHeld=>?_);refine zac (i:=0) (oi:=_) 16 rfl (by kernel_rfl) (fun _ _ _ h=>h) (zcE 38 (.tmp 9) rfl rfl (w6.heap.size) rfl (cs:=(rwV x0 x1 x2 x3 x4 x5 x6 x7 x8 xp0 xl0 xq0 xp1 xl1 xq1 xp2 xl2 xq2 x9 x10 xb)) (fun w' h=>h.1) Tryz.underlying38 zbq rfl) (by assumption) ?_
  try simp only [Act.put,SL]
  refine zac (i:=1) (oi:=_) 16 rfl (by kernel_rfl) (fun _ _ _ h=>h) (zcE 28 (.tmp 3) rfl rfl (w.heap.size) rfl (cs:=(rwV v0 v1 v2 v3 v4 v5 v6 v7 v8 vp0 vl0 vq0 vp1 vl1 vq1 vp2 vl2 vq2 v9 v10 vb)) (fun w' h=>h.2) Tryz.underlying28 zfu rfl) (by assumption) ?_
  try simp only [Act.put,SL]
  refine zaA (i:=2) (o:=_) rfl (by kernel_rfl) (fun KC hKC=>?_);refine zbe rfl 8 _ _ rfl #[.agg (rwV v0 v1 v2 v3 v4 v5 v6 v7 v8 vp0 vl0 vq0 vp1 vl1 vq1 vp2 vl2 vq2 v9 v10 vb).toArray] ?_ Tryz.func8 (by kernel_rfl) (by kernel_rfl) (CTc _ B0) ?_
  ·simp [Act.eval,Act.put]
  rintro ee wb ⟨cs',rfl,oR,bb⟩;have bR:Below w11.heap.size w11 wb:=B0.trans (bb.mono B0.size);refine ⟨_,rfl,?_⟩;refine hKC.out _ _ (KS _ bR) (fun hHeld=>?_);clear hKC KC
  try simp only [Act.put,SL]
  refine zaA (i:=3) (o:=_) rfl (by kernel_rfl) (fun KC hKC=>?_);refine zbe rfl 11 _ _ rfl #[.agg (rwV x0 x1 x2 x3 x4 x5 x6 x7 x8 xp0 xl0 xq0 xp1 xl1 xq1 xp2 xl2 xq2 x9 x10 xb).toArray,.agg cs'.toArray] ?_ Tryz.func11 (by kernel_rfl) (by kernel_rfl) (CW _ _ _ _ _ ((OX.out).call bR).rd oR.rd (Nat.le_trans (by omega) bR.size) (Nat.le_refl _)) ?_
  ·simp [Act.eval,Act.put]
  rintro ee wc' ⟨rfl,bc⟩;have bC:Below w11.heap.size w11 wc':=bR.trans (bc.mono bR.size);refine ⟨_,rfl,?_⟩;refine hKC.out _ _ (KS _ bC) (fun hHeld=>?_);clear hKC KC
  try simp only [Act.put,SL]
  refine zbA (o:=_) rfl (by kernel_rfl) (fun KC hKC=>?_);go_simp;refine hKC.out _ _ ?_;clear hKC KC
  try simp only [Act.put,SL]
  refine zbB (by kernel_rfl) ?_ _;go_wp2
  go_meet
  exact ⟨rfl,bC⟩
 case rest=>
  obtain ⟨rfl,b12⟩:=hcut;obtain ⟨w12,rfl⟩:∃ x,x=wc:=⟨_,rfl⟩;clear CTc;have P':=hid (P.out.call b12);clear P;have P:=P';clear P';have OS':=hid (OS.out.call b12);clear OS;have OS:=OS';clear OS';have S':=hid (S.out.call b12);clear S;have S:=S';clear S';have OX':=hid (OX.out.call b12);clear OX;have OX:=OX';clear OX';have X':=hid (X.out.call b12);clear X;have X:=X';clear X';have OY':=hid (OY.out.call b12);clear OY;have OY:=OY';clear OY';have OG':=hid (OG.out.call b12);clear OG;have OG:=OG';clear OG';have G':=hid (G.out.call b12);clear G;have G:=G';clear G';have HB':=hid (HB.out.trans (b12.mono HB.out.size));clear HB;have HB:=HB';clear HB';have z14:w11.heap.size≤w12.heap.size:=b12.size;clear b12
  go_wp2_with fail
  refine (CB _ HB.out).mono ?_;rintro e w13 ⟨vZ,rfl,oo,bb⟩;obtain ⟨zo,zc,hv⟩:=zbd oo;obtain rfl:=zaW hv;clear hv;have P':=hid (P.out.call bb);clear P;have P:=P';clear P';have OS':=hid (OS.out.call bb);clear OS;have OS:=OS';clear OS';have S':=hid (S.out.call bb);clear S;have S:=S';clear S';have OX':=hid (OX.out.call bb);clear OX;have OX:=OX';clear OX';have X':=hid (X.out.call bb);clear X;have X:=X';clear X';have OY':=hid (OY.out.call bb);clear OY;have OY:=OY';clear OY';have OG':=hid (OG.out.call bb);clear OG;have OG:=OG';clear OG';have G':=hid (G.out.call bb);clear G;have G:=G';clear G';have HB':=hid (HB.out.trans (bb.mono HB.out.size));clear HB;have HB:=HB';clear HB';have z15:w12.heap.size≤w13.heap.size:=bb.size;have OZ:=hid oo;clear oo bb
  go_wp2_with fail
  refine (zdM _ _ _ _ _ _ OY.out.rd OZ.out.rd (by omega) (by omega)).mono ?_;rintro e w14 ⟨rfl,bb⟩;have P':=hid (P.out.call bb);clear P;have P:=P';clear P';have OS':=hid (OS.out.call bb);clear OS;have OS:=OS';clear OS';have S':=hid (S.out.call bb);clear S;have S:=S';clear S';have OX':=hid (OX.out.call bb);clear OX;have OX:=OX';clear OX';have X':=hid (X.out.call bb);clear X;have X:=X';clear X';have OY':=hid (OY.out.call bb);clear OY;have OY:=OY';clear OY';have OG':=hid (OG.out.call bb);clear OG;have OG:=OG';clear OG';have G':=hid (G.out.call bb);clear G;have G:=G';clear G';have OZ':=hid (OZ.out.call bb);clear OZ;have OZ:=OZ';clear OZ';have HB':=hid (HB.out.trans (bb.mono HB.out.size));clear HB;have HB:=HB';clear HB';have z16:w13.heap.size≤w14.heap.size:=bb.size;clear bb;clear OZ
  go_wp2_with (refine zai 38 (.tmp 9) rfl rfl (w6.heap.size) rfl X.out Tryz.underlying38 zbq rfl ?_)
  refine (CK OX.out).mono ?_;rintro e w15 ⟨rfl,oo,cc⟩;have P':Hid (Box w15 (w.heap.size) (rwV v0 v1 v2 v3 v4 v5 v6 v7 v8 vp0 vl0 vq0 vp1 vl1 vq1 vp2 vl2 vq2 v9 v10 vb).toArray 28):=P.out.chg cc (by omega);clear P;have P:=P';clear P';have OS':Hid (OwnT zas w15 (w3.heap.size) (w4.heap.size) (y) (.int .i64 sc::rwV s0 s1 s2 s3 s4 s5 s6 s7 s8 sp0 sl0 sq0 sp1 sl1 sq1 sp2 sl2 sq2 s9 s10 sb)):=OS.out.chg cc (by omega);clear OS;have OS:=OS';clear OS';have S':Hid (Box w15 (w4.heap.size) (.int .i64 sc::rwV s0 s1 s2 s3 s4 s5 s6 s7 s8 sp0 sl0 sq0 sp1 sl1 sq1 sp2 sl2 sq2 s9 s10 sb).toArray 46):=S.out.chg cc (by omega);clear S;have S:=S';clear S';have X':Hid (Box w15 (w6.heap.size) (rwV x0 x1 x2 x3 x4 x5 x6 x7 x8 xp0 xl0 xq0 xp1 xl1 xq1 xp2 xl2 xq2 x9 x10 xb).toArray 38):=X.out.chg cc (by omega);clear X;have X:=X';clear X';have OY':Hid (OwnT zaf w15 (w7.heap.size) (w8.heap.size) (q) [.slice yo q.1 yc]):=OY.out.chg cc (by omega);clear OY;have OY:=OY';clear OY';have OG':Hid (OwnT zas w15 (w8.heap.size) (w9.heap.size) (y) (.int .i64 gc::rwV g0 g1 g2 g3 g4 g5 g6 g7 g8 gp0 gl0 gq0 gp1 gl1 gq1 gp2 gl2 gq2 g9 g10 gb)):=OG.out.chg cc (by omega);clear OG;have OG:=OG';clear OG';have G':Hid (Box w15 (w9.heap.size) (.int .i64 gc::rwV g0 g1 g2 g3 g4 g5 g6 g7 g8 gp0 gl0 gq0 gp1 gl1 gq1 gp2 gl2 gq2 g9 g10 gb).toArray 46):=G.out.chg cc (by omega);clear G;have G:=G';clear G';have HB':Hid (Below w.heap.size w w15):=HB.out.trans (cc.bel (by omega) HB.out.size);clear HB;have HB:=HB';clear HB';have z17:w14.heap.size≤w15.heap.size:=cc.size;clear OX;have OX:=hid oo;clear oo cc;clear OX X
  go_wp2_with fail
  refine (CKB OY.out).mono ?_;rintro e w16 ⟨rfl,oo,cc⟩;have P':Hid (Box w16 (w.heap.size) (rwV v0 v1 v2 v3 v4 v5 v6 v7 v8 vp0 vl0 vq0 vp1 vl1 vq1 vp2 vl2 vq2 v9 v10 vb).toArray 28):=P.out.chg cc (by omega);clear P;have P:=P';clear P';have OS':Hid (OwnT zas w16 (w3.heap.size) (w4.heap.size) (y) (.int .i64 sc::rwV s0 s1 s2 s3 s4 s5 s6 s7 s8 sp0 sl0 sq0 sp1 sl1 sq1 sp2 sl2 sq2 s9 s10 sb)):=OS.out.chg cc (by omega);clear OS;have OS:=OS';clear OS';have S':Hid (Box w16 (w4.heap.size) (.int .i64 sc::rwV s0 s1 s2 s3 s4 s5 s6 s7 s8 sp0 sl0 sq0 sp1 sl1 sq1 sp2 sl2 sq2 s9 s10 sb).toArray 46):=S.out.chg cc (by omega);clear S;have S:=S';clear S';have OG':Hid (OwnT zas w16 (w8.heap.size) (w9.heap.size) (y) (.int .i64 gc::rwV g0 g1 g2 g3 g4 g5 g6 g7 g8 gp0 gl0 gq0 gp1 gl1 gq1 gp2 gl2 gq2 g9 g10 gb)):=OG.out.chg cc (by omega);clear OG;have OG:=OG';clear OG';have G':Hid (Box w16 (w9.heap.size) (.int .i64 gc::rwV g0 g1 g2 g3 g4 g5 g6 g7 g8 gp0 gl0 gq0 gp1 gl1 gq1 gp2 gl2 gq2 g9 g10 gb).toArray 46):=G.out.chg cc (by omega);clear G;have G:=G';clear G';have HB':Hid (Below w.heap.size w w16):=HB.out.trans (cc.bel (by omega) HB.out.size);clear HB;have HB:=HB';clear HB';have z18:w15.heap.size≤w16.heap.size:=cc.size;clear OY;have OY:=hid oo;clear oo cc;clear OY;have u_0:w16.cell? ⟨w9.heap.size,0,none⟩=some (.int .i64 gc):=G.out.cell 0;have y_0:w16.cell? ⟨w4.heap.size,0,none⟩=some (.int .i64 sc):=S.out.cell 0;have u_1:w16.cell? ⟨w9.heap.size,1,none⟩=some (.int .i64 g0):=G.out.cell 1;have y_1:w16.cell? ⟨w4.heap.size,1,none⟩=some (.int .i64 s0):=S.out.cell 1;have u_2:w16.cell? ⟨w9.heap.size,2,none⟩=some (.int .i64 g1):=G.out.cell 2;have y_2:w16.cell? ⟨w4.heap.size,2,none⟩=some (.int .i64 s1):=S.out.cell 2;have u_3:w16.cell? ⟨w9.heap.size,3,none⟩=some (.int .i64 g2):=G.out.cell 3;have y_3:w16.cell? ⟨w4.heap.size,3,none⟩=some (.int .i64 s2):=S.out.cell 3;have u_4:w16.cell? ⟨w9.heap.size,4,none⟩=some (.int .i64 g3):=G.out.cell 4;have y_4:w16.cell? ⟨w4.heap.size,4,none⟩=some (.int .i64 s3):=S.out.cell 4;have u_5:w16.cell? ⟨w9.heap.size,5,none⟩=some (.int .i64 g4):=G.out.cell 5
  have y_5:w16.cell? ⟨w4.heap.size,5,none⟩=some (.int .i64 s4):=S.out.cell 5;have u_6:w16.cell? ⟨w9.heap.size,6,none⟩=some (.int .i64 g5):=G.out.cell 6;have y_6:w16.cell? ⟨w4.heap.size,6,none⟩=some (.int .i64 s5):=S.out.cell 6;have u_7:w16.cell? ⟨w9.heap.size,7,none⟩=some (.int .i64 g6):=G.out.cell 7;have y_7:w16.cell? ⟨w4.heap.size,7,none⟩=some (.int .i64 s6):=S.out.cell 7;have u_8:w16.cell? ⟨w9.heap.size,8,none⟩=some (.int .i64 g7):=G.out.cell 8;have y_8:w16.cell? ⟨w4.heap.size,8,none⟩=some (.int .i64 s7):=S.out.cell 8;have u_9:w16.cell? ⟨w9.heap.size,9,none⟩=some (.int .i64 g8):=G.out.cell 9;have y_9:w16.cell? ⟨w4.heap.size,9,none⟩=some (.int .i64 s8):=S.out.cell 9;have u_10:w16.cell? ⟨w9.heap.size,10,none⟩=some (.slice gp0 gl0 gq0):=G.out.cell 10;have y_10:w16.cell? ⟨w4.heap.size,10,none⟩=some (.slice sp0 sl0 sq0):=S.out.cell 10;have u_11:w16.cell? ⟨w9.heap.size,11,none⟩=some (.slice gp1 gl1 gq1):=G.out.cell 11;have y_11:w16.cell? ⟨w4.heap.size,11,none⟩=some (.slice sp1 sl1 sq1):=S.out.cell 11;have u_12:w16.cell? ⟨w9.heap.size,12,none⟩=some (.slice gp2 gl2 gq2):=G.out.cell 12;have y_12:w16.cell? ⟨w4.heap.size,12,none⟩=some (.slice sp2 sl2 sq2):=S.out.cell 12;have u_13:w16.cell? ⟨w9.heap.size,13,none⟩=some (.int .i64 g9):=G.out.cell 13;have y_13:w16.cell? ⟨w4.heap.size,13,none⟩=some (.int .i64 s9):=S.out.cell 13;have u_14:w16.cell? ⟨w9.heap.size,14,none⟩=some (.int .i64 g10):=G.out.cell 14;have y_14:w16.cell? ⟨w4.heap.size,14,none⟩=some (.int .i64 s10):=S.out.cell 14;have u_15:w16.cell? ⟨w9.heap.size,15,none⟩=some (.bool gb):=G.out.cell 15;have y_15:w16.cell? ⟨w4.heap.size,15,none⟩=some (.bool sb):=S.out.cell 15
  go_wp2_with fail
  refine (CE _ _ _ _ _ OG.out.rd OS.out.rd (by omega) (by omega)).mono ?_;rintro e w17 ⟨rfl,bb⟩;have P':=hid (P.out.call bb);clear P;have P:=P';clear P';have OS':=hid (OS.out.call bb);clear OS;have OS:=OS';clear OS';have S':=hid (S.out.call bb);clear S;have S:=S';clear S';have OG':=hid (OG.out.call bb);clear OG;have OG:=OG';clear OG';have G':=hid (G.out.call bb);clear G;have G:=G';clear G';have HB':=hid (HB.out.trans (bb.mono HB.out.size));clear HB;have HB:=HB';clear HB';have z19:w16.heap.size≤w17.heap.size:=bb.size;clear bb;clear u_0 y_0 u_1 y_1 u_2 y_2 u_3 y_3 u_4 y_4 u_5 y_5 u_6 y_6 u_7 y_7 u_8 y_8 u_9 y_9 u_10 y_10 u_11 y_11 u_12 y_12 u_13 y_13 u_14 y_14 u_15 y_15
  go_wp2_with (refine zai 46 (.tmp 11) rfl rfl (w9.heap.size) rfl G.out Tryz.underlying46 zaS rfl ?_)
  refine (CM OG.out).mono ?_;rintro e w18 ⟨rfl,oo,cc⟩;have P':Hid (Box w18 (w.heap.size) (rwV v0 v1 v2 v3 v4 v5 v6 v7 v8 vp0 vl0 vq0 vp1 vl1 vq1 vp2 vl2 vq2 v9 v10 vb).toArray 28):=P.out.chg cc (by omega);clear P;have P:=P';clear P';have OS':Hid (OwnT zas w18 (w3.heap.size) (w4.heap.size) (y) (.int .i64 sc::rwV s0 s1 s2 s3 s4 s5 s6 s7 s8 sp0 sl0 sq0 sp1 sl1 sq1 sp2 sl2 sq2 s9 s10 sb)):=OS.out.chg cc (by omega);clear OS;have OS:=OS';clear OS';have S':Hid (Box w18 (w4.heap.size) (.int .i64 sc::rwV s0 s1 s2 s3 s4 s5 s6 s7 s8 sp0 sl0 sq0 sp1 sl1 sq1 sp2 sl2 sq2 s9 s10 sb).toArray 46):=S.out.chg cc (by omega);clear S;have S:=S';clear S';have G':Hid (Box w18 (w9.heap.size) (.int .i64 gc::rwV g0 g1 g2 g3 g4 g5 g6 g7 g8 gp0 gl0 gq0 gp1 gl1 gq1 gp2 gl2 gq2 g9 g10 gb).toArray 46):=G.out.chg cc (by omega);clear G;have G:=G';clear G';have HB':Hid (Below w.heap.size w w18):=HB.out.trans (cc.bel (by omega) HB.out.size);clear HB;have HB:=HB';clear HB';have z20:w17.heap.size≤w18.heap.size:=cc.size;clear OG;have OG:=hid oo;clear oo cc
  go_wp2_with (refine zai 46 (.tmp 11) rfl rfl (w9.heap.size) rfl G.out Tryz.underlying46 zaS rfl ?_)
  refine (CH _ _ _ OG.out.rd (by omega)).mono ?_;rintro e w19 ⟨rfl,bb⟩;have P':=hid (P.out.call bb);clear P;have P:=P';clear P';have OS':=hid (OS.out.call bb);clear OS;have OS:=OS';clear OS';have S':=hid (S.out.call bb);clear S;have S:=S';clear S';have OG':=hid (OG.out.call bb);clear OG;have OG:=OG';clear OG';have G':=hid (G.out.call bb);clear G;have G:=G';clear G';have HB':=hid (HB.out.trans (bb.mono HB.out.size));clear HB;have HB:=HB';clear HB';have z21:w18.heap.size≤w19.heap.size:=bb.size;clear bb
  go_wp2_with (refine zai 28 (.tmp 3) rfl rfl (w.heap.size) rfl P.out Tryz.underlying28 zfu rfl ?_)
  refine (CT _ HB.out).mono ?_;rintro e w20 ⟨cA,rfl,oo,bb⟩;have P':=hid (P.out.call bb);clear P;have P:=P';clear P';have OS':=hid (OS.out.call bb);clear OS;have OS:=OS';clear OS';have S':=hid (S.out.call bb);clear S;have S:=S';clear S';have OG':=hid (OG.out.call bb);clear OG;have OG:=OG';clear OG';have G':=hid (G.out.call bb);clear G;have G:=G';clear G';have HB':=hid (HB.out.trans (bb.mono HB.out.size));clear HB;have HB:=HB';clear HB';have z22:w19.heap.size≤w20.heap.size:=bb.size;have A3:=hid oo;clear oo bb
  go_wp2_with fail
  refine (CB _ HB.out).mono ?_;rintro e w21 ⟨vA,rfl,oo,bb⟩;have A3':=hid (A3.out.call bb);clear A3;have P':=hid (P.out.call bb);clear P;have P:=P';clear P';have OS':=hid (OS.out.call bb);clear OS;have OS:=OS';clear OS';have S':=hid (S.out.call bb);clear S;have S:=S';clear S';have OG':=hid (OG.out.call bb);clear OG;have OG:=OG';clear OG';have G':=hid (G.out.call bb);clear G;have G:=G';clear G';have HB':=hid (HB.out.trans (bb.mono HB.out.size));clear HB;have HB:=HB';clear HB';have z23:w20.heap.size≤w21.heap.size:=bb.size;obtain ⟨aA,capA,hv⟩:=zbd oo;obtain rfl:=zaW hv;clear hv;have A4:=hid oo;clear oo bb
  go_wp2_with fail
  refine (CI _ _ _ _ _ _ A3'.out.rd (by omega) A4.out.rd (Nat.le_refl _)).mono ?_;rintro e w22 ⟨cc,rfl,oo,bb⟩;obtain ⟨hc,h0,h1,h2,h3,h4,h5,h6,h7,h8,hp0,hl0,hq0,hp1,hl1,hq1,hp2,hl2,hq2,h9,h10,hb,hv⟩:=zjT oo.rd;subst hv;have P':=hid (P.out.call bb);clear P;have P:=P';clear P';have OS':=hid (OS.out.call bb);clear OS;have OS:=OS';clear OS';have S':=hid (S.out.call bb);clear S;have S:=S';clear S';have OG':=hid (OG.out.call bb);clear OG;have OG:=OG';clear OG';have G':=hid (G.out.call bb);clear G;have G:=G';clear G';have HB':=hid (HB.out.trans (bb.mono HB.out.size));clear HB;have HB:=HB';clear HB';have z24:w21.heap.size≤w22.heap.size:=bb.size;have OH:=hid oo;clear oo bb;clear A3' A4
  go_upto_region 33 with (refine zaQ 46 15 (.tmp 85) _ _ 16 rfl rfl rfl rfl rfl rfl rfl rfl ziQ rfl rfl OH.out.one ?_)
  have bA:=bAl w22 (.cells (.int .i64 hc::rwV h0 h1 h2 h3 h4 h5 h6 h7 h8 hp0 hl0 hq0 hp1 hl1 hq1 hp2 hl2 hq2 h9 h10 hb).toArray 46);have bx:=zap w22 (.int .i64 hc::rwV h0 h1 h2 h3 h4 h5 h6 h7 h8 hp0 hl0 hq0 hp1 hl1 hq1 hp2 hl2 hq2 h9 h10 hb).toArray 46;obtain ⟨w23,hW⟩:∃ x,x=w22.alloc (.cells (.int .i64 hc::rwV h0 h1 h2 h3 h4 h5 h6 h7 h8 hp0 hl0 hq0 hp1 hl1 hq1 hp2 hl2 hq2 h9 h10 hb).toArray 46):=⟨_,rfl⟩;rw [← hW] at bA bx ⊢;have P':=hid (P.out.call bA);clear P;have P:=P';clear P';have OS':=hid (OS.out.call bA);clear OS;have OS:=OS';clear OS';have S':=hid (S.out.call bA);clear S;have S:=S';clear S';have OG':=hid (OG.out.call bA);clear OG;have OG:=OG';clear OG';have G':=hid (G.out.call bA);clear G;have G:=G';clear G';have OH':=hid (OH.out.call bA)
  clear OH;have OH:=OH';clear OH';have HB':=hid (HB.out.trans (bA.mono HB.out.size));clear HB;have HB:=HB';clear HB';have z25:w22.heap.size≤w23.heap.size:=bA.size;have H:=hid bx;have z26:w22.heap.size<w23.heap.size:=bx.lt;clear bA bx hW
  go_wp2_with (first | (refine zai 46 (.tmp 15) rfl rfl (w22.heap.size) rfl H.out Tryz.underlying46 zaS rfl ?_) | (refine zai 46 (.tmp 8) rfl rfl (w4.heap.size) rfl S.out Tryz.underlying46 zaS rfl ?_))
  refine (CE _ _ _ _ _ OH.out.rd OS.out.rd (by omega) (by omega)).mono ?_;rintro e w24 ⟨rfl,bb⟩;have P':=hid (P.out.call bb);clear P;have P:=P';clear P';have OS':=hid (OS.out.call bb);clear OS;have OS:=OS';clear OS';have S':=hid (S.out.call bb);clear S;have S:=S';clear S';have OG':=hid (OG.out.call bb);clear OG;have OG:=OG';clear OG';have G':=hid (G.out.call bb);clear G;have G:=G';clear G';have OH':=hid (OH.out.call bb);clear OH;have OH:=OH';clear OH';have H':=hid (H.out.call bb);clear H;have H:=H';clear H';have HB':=hid (HB.out.trans (bb.mono HB.out.size));clear HB;have HB:=HB';clear HB';have z27:w23.heap.size≤w24.heap.size:=bb.size;clear bb;clear OH H OS S
  go_wp2_with (refine zai 46 (.tmp 11) rfl rfl (w9.heap.size) rfl G.out Tryz.underlying46 zaS rfl ?_)
  refine (CH _ _ _ OG.out.rd (by omega)).mono ?_;rintro e w25 ⟨rfl,bb⟩;have P':=hid (P.out.call bb);clear P;have P:=P';clear P';have OG':=hid (OG.out.call bb);clear OG;have OG:=OG';clear OG';have G':=hid (G.out.call bb);clear G;have G:=G';clear G';have HB':=hid (HB.out.trans (bb.mono HB.out.size));clear HB;have HB:=HB';clear HB';have z28:w24.heap.size≤w25.heap.size:=bb.size;clear bb;go_wp2;go_ret;exact ⟨rfl,HB.out⟩
set_option maxRecDepth 100000 in
theorem zdH (os:Os) (started:os.Started) (H:Type) (enc:TypeId×Value→H) :
 ReturnsInHanded {} Tryz.checked os 5 .any (Rows.fnExactPutItemSpec.pre6 enc Tryz.prog Tryz.f5 Rows.fnExactPutItemRow.domain false) (Rows.fnExactPutItemSpec.post enc Tryz.prog Tryz.f5 false true false false):=by
 refine returnsInHanded_of_change (C:=Tryz.checked) zlf started (by kernel_rfl) Tryz.func5
  (ChangeSpec.witness6 (enc:=enc) (C:=Tryz.checked) false ⟨#[],#[.agg (rwV 0 0 0 0 0 0 0 0 0 none 0 0 none 0 0 none 0 0 0 0 false).toArray,.string ByteArray.empty,.slice none 0 0],[]⟩ 8 (by kernel_rfl) (by kernel_rfl) (by kernel_rfl) (by kernel_rfl)) ?_
 intro W base args ds gs before hval0 hW hcnd _;have hval:∀ (j:Nat) t v,Tryz.f5.params[j]?=some t→args[j]?=some v→Value.okWide Tryz.prog W .any base t v:=hval0;have hW':=hW;obtain ⟨p,q,hA0,hV,rfl,hfz,hnd⟩:=hW;have hA:DataW.TrodAll enc Tryz.prog W 0 (fun _=>true) true Tryz.f5.params.toList args.toList ds p:=hA0;rw [Tryz.params5] at hA hval;obtain ⟨v0,vs0,d0,ds0,p0,q0,hargs,rfl,rfl,h0,r0⟩:=trodAll_cons hA;obtain ⟨v1,vs1,d1,ds1,p1,q1,rfl,rfl,rfl,h1,r1⟩:=trodAll_cons r0;obtain ⟨v2,vs2,d2,ds2,p2,q2,rfl,rfl,rfl,h2,r2⟩:=trodAll_cons r1;obtain ⟨rfl,rfl,rfl⟩:=trodAll_nil r2
 obtain rfl:args=#[v0,v1,v2]:=by cases args;simp_all
 obtain ⟨rfl,rfl⟩:=trodVars_none hV;have k0:=h0
 have lt0:∀ x∈p0,x.block<W.heap.size:=by obtain ⟨m,hm⟩:=k0;exact DataW.trod_lt m _ _ _ hm
 have k2:=h2
 have lt2:∀ x∈p2,x.block<W.heap.size:=by obtain ⟨m,hm⟩:=k2;exact DataW.trod_lt m _ _ _ hm
 obtain ⟨cs0,a0,rfl,rd0⟩:=zfS zka Tryz.underlying28 (hval 0 28 v0 rfl rfl) h0;obtain ⟨n1,rfl,rfl,rfl,hn1⟩:=ChangeMaps.open_string Tryz.underlying9 (hval 1 9 v1 rfl rfl) h1;obtain ⟨sa2,sl2,sc2,rfl⟩:=okWide_slice Tryz.underlying30 (hval 2 30 v2 rfl rfl);obtain ⟨a2,rd2⟩:=zhg zju h2;clear hA0 hval0;refine (zd3 a0 cs0 n1 a2 (.slice sa2 sl2 sc2) W rd0 hn1 rd2).mono fun e W' ⟨he,bel⟩=>?_;subst he;exact ⟨_,rfl,_,_,_,[],_,[],hW',trodAll_mk1 (shut_bool Tryz.underlying4 _),(trodAll_cons_mk (Below.trod zf8 (by kernel_rfl) (of_decide_eq_true (by kernel_rfl)) k0 bel lt0) (trodAll_cons_mk (ChangeMaps.shut_string Tryz.underlying9 hn1) (trodAll_cons_mk (Below.trod zf8 (by kernel_rfl) (of_decide_eq_true (by kernel_rfl)) k2 bel lt2) trodAll_mk0))),rfl,bel.frame _,fun h=>by cases h⟩
end Go.Proofs.YtclclojenogpbaaGreat
