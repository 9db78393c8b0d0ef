/- Walk of the program's elimination: reduceRows. -/
import Derived.BigRegion
import Derived.Test.YtfhgcadinjfooaaGreatZPgroupah
set_option linter.unusedVariables false
set_option linter.unusedSimpArgs false
set_option maxHeartbeats 16000000
namespace Go.Proofs.YtfhgcadinjfooaaGreat
open Go.RowKit F256
theorem undrewN' {B:Nat} {w w2:World} {m:Nat} (h:Below B (w.drewN m) w2):Below B w w2:=⟨h.os,h.tape,h.output,h.size,h.block⟩
theorem zer (v:Value) (R C n:Nat) (M:Mat) (lo:Nat) (g cap:Nat) (e:Nat→Value) (hn:n≤C) (hR:R≤1000000) (hC:C≤1000000) (kM:Byt M) (w:World) (h:OwnE w lo w.heap.size v R (fun _=>C) M g cap e) :
 Calls Tryz.prog 142 #[v,.int .i64 n] w fun ee w'=>ee=.returned (.int .i64 ((zah R M n).2))∧(∃ e',OwnE w' lo w'.heap.size v R (fun _=>C) (zah R M n).1 g cap e')∧Below lo w w':=by
 obtain rfl:=h.val
 go_enter Tryz.func142,Tryz.ntmps142
 go_wp2
 go_loopw [5,6,7,9] (fun d _ _ i wr=>∃ k:Nat,k≤n∧i=.int .i64 k∧d=.int .i64 ((zah R M k).2)∧(∃ e',OwnE wr lo wr.heap.size (.slice (some ⟨g,0,none⟩) R cap) R (fun _=>C) (zah R M k).1 g cap e')∧Below lo w wr) (fun _ _ _ i _=>n-(intOf i).toNat)
 case atStart=>exact ⟨0,Nat.zero_le _,rfl,rfl,⟨e,h⟩,Below.refl _ _⟩
 case round=>
  clear h e;obtain ⟨k,hk,rfl,rfl,⟨e,hE⟩,hbel⟩:=hrel;have hle:=zbA (R:=R) (M:=M) k;have kB:=zbd (R:=R) kM k;have hstep:zah R M (k+1)=zbq R (zah R M k) k:=rfl;obtain ⟨S,hS⟩:∃ S,S=zah R M k:=⟨_,rfl⟩;rw [← hS] at hle kB hstep hE
  by_cases hlt:k<n
  ·have L:=zdL _ R C S.1 _ S.2 k hle.1 (by omega) hR hC wr hE.rd
   have HS:=hid hS;have HST:=hid hstep;rw [← hS];clear hS hstep;obtain ⟨r,hr⟩:∃ r,r=S.2:=⟨_,rfl⟩;obtain ⟨a,hal⟩:∃ a,a=lead S.1 k R S.2:=⟨_,rfl⟩;have hlead:=zcX S.1 k R S.2 hle.1;rw [← hal] at hlead L;rw [← hr] at hle hlead L ⊢;have HR:=hid hr;have HA:=hid hal;clear hr hal
   go_wp2_with fail
   refine L.mono ?_;rintro ee wx ⟨rfl,hwx⟩;obtain rfl:=hwx.symm;clear L;have ha:=hlead.2.1;have hra:=hlead.1
   by_cases haR:a=R
   ·have N0:zah R M (k+1)=S:=by
     rw [HST.out];unfold zbq;rw [if_pos (by rw [← HA.out];exact haR)]
    have N:=hid N0;clear N0;subst haR;clear hlead;go_wp2
    go_roundw
    case rel=>exact ⟨k+1,by omega,by go_num,zbv (by rw [N.out,HR.out]),⟨e,by rw [N.out];exact hE⟩,hbel⟩
    case measure=>simp [intOf];omega
   ·have haR':a<R:=by omega
    have hrR:r<R:=by omega
    have t1:((a:Int)==(R:Int))=false:=by simp;omega
    have ca:=hE.cell a haR';have cr:=hE.cell r hrR;have fa:=hE.frozen a;have fr:=hE.frozen r;have hsw:=hE.swap r a hrR haR' (Nat.le_refl _);have oa:=hE.each a haR';have or:=hE.each r hrR;obtain ⟨ga,capa,hea,_,_,_,_⟩:=oa.form (by omega);obtain ⟨gr,capr,her,_,_,_,_⟩:=or.form (by omega);obtain ⟨ea,hea'⟩:∃ x,x=e a:=⟨_,rfl⟩;obtain ⟨er,her'⟩:∃ x,x=e r:=⟨_,rfl⟩;rw [← hea'] at ca hea hsw;rw [← her'] at cr her hsw;have HSW:=hid hsw;clear hsw hE oa or hea' her';subst hea her;obtain ⟨va,hva⟩:=cell?_setCell_some (w:=wr) (p:=⟨g,r,none⟩) (x:=.slice (some ⟨ga,0,none⟩) C capa) (q:=⟨g,a,none⟩) ca;go_wp2
    go_region
    have hE1:=HSW.out.drewN 1;have hb1:Below lo w (((wr.setCell ⟨g,r,none⟩ (.slice (some ⟨ga,0,none⟩) C capa)).setCell ⟨g,a,none⟩ (.slice (some ⟨gr,0,none⟩) C capr)).drewN 1):=below_drewN ((hbel.setCell hE1.low _).setCell hE1.low _) 1
    have hz1:wr.heap.size=(((wr.setCell ⟨g,r,none⟩ (.slice (some ⟨ga,0,none⟩) C capa)).setCell ⟨g,a,none⟩ (.slice (some ⟨gr,0,none⟩) C capr)).drewN 1).heap.size:=by simp
    rw [hz1] at hE1;have kB1:Byt (zaQ S.1 r a):=zb3 kB r a;rw [World.drew_is_drewN];clear HSW hbel hz1 ca cr fa fr hva kB
    generalize ((wr.setCell ⟨g,r,none⟩ (.slice (some ⟨ga,0,none⟩) C capa)).setCell ⟨g,a,none⟩ (.slice (some ⟨gr,0,none⟩) C capr)).drewN 1=wq at hE1 hb1 ⊢
    generalize (fun j=>if j=r then Value.slice (some ⟨ga,0,none⟩) C capa else if j=a then Value.slice (some ⟨gr,0,none⟩) C capr else e j)=e1 at hE1
    obtain ⟨M1,hM1⟩:∃ M1,M1=zaQ S.1 r a:=⟨_,rfl⟩;have HM1:=hid hM1;rw [← hM1] at hE1 kB1;clear hM1;have c1:=hE1.cell r hrR;have o1:=hE1.each r hrR;obtain ⟨gq,capq,heq,hq1,hq2,hq3,_⟩:=o1.form (by omega)
    have hcc:wq.cell? ⟨gq,k,none⟩=some (.int .u8 (M1 r k)):=by
     have:=o1.1;rw [heq] at this;rw [this.cellAt k (by omega),zac _ _ _ (by omega)]
    have hy:=kB1 r k;have fz:=hE1.frozen r;have hgl:=hE1.high;obtain ⟨y,hyd⟩:∃ y,y=M1 r k:=⟨_,rfl⟩;have HY:=hid hyd;rw [← hyd] at hcc hy;have I:=zd6 y hy (wq.drewN 1)
    have SC:∀ w2,Below wq.heap.size wq w2→Calls Tryz.prog 144 #[e1 r,.int .u8 (powN y 254)] w2 fun e w'=>∃ v',e=.returned v'∧Own w' w2.heap.size w'.heap.size v' C (fun j=>mulN (powN y 254) (M1 r j))∧Below w2.heap.size w2 w':=fun w2 hb2=>
     zhw (e1 r) C (M1 r) (fun j=>mulN (powN y 254) (M1 r j)) (powN y 254) wq.heap.size w2 (o1.rd.below hb2 (Nat.le_refl _)) hb2.size (kB1 r) (zaZ _) (fun _ _=>rfl) (by omega)
    obtain ⟨er1,her1⟩:∃ x,x=e1 r:=⟨_,rfl⟩;rw [← her1] at c1 SC heq;have HO:=hid hE1;clear hyd her1 o1 hE1 hlead;subst heq;go_wp2
    go_region_with (first | (go_at_call 119;refine I.mono ?_;rintro ee w2 ⟨rfl,hb2⟩;have q0:w2.cell? ⟨g,r,none⟩=some (.slice (some ⟨gq,0,none⟩) C capq):=((undrewN' hb2).cell (p:=⟨g,r,none⟩) hgl).trans c1) | (go_at_call 144;refine (SC _ (undrewN' hb2)).mono ?_;rintro ee w3 ⟨v3,rfl,ho3,hb3⟩;obtain ⟨ao3,cap3,rfl⟩:=ho3.slice;have q1:w3.cell? ⟨g,r,none⟩=some (.slice (some ⟨gq,0,none⟩) C capq):=((zdi (w:=wq) (undrewN' hb2) hb3).cell (p:=⟨g,r,none⟩) hgl).trans c1;have q2:w3.frozen? ⟨g,r,none⟩=false:=((zdi (w:=wq) (undrewN' hb2) hb3).frozen (p:=⟨g,r,none⟩) hgl).trans fz))
    all_goals
     have hb23:Below wq.heap.size wq w3:=zdi (w:=wq) (undrewN' hb2) hb3
     have hsr:zaF M1 r k r=fun j=>mulN (powN y 254) (M1 r j):=by simp only [zaF,if_pos,HY.out]
     have ho4:Own w3 wq.heap.size w3.heap.size (.slice ao3 C cap3) C (zaF M1 r k r):=by rw [hsr];exact ho3.weaken (by have:=(undrewN' hb2).size;omega) (Nat.le_refl _)
     have E4:=HO.out.put r hrR hb23 (Nat.le_refl _) ho4 (fun j hj hne=>by simp only [zaF,if_neg hne]);have B4:Below lo w (w3.setCell ⟨g,r,none⟩ (.slice ao3 C cap3)):=(hb1.trans (hb23.mono (by have:=HO.out.low;have:=HO.out.high;omega))).setCell HO.out.low _
     have Z4:w3.heap.size=(w3.setCell ⟨g,r,none⟩ (.slice ao3 C cap3)).heap.size:=by simp
     rw [Z4] at E4;have kB4:Byt (zaF M1 r k):=zbL kB1 r k;clear hb23 hsr ho4 ho3 hb2 hb3 q0 q1 q2 Z4 HO c1 hcc fz I SC hgl hq1 hq2 hq3
     generalize w3.setCell ⟨g,r,none⟩ (.slice ao3 C cap3)=w4 at E4 B4 ⊢
     generalize (fun j=>if j=r then Value.slice ao3 C cap3 else e1 j)=e4 at E4
     have CC:=zej _ R C (zaF M1 r k) lo w4.heap.size r k g cap e4 hrR (by omega) hR hC kB4 w4 E4 (Nat.le_refl _)
     go_wp2_with fail
     refine CC.mono ?_;rintro ee w5 ⟨rfl,E5,C5⟩
     have hlo:lo≤w4.heap.size:=by have:=E4.low;have:=E4.high;omega
     have E6:=E5.weaken C5.size;have B6:Below lo w w5:=B4.trans (C5.below (Nat.le_refl _) hlo)
     have N0:zah R M (k+1)=(zap (zaF M1 r k) r k R,r+1):=by
      rw [HST.out];unfold zbq;rw [if_neg (by rw [← HA.out];exact haR),← HA.out,← HR.out,← HM1.out]
     have N:=hid N0;clear N0 CC E4 E5 B4 C5 hlo;go_wp2
     go_roundw
     case rel=>exact ⟨k+1,by omega,by go_num,zbv (by rw [N.out];show _=((r+1:Nat):Int);omega),⟨e4,by rw [N.out];exact E6⟩,B6⟩
     case measure=>simp [intOf];omega
  ·have hkn:k=n:=by omega
   subst hkn;rw [hS] at hE;go_wp2;go_ret;exact ⟨rfl,⟨e,hE⟩,hbel⟩
theorem OwnE.congrN {w:World} {lo hi:Nat} {v:Value} {R:Nat} {n n':Nat→Nat} {M:Mat} {g cap:Nat} {e:Nat→Value} (h:OwnE w lo hi v R n M g cap e) (hn:∀ i,i<R→n i=n' i):OwnE w lo hi v R n' M g cap e:=
 ⟨h.val,h.low,h.high,h.row,fun i hi=>by rw [← hn i hi];exact h.each i hi,h.apart⟩
def zjw (R m:Nat) (n:Nat→Nat) (f:Mat) (c:Nat→Nat) (x:Int):Prop:=
 (x=2∧16<R)∨(x=1∧R≤16∧(R=0∨m≠R∨∃ i,i<R∧n i≠R))∨(R≤16∧R≠0∧m=R∧(∀ i,i<R→n i=R)∧((x=4∧(zah R (aug R f c) R).2<R)∨(x=0∧(zah R (aug R f c) R).2=R)))
theorem zfe (v1 v2:Value) (R m:Nat) (n:Nat→Nat) (f:Mat) (c:Nat→Nat) (l1 h1 l2 h2:Nat) (w:World) (o1:OwnM w l1 h1 v1 R n f) (o2:Own w l2 h2 v2 m c) (hh1:h1≤w.heap.size) (hh2:h2≤w.heap.size) (kf:Byt f) (kc:∀ i,c i<256) :
 Calls Tryz.prog 140 #[v1,v2] w fun ee w'=>∃ x v',ee=.returned (zaS x v')∧zjw R m n f c x∧Own w' w.heap.size w'.heap.size v' (if x=0 then R else 0) (if x=0 then (fun i=>(zah R (aug R f c) R).1 i R) else fun _=>0)∧Below w.heap.size w w':=by
 obtain ⟨gA,cA,e,r1⟩:=o1
 have hm:R≤maxLen:=by obtain ⟨_,_,_,_,h,_⟩:=r1.rd;exact h
 have hm2:=o2.le;unfold maxLen at hm hm2;obtain rfl:=r1.val;obtain ⟨ao2,cap2,rfl⟩:=o2.slice;have hb0:=bAl w (.cells #[.int .i64 0,.slice none 0 0] 112);have HA:=hid r1;have H2:=hid o2;have CE:=zdU _ R n f h1 _ (r1.rd.below hb0 hh1)
 have hgw:gA<w.heap.size:=by have:=r1.high;omega
 clear r1 o2
 by_cases hbig:16<R
 ·clear CE
  go_enter Tryz.func140,Tryz.ntmps140
  go_wp2;exact bodyPost_ret (v:=zaS 2 (.slice none 0 0)) (by simp [results,Tryz.results140,go_sem,zaS]) rfl ⟨2,_,rfl,.inl ⟨rfl,hbig⟩,zbh _ _ _ _,(Below.refl _ _).alloc (Nat.le_refl _) _⟩
 by_cases hR0:R=0
 ·subst hR0
  clear CE
  go_enter Tryz.func140,Tryz.ntmps140
  go_wp2;exact bodyPost_ret (v:=zaS 1 (.slice none 0 0)) (by simp [results,Tryz.results140,go_sem,zaS]) rfl ⟨1,_,rfl,.inr (.inl ⟨rfl,by omega,.inl rfl⟩),zbh _ _ _ _,(Below.refl _ _).alloc (Nat.le_refl _) _⟩
 have t0:((R:Int)==0)=false:=by simp;omega
 by_cases hmR:m=R
 ·subst hmR
  obtain ⟨N,hN⟩:∃ N,N=n 0:=⟨_,rfl⟩;have hN2:=(HA.out.each 0 (by omega)).le;unfold maxLen at hN2;have HN:=hid hN;obtain ⟨aoz,capz,hsz⟩:=(HA.out.each 0 (by omega)).slice
  have hz0:w.cell? ⟨gA,0,none⟩=some (.slice aoz N capz):=by rw [hN,← hsz];exact HA.out.cell 0 (by omega)
  rw [← hN] at hN2;clear hsz hN
  go_enter Tryz.func140,Tryz.ntmps140
  go_wp2_with fail
  refine CE.mono ?_;rintro ee w1 ⟨bb,rfl,hbb,hb1⟩;clear CE;have HBB:=hid hbb;clear hbb;have hbel:Below w.heap.size w w1:=bnew hb1;have hbx:Box w1 w.heap.size #[.int .i64 0,.slice none 0 0] 112:=(zaD w _ _).below hb1 (by simp);have hz1:w1.cell? ⟨gA,0,none⟩=some (.slice aoz N capz):=(hbel.cell (p:=⟨gA,0,none⟩) hgw).trans hz0;obtain ⟨x0,x1,y0,y1⟩:=za6 hbx;have hl1:=hbx.lt;clear hb1 hb0 hz0
  cases bb with
  | false=>
   have hno:∃ i,i<m∧n i≠m:=Classical.byContradiction fun hno=>absurd (HBB.out.mpr fun i hi=>by
    have q1:n i=m:=Classical.byContradiction fun h=>hno ⟨i,hi,h⟩;have q2:n 0=m:=Classical.byContradiction fun h=>hno ⟨0,by omega,h⟩
    omega) (by simp)
   have HNO:=hid hno;clear hno HBB;go_wp2;exact bodyPost_ret (v:=zaS 1 (.slice none 0 0)) (by simp [results,Tryz.results140,go_sem,zaS,x0,x1]) rfl ⟨1,_,rfl,.inr (.inl ⟨rfl,by omega,.inr (.inr HNO.out)⟩),zbh _ _ _ _,(hbel.setCell (Nat.le_refl _) _).setCell (Nat.le_refl _) _⟩
  | true=>
   have HALL:Hid (∀ i,i<m→n i=n 0):=HBB.out.mp rfl;clear HBB
   by_cases hNm:N=m
   ·subst hNm
    have HSH:Hid (∀ i,i<N→n i=N):=fun i hi=>by rw [HALL.out i hi,← HN.out]
    obtain ⟨gr,capr,hgr,hr1,hr2,hr3,hr4⟩:=H2.out.form (by omega)
    simp only [Value.slice.injEq] at hgr
    obtain ⟨rfl,_,rfl⟩:=hgr;clear HALL
    go_wp2_with (at_make;refine zdP _ rfl _ _ rfl _ _ N rfl rfl rfl rfl (by omega) ?_;intro w2 hown2 hb2 hz2)
    clear x0 x1 y0 y1 hz1
    go_loopw [7,40] (fun _ i wr=>∃ k:Nat,k≤N∧i=.int .i64 k∧∃ e',Cpy w1 wr N k (fun _=>N+1) (aug N f c) e') (fun _ i _=>N-(intOf i).toNat)
    case atStart=>exact ⟨0,Nat.zero_le _,rfl,fun _=>nilS,by rw [zbj (g:=fun _=>nilS) (fun i hi=>by simp)];exact hown2,fun i hi=>by omega,⟨fun i hi=>by omega,fun i j hi=>by omega⟩,hb2,hz2⟩
    case round=>
     clear hown2 hb2 hz2;obtain ⟨k,hk,rfl,e',hcp⟩:=hrel;have hbw1:Below w.heap.size w wr:=zdi hbel hcp.bel
     by_cases hlt:k<N
     ·have hrk:Rd wr h1 (e k) N (f k):=by
       have:=((HA.out.each k hlt).below hbw1 hh1).rd;rw [HSH.out k hlt] at this;exact this
      have hck:wr.cell? ⟨gA,k,none⟩=some (e k):=(hbw1.cell (p:=⟨gA,k,none⟩) hgw).trans (HA.out.cell k hlt)
      have hrt:Rd (wr.drewN 1) h2 (.slice (some ⟨gr,k,none⟩) 1 (cap2-k)) 1 (fun _=>c k):=⟨_,_,rfl,by unfold maxLen;omega,fun _=>⟨gr,k,rfl,hr2,fun i hi=>by
       have hi0:i=0:=by omega
       subst hi0;have:=H2.out.1.cellAt k (by omega);rw [zac _ _ _ hlt] at this
       exact (hbw1.cell (p:=⟨gr,k+0,none⟩) (by show gr<w.heap.size;omega)).trans this⟩⟩
      have C:=zd8 (e k) (.slice (some ⟨gr,k,none⟩) 1 (cap2-k)) N 1 (f k) (fun _=>c k) (aug N f c k) h1 h2 (wr.drewN 1) hrk hrt (Nat.le_trans hh1 hbw1.size) (Nat.le_trans hh2 hbw1.size) (by omega) (by omega) (by omega) (fun i hi=>rfl);obtain ⟨ek,hek⟩:∃ x,x=e k:=⟨_,rfl⟩;rw [← hek] at hck C;obtain ⟨ao3,cap3,hsl,hmm,hcc⟩:=hrk;rw [← hek] at hsl;subst hsl;have hl:=hcp.lt;have HCP:=hid hcp
      have Q1:∀ w3,Below wr.heap.size wr w3→w3.cell? ⟨w1.heap.size,k,none⟩=some nilS∧w3.frozen? ⟨w1.heap.size,k,none⟩=false:=fun w3 hb=>by
       refine ⟨?_,(hb.frozen (p:=⟨w1.heap.size,k,none⟩) hl).trans (hcp.row.frozenAt k)⟩;rw [hb.cell (p:=⟨w1.heap.size,k,none⟩) hl,hcp.row.cellAt k (by omega),zaC _ _ _ hlt,if_neg (Nat.lt_irrefl k)]
      have hsl1:IntKind.i64.wrap ((k:Int)+1)=(k:Int)+1:=by rw [IntKind.wrap_i64];omega
      have hsl2:((k:Int)+1).toNat=k+1:=by omega
      have hsl3:((k:Int)+1≤(cap2:Int)):=by omega
      have hsl4:¬ cap2=k:=by omega
      have hsl5:k+1-k=1:=by omega
      have hsl6:(0:Int)≤(k:Int)+1:=by omega
      clear hcc hek hrt hcp;go_wp2
      go_region_with (go_at_call 74;refine C.mono ?_;rintro ee w3 ⟨v3,rfl,ho3,hb3⟩;obtain ⟨ao5,cap5,rfl⟩:=ho3.slice;have q1:=(Q1 _ (undrewN' hb3)).1;have q2:=(Q1 _ (undrewN' hb3)).2)
      all_goals
       have N1:=HCP.out.next hlt (undrewN' hb3) ho3;clear HCP hb3 ho3 q1 q2 hbw1 C Q1;go_wp2
       go_roundw
       case rel=>exact ⟨k+1,by omega,by go_num,_,N1⟩
       case measure=>simp [intOf];omega
     ·have hkn:k=N:=by omega
      subst hkn;obtain ⟨gg,cc,e2,hE⟩:=hcp.done;have hv:=hE.val
      simp only [Value.slice.injEq,Option.some.injEq,Addr.mk.injEq,and_true,true_and] at hv
      obtain ⟨rfl,rfl⟩:=hv;have RD:=zer _ k (k+1) k (aug k f c) w1.heap.size w1.heap.size k e2 (by omega) (by omega) (by omega) (zds kf kc) wr hE;have X3:Box wr w.heap.size #[.int .i64 0,.slice none 0 0] 112:=hbx.below hcp.bel hl1;clear hE
      go_wp2_with fail
      refine RD.mono ?_;rintro ee w4 ⟨rfl,⟨e4,hE4⟩,hb4⟩;have B4:Below w.heap.size w w4:=hbw1.trans (hb4.mono (by omega));have X4:Box w4 w.heap.size #[.int .i64 0,.slice none 0 0] 112:=X3.below hb4 hl1;obtain ⟨x0,x1,y0,y1⟩:=za6 X4;have hle:=(zbA (R:=k) (M:=aug k f c) k).1;obtain ⟨G,hG⟩:∃ G,G=zah k (aug k f c) k:=⟨_,rfl⟩;have HG:=hid hG;rw [← hG] at hle hE4 ⊢;obtain ⟨rk,hrk⟩:∃ rk,rk=G.2:=⟨_,rfl⟩;have HRK:=hid hrk;rw [← hrk] at hle ⊢;clear hG hrk hb4 X3 RD hcp hbw1
      by_cases hfull:rk<k
      ·go_wp2
       exact bodyPost_ret (v:=zaS 4 (.slice none 0 0)) (by simp [results,Tryz.results140,go_sem,zaS,x0,x1]) rfl ⟨4,_,rfl,.inr (.inr ⟨by omega,hR0,rfl,HSH.out,.inl ⟨rfl,by rw [← HG.out,← HRK.out];exact hfull⟩⟩),zbh _ _ _ _,(B4.setCell (Nat.le_refl _) _).setCell (Nat.le_refl _) _⟩
      ·go_wp2_with (at_make;refine za9 _ rfl _ _ rfl _ _ k rfl rfl rfl rfl (by omega) ?_;intro w5 hown5 hb5 hz5)
       have B5:Below w.heap.size w w5:=zdi B4 hb5;have X5:Box w5 w.heap.size #[.int .i64 0,.slice none 0 0] 112:=X4.below hb5 X4.lt;have E5:=hE4.below hb5 (Nat.le_refl _)
       have h14:w1.heap.size≤w4.heap.size:=by have:=hE4.low;have:=hE4.high;omega
       clear x0 x1 y0 y1 B4 X4 hE4 hb5
       go_loopw [9,66] (fun _ i wr=>∃ q:Nat,q≤k∧i=.int .i64 q∧Own wr w4.heap.size w5.heap.size (.slice (some ⟨w4.heap.size,0,none⟩) k k) k (fun i=>if i<q then G.1 i k else 0)∧Out w4.heap.size w5.heap.size w5 wr) (fun _ i _=>k-(intOf i).toNat)
       case atStart=>exact ⟨0,Nat.zero_le _,rfl,hown5,Out.refl _ _ _⟩
       case round=>
        clear hown5;obtain ⟨q,hq,rfl,hown,hout⟩:=hrel
        by_cases hqk:q<k
        ·have cq:wr.cell? ⟨w1.heap.size,q,none⟩=some (e4 q):=(World.cell?_of_block (w:=w5) (hout.block _ (.inl (by have:=E5.high;omega)))).trans (E5.cell q hqk)
         obtain ⟨gq,capq,heq,hg1,hg2,hg3,_⟩:=(E5.each q hqk).form (by omega)
         have cv:wr.cell? ⟨gq,k,none⟩=some (.int .u8 (G.1 q k)):=by
          have h5:=(E5.each q hqk).1;rw [heq] at h5;exact (World.cell?_of_block (w:=w5) (hout.block gq (.inl hg2))).trans ((h5.cellAt k (by omega)).trans (zac _ _ _ (by omega)))
         rw [heq] at cq
         have hco:wr.cell? ⟨w4.heap.size,q,none⟩=some (.int .u8 (0:Nat)):=by
          have:=hown.1.cellAt q (by omega);rw [this,zac _ _ _ hqk,if_neg (Nat.lt_irrefl q)]
         have hfo:wr.frozen? ⟨w4.heap.size,q,none⟩=false:=hown.1.frozenAt q;obtain ⟨y,hy⟩:∃ y,y=G.1 q k:=⟨_,rfl⟩
         have RW:Own (wr.setCell ⟨w4.heap.size,q,none⟩ (.int .u8 y)) w4.heap.size w5.heap.size (.slice (some ⟨w4.heap.size,0,none⟩) k k) k (fun i=>if i<q+1 then G.1 i k else 0):=
          hown.store q y hqk (fun i _=>by
           by_cases c1:i=q
           ·subst c1;simp [hy]
           ·by_cases c2:i<q
            ·have c3:i<q+1:=by omega
             simp [c1,c2,c3]
            ·have c3:¬ i<q+1:=by omega
             simp [c1,c2,c3])
         have RO:Out w4.heap.size w5.heap.size w5 (wr.setCell ⟨w4.heap.size,q,none⟩ (.int .u8 y)):=hout.trans (za3 wr _ _ _ q _ (Nat.le_refl _) hz5);rw [← hy] at cv;clear hown hout hy heq;go_wp2
         go_roundw
         case rel=>exact ⟨q+1,by omega,by go_num,RW,RO⟩
         case measure=>simp [intOf];omega
        ·have hqn:q=k:=by omega
         subst hqn;have B6:Below w.heap.size w wr:=B5.trans (hout.below.mono (by omega));have X6:Box wr w.heap.size #[.int .i64 0,.slice none 0 0] 112:=(hout.block _ (.inl (by omega))).trans X5;obtain ⟨x0,x1,y0,y1⟩:=za6 X6;have hown6:Own wr w4.heap.size w5.heap.size (.slice (some ⟨w4.heap.size,0,none⟩) q q) q (fun i=>G.1 i q):=hown.congr (fun i hi=>by simp [hi]);have hsz6:=hout.size;clear hown hout B5 X5 E5 X6;go_wp2;refine bodyPost_ret (v:=zaS 0 (.slice (some ⟨w4.heap.size,0,none⟩) q q)) (by simp [results,Tryz.results140,go_sem,zaS,x0,x1]) rfl ⟨0,_,rfl,.inr (.inr ⟨by omega,hR0,rfl,HSH.out,.inr ⟨rfl,by rw [← HG.out,← HRK.out];omega⟩⟩),?_,(B6.setCell (Nat.le_refl _) _).setCell (Nat.le_refl _) _⟩;have o1:=za3 wr w.heap.size (w.heap.size+1) w.heap.size 0 (.int .i64 0) (Nat.le_refl _) (by omega);have o2:=za3 (wr.setCell ⟨w.heap.size,0,none⟩ (.int .i64 0)) w.heap.size (w.heap.size+1) w.heap.size 1 (.slice (some ⟨w4.heap.size,0,none⟩) q q) (Nat.le_refl _) (by omega)
         simp only [if_pos]
         rw [← HG.out];exact (hown6.out (o1.trans o2) (.inr (by omega))).weaken (by omega) (by rw [(o1.trans o2).size,hsz6];exact Nat.le_refl _)
   ·have tN:((N:Int) != (m:Int))=true:=by simp;omega
    go_wp2;exact bodyPost_ret (v:=zaS 1 (.slice none 0 0)) (by simp [results,Tryz.results140,go_sem,zaS,x0,x1]) rfl ⟨1,_,rfl,.inr (.inl ⟨rfl,by omega,.inr (.inr ⟨0,by omega,by rw [← HN.out];exact hNm⟩)⟩),zbh _ _ _ _,(hbel.setCell (Nat.le_refl _) _).setCell (Nat.le_refl _) _⟩
 ·have t1:((m:Int) != (R:Int))=true:=by simp;omega
  clear CE
  go_enter Tryz.func140,Tryz.ntmps140
  go_wp2;exact bodyPost_ret (v:=zaS 1 (.slice none 0 0)) (by simp [results,Tryz.results140,go_sem,zaS]) rfl ⟨1,_,rfl,.inr (.inl ⟨rfl,by omega,.inr (.inl hmR)⟩),zbh _ _ _ _,(Below.refl _ _).alloc (Nat.le_refl _) _⟩
theorem undrewN'' {B:Nat} {w w2:World} {m:Nat} (h:Below B (w.drewN m) w2):Below B w w2:=⟨h.os,h.tape,h.output,h.size,h.block⟩
set_option maxRecDepth 20000 in
theorem zh1 (v:Value) (R C n:Nat) (M:Mat) (lo:Nat) (g cap:Nat) (e:Nat→Value) (hn:n≤C) (hR:R≤1000000) (hC:C≤1000000) (kM:Byt M) (w:World) (h:OwnE w lo w.heap.size v R (fun _=>C) M g cap e) :
 Calls Tryz.prog 135 #[v,.int .i64 n] w fun ee w'=>ee=.returned (.int .i64 ((zah R M n).2))∧(∃ e',OwnE w' lo w'.heap.size v R (fun _=>C) (zah R M n).1 g cap e')∧Below lo w w':=by
 obtain rfl:=h.val
 go_enter Tryz.func135,Tryz.ntmps135
 go_wp2
 go_loopw [5,6,7,8,9] (fun d i _ _ _ wr=>∃ k:Nat,k≤n∧i=.int .i64 k∧d=.int .i64 ((zah R M k).2)∧(∃ e',OwnE wr lo wr.heap.size (.slice (some ⟨g,0,none⟩) R cap) R (fun _=>C) (zah R M k).1 g cap e')∧Below lo w wr) (fun _ i _ _ _ _=>n-(intOf i).toNat)
 case atStart=>exact ⟨0,Nat.zero_le _,rfl,rfl,⟨e,h⟩,Below.refl _ _⟩
 case round=>
  clear h e;obtain ⟨k,hk,rfl,rfl,⟨e,hE⟩,hbel⟩:=hrel;have hle:=zbA (R:=R) (M:=M) k;have kB:=zbd (R:=R) kM k;have hstep:zah R M (k+1)=zbq R (zah R M k) k:=rfl
  by_cases hlt:k<n
  ·by_cases hfull:(zah R M k).2=R
   ·have hf:zah R M n=zah R M k:=by have:=zdX hfull (n-k);rwa [show k+(n-k)=n by omega] at this
    have HF:=hid hf;have HU:=hid hfull;obtain ⟨r,hr⟩:∃ r,r=(zah R M k).2:=⟨_,rfl⟩;have HR:=hid hr
    have hrR:r=R:=by rw [hr];exact hfull
    rw [← hr];subst hrR;clear hf hfull hstep hr kB hle;go_wp2;go_ret;exact ⟨zew (by rw [HF.out,← HR.out]),⟨e,by rw [HF.out];exact hE⟩,hbel⟩
   ·obtain ⟨S,hS⟩:∃ S,S=zah R M k:=⟨_,rfl⟩
    rw [← hS] at hle kB hstep hE hfull ⊢;have HS:=hid hS;have HST:=hid hstep;clear hS hstep;obtain ⟨r,hr⟩:∃ r,r=S.2:=⟨_,rfl⟩;rw [← hr] at hle hfull ⊢;have HR:=hid hr
    have hrR:r<R:=by omega
    clear hr;go_wp2
    go_loop [7] (fun a=>∃ j:Nat,r≤j∧j≤R∧a=.int .i64 j∧∀ i,r≤i→i<j→S.1 i k=0) (fun a=>R-(intOf a).toNat)
    case atStart=>exact ⟨r,Nat.le_refl _,by omega,rfl,fun i h1 h2=>by omega⟩
    case round=>
     obtain ⟨j,hj1,hj2,rfl,hz⟩:=hrel;have HZ:=hid hz;clear hz
     by_cases hjR:j<R
     ·have cj:=hE.cell j hjR
      have oj:=hE.each j hjR;obtain ⟨gj,capj,hej,_,_,_,_⟩:=oj.form (by omega)
      have hcc:wr.cell? ⟨gj,k,none⟩=some (.int .u8 (S.1 j k)):=by
       have:=oj.1;rw [hej] at this;rw [this.cellAt k (by omega),zac _ _ _ (by omega)]
      obtain ⟨y,hy⟩:∃ y,y=S.1 j k:=⟨_,rfl⟩;have HY:=hid hy
      have hyl:y<256:=by rw [hy];exact kB j k
      rw [← hy] at hcc;clear hy
      by_cases hy0:y=0
      ·rw [hej] at cj
       subst hy0;clear oj hej;go_wp2
       go_round
       case rel=>exact ⟨j+1,by omega,by omega,by go_num,fun i h1 h2=>by
        by_cases ej:i=j
        ·rw [ej,← HY.out]
        ·exact HZ.out i h1 (by omega)⟩
       case measure=>simp [intOf];omega
      ·have ty:((y:Int)==0)=false:=by simp;omega
       have hlead:lead S.1 k R r=j:=zeQ ⟨hj1,by omega,HZ.out,fun _=>by rw [← HY.out];exact hy0⟩;have HLE:=hid hlead
       have tj:((j:Int)==(R:Int))=false:=by simp;omega
       have cr:=hE.cell r hrR;have or:=hE.each r hrR;obtain ⟨gr,capr,her,_,_,_,_⟩:=or.form (by omega);have fj:=hE.frozen j;have fr:=hE.frozen r;have hgl:=hE.high
       have SC:∀ w2,Below wr.heap.size (wr.setCell ⟨g,j,none⟩ (e r)) w2→Calls Tryz.prog 87 #[e j,.int .u8 (powN y 254)] w2 fun e w'=>∃ v',e=.returned v'∧Own w' w2.heap.size w'.heap.size v' C (fun q=>mulN (powN y 254) (S.1 j q))∧Below w2.heap.size w2 w':=fun w2 hb2=>by
        have hk2:Own w2 lo wr.heap.size (e j) C (S.1 j):=oj.kept fun q hq=>by
         have hqg:q≠g:=fun hh=>hE.apart.1 j hjR (by rw [hq,hh]);rw [hb2.block q (oj.2 q hq)];exact heap_setCell_other wr ⟨g,j,none⟩ q _ hqg
        have hs2:wr.heap.size≤w2.heap.size:=by have:=hb2.size;simpa using this
        exact zcW (e j) C (S.1 j) (fun q=>mulN (powN y 254) (S.1 j q)) (powN y 254) wr.heap.size w2 hk2.rd hs2 (kB j) (zaZ _) (fun _ _=>rfl) (by omega)
       have HEE:=hid hE;have I:=zd5 y hyl;obtain ⟨ej,hej'⟩:∃ x,x=e j:=⟨_,rfl⟩;obtain ⟨er,her'⟩:∃ x,x=e r:=⟨_,rfl⟩;have HEJ:=hid hej';have HER:=hid her';rw [← hej'] at cj hej SC;rw [← her'] at cr her SC;have hgg:gj≠g:=fun hh=>hE.apart.1 j hjR (by rw [← HEJ.out,hej,hh];rfl);clear hej' her' oj or hE hlead;subst hej her;have hcc2:(wr.setCell ⟨g,j,none⟩ (.slice (some ⟨gr,0,none⟩) C capr)).cell? ⟨gj,k,none⟩=some (.int .u8 y):=(World.cell?_of_block (w:=wr) (heap_setCell_other wr ⟨g,j,none⟩ gj _ hgg)).trans hcc
       go_wp2_with fail
       refine (I _).mono ?_;rintro ee wx ⟨rfl,hwx⟩;obtain rfl:=hwx.symm
       go_wp2_with fail
       refine (SC _ (Below.refl _ _)).mono ?_;rintro ee w3 ⟨v3,rfl,ho3,hb3⟩;obtain ⟨ao3,cap3,rfl⟩:=ho3.slice
       have hz3:(wr.setCell ⟨g,j,none⟩ (.slice (some ⟨gr,0,none⟩) C capr)).heap.size=wr.heap.size:=by simp
       rw [hz3] at hb3 ho3;have hst:=(HEE.out.row.stored j (.slice (some ⟨gr,0,none⟩) C capr)).1
       have hl5:r<((zal R e).set j (.slice (some ⟨gr,0,none⟩) C capr)).length:=by rw [List.length_set,zax];exact hrR
       have q1:∃ u,w3.cell? ⟨g,r,none⟩=some u:=⟨_,(hb3.cell (p:=⟨g,r,none⟩) hgl).trans ((hst.cellAt r (by omega)).trans (List.getElem?_eq_getElem hl5))⟩;obtain ⟨u,q1⟩:=q1;have q2:w3.frozen? ⟨g,r,none⟩=false:=(hb3.frozen (p:=⟨g,r,none⟩) hgl).trans (hst.frozenAt r)
       have hsw:(zaQ S.1 r j) r=S.1 j:=by simp [zaQ]
       have hM4:zaF (zaQ S.1 r j) r k r=fun q=>mulN (powN y 254) (S.1 j q):=by simp only [zaF,if_pos,hsw,HY.out]
       have ho4:Own w3 wr.heap.size w3.heap.size (.slice ao3 C cap3) C (zaF (zaQ S.1 r j) r k r):=by rw [hM4];exact ho3
       have E4:=HEE.out.put2 (M':=zaF (zaQ S.1 r j) r k) r j hrR hjR (by rw [← HER.out];exact hb3) ho4 (fun q hq hne=>by simp only [zaF,if_neg hne]);have B4:Below lo w (w3.setCell ⟨g,r,none⟩ (.slice ao3 C cap3)):=(((hbel.setCell HEE.out.low _).trans (hb3.mono (by have:=HEE.out.low;have:=HEE.out.high;omega)))).setCell HEE.out.low _
       have Z4:w3.heap.size=(w3.setCell ⟨g,r,none⟩ (.slice ao3 C cap3)).heap.size:=by simp
       rw [Z4] at E4;have kB4:Byt (zaF (zaQ S.1 r j) r k):=zbL (zb3 kB r j) r k
       have N0:zah R M (k+1)=(zap (zaF (zaQ S.1 r j) r k) r k R,r+1):=by
        rw [HST.out];unfold zbq;rw [← HR.out,HLE.out,if_neg (by omega)]
       have N:=hid N0;clear N0 ho4 hM4 hsw ho3 hst hl5 hz3 hcc hcc2 cj cr fj fr SC I HEE HEJ HER hbel;go_wp2;clear q1 q2 hb3
       generalize w3.setCell ⟨g,r,none⟩ (.slice ao3 C cap3)=w4 at E4 B4 ⊢
       generalize (fun q=>if q=r then Value.slice ao3 C cap3 else if q=j then e r else e q)=e4 at E4
       generalize zaF (zaQ S.1 r j) r k=M2 at E4 kB4 N
       go_loopw [9] (fun i wr=>∃ q:Nat,q≤R∧i=.int .i64 q∧(∃ e',OwnE wr lo wr.heap.size (.slice (some ⟨g,0,none⟩) R cap) R (fun _=>C) (zap M2 r k q) g cap e')∧Below lo w wr) (fun i _=>R-(intOf i).toNat)
       case atStart=>exact ⟨0,Nat.zero_le _,rfl,⟨e4,by rw [zdZ];exact E4⟩,B4⟩
       case round=>
        clear E4 B4 e4;obtain ⟨q,hq,rfl,⟨e5,hE5⟩,hb5⟩:=hrel
        by_cases hqR:q<R
        ·by_cases hqr:q=r
         ·subst hqr
          have E:Hid (OwnE wr lo wr.heap.size (.slice (some ⟨g,0,none⟩) R cap) R (fun _=>C) (zap M2 q k (q+1)) g cap e5):=by rw [zdY];exact hE5
          clear hE5;go_wp2
          go_roundw
          case rel=>exact ⟨q+1,by omega,by go_num,⟨e5,E.out⟩,hb5⟩
          case measure=>simp [intOf];omega
         ·have tq:((q:Int) != (r:Int))=true:=by simp;omega
          have kB5:=zdq kB4 r k q;have cq:=hE5.cell q hqR;have cr5:=hE5.cell r hrR;have oq:=hE5.each q hqR;have or5:=hE5.each r hrR;have fq:=hE5.frozen q;have hgl5:=hE5.high;obtain ⟨gq,capq,heq,_,_,_,_⟩:=oq.form (by omega);obtain ⟨gs,caps,hes,_,_,_,_⟩:=or5.form (by omega)
          have hcq:wr.cell? ⟨gq,k,none⟩=some (.int .u8 (zap M2 r k q q k)):=by
           have:=oq.1;rw [heq] at this;rw [this.cellAt k (by omega),zac _ _ _ (by omega)]
          have hnx:=zcY (M:=M2) (r:=r) (c:=k) hqr;obtain ⟨M3,hM3⟩:∃ M3,M3=zap M2 r k q:=⟨_,rfl⟩;rw [← hM3] at hcq kB5 oq or5 hE5 hnx;obtain ⟨y2,hy2⟩:∃ y,y=M3 q k:=⟨_,rfl⟩
          have hy2l:y2<256:=by rw [hy2];exact kB5 q k
          have HNX:=hid hnx;have HY2:=hid hy2;rw [← hy2] at hcq;have C1:=zcW (e5 r) C (M3 r) (fun t=>mulN y2 (M3 r t)) y2 wr.heap.size (wr.drewN 1) or5.rd (Nat.le_refl _) (kB5 r) hy2l (fun _ _=>rfl) (by omega)
          have C2:∀ (w2:World) (v2:Value),Own w2 wr.heap.size w2.heap.size v2 C (fun t=>mulN y2 (M3 r t))→Below wr.heap.size wr w2→
           Calls Tryz.prog 86 #[e5 q,v2] w2 fun e w'=>∃ v',e=.returned v'∧Own w' w2.heap.size w'.heap.size v' C (fun t=>M3 q t ^^^ mulN y2 (M3 r t))∧Below w2.heap.size w2 w':=fun w2 v2 ho hb2=>
           zfC (e5 q) v2 C (M3 q) (fun t=>mulN y2 (M3 r t)) _ _ _ w2 (oq.below hb2 (Nat.le_refl _)).rd ho.rd hb2.size (Nat.le_refl _) (kB5 q) (fun t=>za2 hy2l) (fun _ _=>rfl) (by omega)
          obtain ⟨xq,hxq⟩:∃ x,x=e5 q:=⟨_,rfl⟩;obtain ⟨xr,hxr⟩:∃ x,x=e5 r:=⟨_,rfl⟩;rw [← hxq] at cq C2 heq;rw [← hxr] at cr5 C1 hes;have HE5:=hid hE5;clear hxq hxr hM3 hy2 hnx oq or5 hE5 kB5;subst heq hes;go_wp2
          go_region_with (first | (go_at_call 87;refine C1.mono ?_;rintro ee w6 ⟨v6,rfl,ho6,hb6⟩;have q0:w6.cell? ⟨g,q,none⟩=some (.slice (some ⟨gq,0,none⟩) C capq):=((undrewN'' hb6).cell (p:=⟨g,q,none⟩) hgl5).trans cq) | (go_at_call 86;refine (C2 _ _ ho6 (undrewN'' hb6)).mono ?_;rintro ee w7 ⟨v7,rfl,ho7,hb7⟩;obtain ⟨ao7,cap7,rfl⟩:=ho7.slice;have q1:w7.cell? ⟨g,q,none⟩=some (.slice (some ⟨gq,0,none⟩) C capq):=((zdi (w:=wr) (undrewN'' hb6) hb7).cell (p:=⟨g,q,none⟩) hgl5).trans cq;have q2:w7.frozen? ⟨g,q,none⟩=false:=((zdi (w:=wr) (undrewN'' hb6) hb7).frozen (p:=⟨g,q,none⟩) hgl5).trans fq))
          all_goals
           have hb67:Below wr.heap.size wr w7:=zdi (w:=wr) (undrewN'' hb6) hb7
           have ho8:Own w7 wr.heap.size w7.heap.size (.slice ao7 C cap7) C (zap M2 r k (q+1) q):=by
            have hq8:zap M2 r k (q+1) q=fun t=>M3 q t ^^^ mulN y2 (M3 r t):=by rw [HNX.out];simp [HY2.out]
            rw [hq8];exact ho7.weaken (by have:=(undrewN'' hb6).size;omega) (Nat.le_refl _)
           have E8:=HE5.out.put (M':=zap M2 r k (q+1)) q hqR hb67 (Nat.le_refl _) ho8 (fun i hi hne=>by rw [HNX.out];simp [hne]);have B8:Below lo w (w7.setCell ⟨g,q,none⟩ (.slice ao7 C cap7)):=(hb5.trans (hb67.mono (by have:=HE5.out.low;have:=HE5.out.high;omega))).setCell HE5.out.low _
           have Z8:w7.heap.size=(w7.setCell ⟨g,q,none⟩ (.slice ao7 C cap7)).heap.size:=by simp
           rw [Z8] at E8;clear hb67 ho8 ho7 ho6 hb6 hb7 q0 q1 q2 Z8 HE5 C1 C2 hb5;go_wp2
           go_roundw
           case rel=>exact ⟨q+1,by omega,by go_num,⟨_,E8⟩,B8⟩
           case measure=>simp [intOf];omega
        ·have hqn:q=R:=by omega
         subst hqn;go_wp2
         go_roundw
         case rel=>exact ⟨k+1,by omega,by go_num,zbv (by rw [N.out];show _=((r+1:Nat):Int);omega),⟨e5,by rw [N.out];exact hE5⟩,hb5⟩
         case measure=>simp [intOf];omega
     ·have hjn:j=R:=by omega
      subst hjn;have hlead:lead S.1 k j r=j:=zeQ ⟨hj1,Nat.le_refl _,HZ.out,fun h=>by omega⟩
      have N0:zah j M (k+1)=S:=by
       rw [HST.out];unfold zbq;rw [if_pos (by rw [← HR.out];exact hlead)]
      have N:=hid N0;clear N0 hlead;go_wp2
      go_roundw
      case rel=>exact ⟨k+1,by omega,by go_num,zbv (by rw [N.out,HR.out]),⟨e,by rw [N.out];exact hE⟩,hbel⟩
      case measure=>simp [intOf];omega
  ·have hkn:k=n:=by omega
   subst hkn;go_wp2;go_ret;exact ⟨rfl,⟨e,hE⟩,hbel⟩
theorem belD1 {wr w2:World} {o:Obj} {q:Nat} (h:Chg wr.heap.size (wr.heap.size+1) ((wr.alloc o).drewN q) w2):Below wr.heap.size wr w2:=by
 have h1:=h.below (B:=wr.heap.size) (Nat.le_refl _) (by simp);exact ((Below.refl wr.heap.size wr).alloc (Nat.le_refl _) o).trans ⟨h1.os,h1.tape,h1.output,h1.size,h1.block⟩
theorem belD2 {wr w2:World} {o o':Obj} {q:Nat} (h:Chg wr.heap.size (wr.heap.size+1) (((wr.alloc o).alloc o').drewN q) w2):Below wr.heap.size wr w2:=by
 have h1:=h.below (B:=wr.heap.size) (Nat.le_refl _) (by simp;omega);exact (((Below.refl wr.heap.size wr).alloc (Nat.le_refl _) o).alloc (by simp) o').trans ⟨h1.os,h1.tape,h1.output,h1.size,h1.block⟩
theorem zki {wr w2:World} {o:Obj} {q:Nat} {x:Value} {t:TypeId} (h:Chg wr.heap.size (wr.heap.size+1) (((wr.alloc o).alloc (.cells #[x] t)).drewN q) w2):w2.cell? ⟨wr.heap.size+1,0,none⟩=some x:=by
 have hb:=h.block (wr.heap.size+1) (by simp) (.inr (Nat.le_refl _));have hc:w2.heap[wr.heap.size+1]?=some (.cells #[x] t (0,0)):=hb.trans (heap_alloc2_new wr o (.cells #[x] t));exact cell_of_row w2 _ 0 _ t _ hc
theorem belD3 {wr w2:World} {o o':Obj} {q:Nat} (h:Chg (wr.heap.size+1) (wr.heap.size+1+1) (((wr.alloc o).alloc o').drewN q) w2):Below wr.heap.size wr w2:=by
 have h1:=h.below (B:=wr.heap.size) (by omega) (by simp;omega);exact (((Below.refl wr.heap.size wr).alloc (Nat.le_refl _) o).alloc (by simp) o').trans ⟨h1.os,h1.tape,h1.output,h1.size,h1.block⟩
theorem zkj {wr w2:World} {o:Obj} {q:Nat} {x:Value} {t:TypeId} (h:Chg (wr.heap.size+1) (wr.heap.size+1+1) (((wr.alloc (.cells #[x] t)).alloc o).drewN q) w2):w2.cell? ⟨wr.heap.size,0,none⟩=some x:=by
 have hb:=h.block wr.heap.size (by simp;omega) (.inl (by omega));have hc:w2.heap[wr.heap.size]?=some (.cells #[x] t (0,0)):=hb.trans ((Below.heap_alloc (wr.alloc (.cells #[x] t)) o wr.heap.size (by simp)).trans (zaD wr #[x] t));exact cell_of_row w2 _ 0 _ t _ hc
theorem zjx (w:World) (o:Obj) (g:Nat→Nat):Own ((w.alloc o).alloc (.cells #[] 5)) (w.heap.size+1) (w.heap.size+1+1) (.slice (some ⟨w.heap.size+1,0,none⟩) 0 0) 0 g:=by
 have h:=zbV (w.alloc o) g
 have hz:(w.alloc o).heap.size=w.heap.size+1:=by simp
 rw [hz] at h;exact h.weaken (Nat.le_refl _) (by simp)
def zkk (R:Nat) (f:Mat) (c:Nat→Nat) (b:Bool) (k:Nat) (x:Nat→Nat):Prop:=
 (b=true→(zah R (aug R f c) R).2=R∧k=R∧x=fun i=>(zah R (aug R f c) R).1 i R)∧(b=false→(zah R (aug R f c) R).2<R∧k=0)
theorem zgV (v1 v2:Value) (R:Nat) (f:Mat) (c:Nat→Nat) (l1 h1 gA cA l2 h2:Nat) (e:Nat→Value) (w:World) (r1:OwnE w l1 h1 v1 R (fun _=>R) f gA cA e) (o2:Own w l2 h2 v2 R c) (hh1:h1≤w.heap.size) (hh2:h2≤w.heap.size) (hR:0<R) (hR2:R≤16) (kf:Byt f) (kc:∀ i,c i<256) :
 Calls Tryz.prog 123 #[v1,v2] w fun ee w'=>∃ v' b k x,ee=.returned (.tuple #[v',.bool b])∧zkk R f c b k x∧Own w' w.heap.size w'.heap.size v' k x∧Below w.heap.size w w':=by
 obtain rfl:=r1.val;obtain ⟨gr,capr,rfl,hr1,hr2,hr3,hr4⟩:=o2.form (by omega);have HA:=hid r1;have H2:=hid o2
 have hgw:gA<w.heap.size:=by have:=r1.high;omega
 clear r1 o2
 go_enter Tryz.func123,Tryz.ntmps123
 go_wp2
 have hstart:Bld w (w.alloc (.cells #[] 69)) w.heap.size (.slice (some ⟨w.heap.size,0,none⟩) 0 0) 0 (fun _=>R+1) (aug R f c) e:=by
  have hl:=World.ownsRow_lit (base:=w.heap.size) (e:=69) (size:=1) w #[] 0 (Nat.le_refl _) (Nat.zero_le _) rfl;exact ⟨hl,by simp,fun i hi=>by omega,fun i j hi=>by omega,(Below.refl _ _).alloc (Nat.le_refl _) _,by simp⟩
 go_loopw [6,7] (fun v i wr=>∃ m:Nat,m≤R∧i=.int .i64 m∧∃ e',Bld w wr w.heap.size v m (fun _=>R+1) (aug R f c) e') (fun _ i _=>R-(intOf i).toNat)
 case atStart=>exact ⟨0,Nat.zero_le _,rfl,e,hstart⟩
 case round=>
  clear hstart;obtain ⟨m,hm1,rfl,e',hB⟩:=hrel;have hbw:Below w.heap.size w wr:=hB.bel
  by_cases hlt:m<R
  ·have hcm:wr.cell? ⟨gA,m,none⟩=some (e m):=(hbw.cell (p:=⟨gA,m,none⟩) hgw).trans (HA.out.cell m hlt)
   have om:Own wr l1 h1 (e m) R (f m):=(HA.out.each m hlt).below hbw hh1
   have hcr:wr.cell? ⟨gr,m,none⟩=some (.int .u8 (c m)):=by
    have:=H2.out.1.cellAt m (by omega);rw [zac _ _ _ hlt] at this;exact (hbw.cell (p:=⟨gr,m,none⟩) (by show gr<w.heap.size;omega)).trans this
   obtain ⟨y,hy⟩:∃ y,y=c m:=⟨_,rfl⟩;have HY:=hid hy;obtain ⟨x,hx⟩:∃ x,x=e m:=⟨_,rfl⟩;rw [← hy] at hcr;rw [← hx] at hcm om;obtain ⟨aom,capm,hsm⟩:=om.slice;subst hsm;have HOM:=hid om;have HBB:=hid hB
   have FE0:∀ i,i<R→f m i=aug R f c m i:=fun i hi=>by simp [aug,hi]
   have FY0:y=aug R f c m R:=by rw [HY.out];simp [aug]
   have FE:=hid FE0;have FY:=hid FY0;clear FE0 FY0;have hszr:=hB.le
   have hg1:gA<wr.heap.size:=by omega
   have hg2:gr<wr.heap.size:=by omega
   have hz1:∀ q,((wr.drewN q).alloc (.cells #[] 5)).cell? ⟨gA,m,none⟩=some (.slice aom R capm):=fun q=>(zbX (wr.drewN q) _ gA m hg1).trans hcm;clear hy hx om hB;go_wp2
   go_region_law (first | (refine zcz rfl (.tmp 19) (.tmp 23) rfl wr.heap.size (fun _=>0) ?_ ?_ l1 h1 (.slice aom R capm) R (f m) ?_ ?_ (by omega) ?_;(simp [Act.eval,Act.put]);(exact (zbV wr (fun _=>0)).weaken (Nat.le_refl _) (by simp));(simp [Act.eval,Act.put]);(exact HOM.out.alloc _);intro v2 w2 ho2 hc2;obtain ⟨ao2,cap2,rfl⟩:=ho2.slice;have bD:Below wr.heap.size wr w2:=belD1 hc2;have qr:w2.cell? ⟨gr,m,none⟩=some (.int .u8 y):=(bD.cell (p:=⟨gr,m,none⟩) hg2).trans hcr) | (refine zcz rfl (.tmp 19) (.tmp 23) rfl wr.heap.size (fun _=>0) ?_ ?_ l1 h1 (.slice aom R capm) R (f m) ?_ ?_ (by omega) ?_;(simp [Act.eval,Act.put]);(exact ((zbV wr (fun _=>0)).weaken (Nat.le_refl _) (by simp)).alloc _);(simp [Act.eval,Act.put]);(exact (HOM.out.alloc _).alloc _);intro v2 w2 ho2 hc2;obtain ⟨ao2,cap2,rfl⟩:=ho2.slice;have bD:Below wr.heap.size wr w2:=belD2 hc2;have qg:w2.cell? ⟨wr.heap.size+1,0,none⟩=some (.int .u8 y):=zki hc2) | (refine zcz rfl (.tmp 19) (.tmp 23) rfl (wr.heap.size+1) (fun _=>0) ?_ ?_ l1 h1 (.slice aom R capm) R (f m) ?_ ?_ (by omega) ?_;(simp [Act.eval,Act.put]);(exact zjx wr _ (fun _=>0));(simp [Act.eval,Act.put]);(exact (HOM.out.alloc _).alloc _);intro v2 w2 ho2 hc2;obtain ⟨ao2,cap2,rfl⟩:=ho2.slice;have bD:Below wr.heap.size wr w2:=belD3 hc2;have qg:w2.cell? ⟨wr.heap.size,0,none⟩=some (.int .u8 y):=zkj hc2;replace ho2:=ho2.weaken (lo':=wr.heap.size) (by omega) (Nat.le_refl _)) | (refine zbU rfl (.tmp 24) (.tmp 29) rfl wr.heap.size w2.heap.size (.slice ao2 R cap2) R (aug R f c m) ?_ ?_ w2.heap.size 1 ?_ ?_ (by omega) ?_ ?_;(simp [Act.eval,Act.put]);(exact (ho2.congr FE.out).alloc _);(simp [Act.eval,Act.put]);(rw [← FY.out];simp);(simp;have:=bD.size;omega);intro v3 w3 ho3 hb3;obtain ⟨ao3,cap3,rfl⟩:=ho3.slice;have bH:Below wr.heap.size wr w3:=bD.trans (((Below.refl _ w2).alloc bD.size _).trans hb3)) | (refine zbU rfl (.tmp 24) (.tmp 29) rfl wr.heap.size w2.heap.size (.slice ao2 R cap2) R (aug R f c m) ?_ ?_ (wr.heap.size+1) 1 ?_ ?_ (by omega) ?_ ?_;(simp [Act.eval,Act.put]);(exact ho2.congr FE.out);(simp [Act.eval,Act.put]);(rw [← FY.out];exact qg);(have:=bD.size;omega);intro v3 w3 ho3 hb3;obtain ⟨ao3,cap3,rfl⟩:=ho3.slice;have bH:Below wr.heap.size wr w3:=bD.trans hb3) | (refine zbU rfl (.tmp 24) (.tmp 29) rfl wr.heap.size w2.heap.size (.slice ao2 R cap2) R (aug R f c m) ?_ ?_ wr.heap.size 1 ?_ ?_ (by omega) ?_ ?_;(simp [Act.eval,Act.put]);(exact ho2.congr FE.out);(simp [Act.eval,Act.put]);(rw [← FY.out];exact qg);(have:=bD.size;omega);intro v3 w3 ho3 hb3;obtain ⟨ao3,cap3,rfl⟩:=ho3.slice;have bH:Below wr.heap.size wr w3:=bD.trans hb3) | (refine zfG rfl (.tmp 18) (.tmp 31) rfl w.heap.size u6 m e' ?_ ?_ w3.heap.size 1 (.slice ao3 (R+1) cap3) ?_ ?_ rfl (by omega) ?_ ?_;(simp [Act.eval,Act.put]);(exact (zaU HBB.out.row fun b hb'=>bH.block b (HBB.out.row.lt b hb').2).alloc _);(simp [Act.eval,Act.put]);simp;(simp;have:=bH.size;omega);intro v4 w4 hr4 hg4 hn4))
   all_goals
    have NX:=HBB.out.next bH ho3 hr4 hg4 hn4;clear HBB HOM bH bD hr4 hg4 hn4 ho3 hb3 ho2 hc2 hbw;go_wp2
    go_roundw
    case rel=>exact ⟨m+1,by omega,by go_num,_,NX⟩
    case measure=>simp [intOf];omega
  ·have hmn:m=R:=by omega
   subst hmn;obtain ⟨g2,c2,e2,hE⟩:=hB.done;have RD:=zh1 _ m (m+1) m (aug m f c) w.heap.size g2 c2 e2 (by omega) (by omega) (by omega) (zds kf kc) wr hE;have hv:=hE.val;rw [hv] at RD;clear hE hB;subst hv
   go_wp2_with fail
   refine RD.mono ?_;rintro ee w4 ⟨rfl,⟨e4,hE4⟩,hb4⟩;have B4:Below w.heap.size w w4:=hbw.trans hb4;have hle:=(zbA (R:=m) (M:=aug m f c) m).1;obtain ⟨G,hG⟩:∃ G,G=zah m (aug m f c) m:=⟨_,rfl⟩;have HG:=hid hG;rw [← hG] at hle hE4 ⊢;obtain ⟨rk,hrk⟩:∃ rk,rk=G.2:=⟨_,rfl⟩;have HRK:=hid hrk;rw [← hrk] at hle ⊢;clear hG hrk hb4 RD hbw;have hw4:=B4.size
   by_cases hfull:rk<m
   ·go_wp2
    go_ret2
    exact ⟨_,false,0,fun _=>0,rfl,⟨fun h=>by simp at h,fun _=>⟨by rw [← HG.out,← HRK.out];exact hfull,rfl⟩⟩,zbh _ _ _ _,B4⟩
   ·go_wp2
    go_loopw [9,10] (fun v i wr=>∃ q:Nat,q≤m∧i=.int .i64 q∧Own wr w4.heap.size wr.heap.size v q (fun i=>G.1 i m)∧Below w4.heap.size w4 wr) (fun _ i _=>m-(intOf i).toNat)
    case atStart=>exact ⟨0,Nat.zero_le _,rfl,zbV w4 _,(Below.refl _ _).alloc (Nat.le_refl _) _⟩
    case round=>
     obtain ⟨q,hq,rfl,hown,hb⟩:=hrel
     by_cases hqk:q<m
     ·have cq:wr.cell? ⟨g2,q,none⟩=some (e4 q):=(hb.cell (p:=⟨g2,q,none⟩) hE4.high).trans (hE4.cell q hqk)
      obtain ⟨gq,capq,heq,hg1,hg2,hg3,_⟩:=(hE4.each q hqk).form (by omega)
      have cv:wr.cell? ⟨gq,m,none⟩=some (.int .u8 (G.1 q m)):=by
       have h5:=(hE4.each q hqk).1;rw [heq] at h5;exact (hb.cell (p:=⟨gq,m,none⟩) hg2).trans ((h5.cellAt m (by omega)).trans (zac _ _ _ (by omega)))
      rw [heq] at cq;obtain ⟨y,hy⟩:∃ y,y=G.1 q m:=⟨_,rfl⟩;have HY:=hid hy;rw [← hy] at cv;have hsz:=hb.size;have HO:=hid hown;have HB:=hid hb;clear hy heq hown hb
      go_wp2_with (at_builtin;refine zex rfl (.tmp 46) (.tmp 54) rfl w4.heap.size wr.heap.size u9 q (fun i=>G.1 i m) ?_ ?_ wr.heap.size 1 ?_ ?_ (by omega) ?_ ?_;(simp [Act.eval]);exact HO.out.alloc _;(simp [Act.eval]);(rw [← HY.out];simp);(simp;omega);intro v' w5 hown5 hb5)
      have R5:Below w4.heap.size w4 w5:=(HB.out.alloc hsz _).trans hb5;clear hb5 HO HB;go_wp2
      go_roundw
      case rel=>exact ⟨q+1,by omega,by go_num,hown5,R5⟩
      case measure=>simp [intOf];omega
     ·have hqn:q=m:=by omega
      subst hqn;go_wp2
      go_ret2
      refine ⟨_,true,q,fun i=>G.1 i q,rfl,⟨fun _=>⟨by rw [← HG.out,← HRK.out];omega,rfl,by rw [← HG.out]⟩,fun h=>by simp at h⟩,?_,B4.trans (hb.mono (by omega))⟩;exact hown.weaken (by omega) (Nat.le_refl _)
theorem zff (n base want:Nat) (vh:Value) (m:Nat) (hv:Nat→Nat) (h1:Nat) (w:World) (rh:RdI w h1 vh m (fun i=>(hv i:Int))) (hh:h1≤w.heap.size) (hm:n≤m) (hn0:1≤n) (hn:n≤16) (hb:∀ k,k<n→base+hv k<n+16) (hw:base+want<n+16) :
 Calls Tryz.prog 107 #[.int .i64 n,vh,.int .i64 want,.int .i64 base] w fun e w'=>∃ v' b k x,e=.returned v'∧zkk n (wtM n base hv) (genN n want base) b k x∧Own w' w.heap.size w'.heap.size v' k x∧Below w.heap.size w w':=by
 obtain ⟨aoh,caph,rfl,hmm,hch⟩:=rh;unfold maxLen at hmm;obtain ⟨bh,oh,rfl,hbh,hcell⟩:=hch (by omega);have HC:=hid hcell;have HBD:=hid hb;clear hch hcell hb
 go_enter Tryz.func107,Tryz.ntmps107
 go_wp2_with (at_make;refine zdP _ rfl _ _ rfl _ _ n rfl rfl rfl rfl (by omega) ?_;intro w1 hown1 hb1 hz1)
 have E1:OwnE w1 w.heap.size w1.heap.size (.slice (some ⟨w.heap.size,0,none⟩) n n) n (fun _=>0) (wtM n base hv) w.heap.size n (fun _=>nilS):=
  ⟨rfl,Nat.le_refl _,hz1,hown1,fun i _=>zbh _ _ _ _,⟨fun i _ hhh=>(by cases hhh),fun i j _ _ _ k hk=>(by cases hk)⟩⟩
 clear hown1
 go_loopw [10] (fun i wr=>∃ k:Nat,k≤n∧i=.int .i64 k∧∃ e,OwnE wr w.heap.size wr.heap.size (.slice (some ⟨w.heap.size,0,none⟩) n n) n (fun _=>k) (wtM n base hv) w.heap.size n e∧Below w.heap.size w wr) (fun i _=>n-(intOf i).toNat)
 case atStart=>exact ⟨0,Nat.zero_le _,rfl,_,E1,hb1⟩
 case round=>
  clear E1 hb1 hz1;obtain ⟨k,hk,rfl,e,hE,hbel⟩:=hrel;have HBL:=hid hbel
  by_cases hlt:k<n
  ·have ck:wr.cell? ⟨bh,oh+k,none⟩=some (.int .i64 (hv k:Int)):=(hbel.cell (p:=⟨bh,oh+k,none⟩) (by show bh<w.heap.size;omega)).trans (HC.out k (by omega))
   have C:=zd9 n (hv k) base hn (HBD.out k hlt) wr;obtain ⟨p,hp⟩:∃ p,p=hv k:=⟨_,rfl⟩;have HP:=hid hp;rw [← hp] at ck C;have HE0:=hid hE
   have hkm:(k:Int)<(m:Int):=by omega
   have szw:=hbel.size;obtain ⟨wk,hwk⟩:∃ wk,wk=wr:=⟨_,rfl⟩;rw [← hwk] at ck C HE0 szw HBL ⊢;clear hp hE hbel hwk
   go_wp2_with fail
   refine C.mono ?_;rintro ee w6 ⟨v6,rfl,o6,b6⟩;obtain ⟨gv,capv,hgv,h61,h62,h63,h64⟩:=o6.form (by omega);subst hgv;have E6:=(HE0.out.below b6 (Nat.le_refl _)).weaken b6.size;have s6:=b6.size;have q6:∀ j,j<n→∀ q,(e j).ownBlock=some q→q<wk.heap.size∨w6.heap.size≤q:=fun j hj q hq=>.inl ((HE0.out.each j hj).2 q hq);have B6:Below w.heap.size w w6:=HBL.out.trans (b6.mono szw);have hgh:=HE0.out.high;clear C ck b6;go_wp2
   go_loopw [12] (fun i wr=>∃ j:Nat,j≤n∧i=.int .i64 j∧∃ e,OwnE wr w.heap.size wr.heap.size (.slice (some ⟨w.heap.size,0,none⟩) n n) n (fun l=>if l<j then k+1 else k) (wtM n base hv) w.heap.size n e∧Own wr wk.heap.size w6.heap.size (.slice (some ⟨gv,0,none⟩) n capv) n (genN n p base)∧(∀ j,j<n→∀ q,(e j).ownBlock=some q→q<wk.heap.size∨w6.heap.size≤q)∧Below w.heap.size w wr∧w6.heap.size≤wr.heap.size) (fun i _=>n-(intOf i).toNat)
   case atStart=>exact ⟨0,Nat.zero_le _,rfl,e,by simpa using E6,o6,q6,B6,Nat.le_refl _⟩
   case round=>
    clear E6 o6 q6 B6;obtain ⟨j,hj,rfl,e3,hE3,ho3,hq3,hb3,s6r⟩:=hrel;have HE3:=hid hE3;have HO3:=hid ho3;have HQ3:=hid hq3;have HB3:=hid hb3
    by_cases hjn:j<n
    ·have c1:wr.cell? ⟨w.heap.size,j,none⟩=some (e3 j):=hE3.cell j hjn
     have c2:wr.cell? ⟨gv,j,none⟩=some (.int .u8 (genN n p base j)):=(ho3.1.cellAt j (by omega)).trans (zac _ _ _ hjn);have oj:=hE3.each j hjn
     simp only [if_neg (Nat.lt_irrefl j)] at oj
     obtain ⟨x,hx⟩:∃ x,x=e3 j:=⟨_,rfl⟩;obtain ⟨y,hy⟩:∃ y,y=genN n p base j:=⟨_,rfl⟩
     have hyw:y=wtM n base hv j k:=by rw [hy,HP.out];rfl
     have HX:=hid hx;have HYW:=hid hyw;rw [← hx] at c1 oj;rw [← hy] at c2;have HOJ:=hid oj;obtain ⟨aox,capx,hxs⟩:=oj.slice;subst hxs;have szr:=hb3.size;have c3:=(zbX wr (.cells #[.int .u8 y] 5) w.heap.size j hE3.high).trans c1;have hgR:=hE3.high;clear hE3 ho3 hq3 hb3 hx hy hyw oj;go_wp2
     go_region_law (refine zfc rfl (.tmp 39) (.tmp 44) rfl w.heap.size wr.heap.size (.slice aox k capx) k (wtM n base hv j) ?_ ?_ wr.heap.size 1 ?_ ?_ (by omega) ?_ ?_;(simp [Act.eval,Act.put]);exact HOJ.out.alloc _;(simp [Act.eval,Act.put]);(rw [← HYW.out];simp);(simp;omega);intro v7 w7 o7 g7 hl7;obtain ⟨ao7,cap7,rfl⟩:=o7.slice;have R7:w7.ownsRow w.heap.size 69 1 (.slice (some ⟨w.heap.size,0,none⟩) n n) n (zal n e3):=zaU HE3.out.row (fun q hq=>by (have e1:w.heap.size=q:=by simpa [Value.ownBlock] using hq);subst e1;exact (g7.block w.heap.size (by simp;omega) (fun hhh=>HE3.out.apart.1 j hjn (by rw [← HX.out];exact hhh.symm))).trans (Below.heap_alloc wr _ w.heap.size hgR));have p1:=(R7.cellAt j (by omega)).trans (zaC _ _ _ hjn);have p2:=R7.frozenAt j;rw [← HX.out] at p1)
     all_goals
      have g7':(wr.alloc (.cells #[.int .u8 y] 5)).grownBy w7 (e3 j).ownBlock:=⟨g7.os,g7.tape,g7.output,g7.size,by rw [← HX.out];exact g7.block⟩
      have hl7':(Value.slice ao7 (k+1) cap7).ownBlock=(e3 j).ownBlock∨(Value.slice ao7 (k+1) cap7).ownBlock=some (wr.heap.size+1):=by
       rcases hl7 with h | h
       ·left;rw [← HX.out];exact h
       ·right;rw [h];simp
      have s7:wr.heap.size+1≤w7.heap.size:=by have:=g7'.size;simpa using this
      have GE:=HE3.out.grow j hjn (n':=fun l=>if l<j+1 then k+1 else k) g7' (by simpa using o7) hl7' (fun l _ hl=>by
       by_cases c:l<j
       ·have c2:l<j+1:=by omega
        simp only [if_pos c,if_pos c2]
       ·have c2:¬ l<j+1:=by omega
        simp only [if_neg c,if_neg c2])
      have zs:(w7.setCell ⟨w.heap.size,j,none⟩ (.slice ao7 (k+1) cap7)).heap.size=w7.heap.size:=by simp
      rw [← zs] at GE
      have GO:Own (w7.setCell ⟨w.heap.size,j,none⟩ (.slice ao7 (k+1) cap7)) wk.heap.size w6.heap.size (.slice (some ⟨gv,0,none⟩) n capv) n (genN n p base):=HO3.out.kept fun q hq=>by
       have e1:gv=q:=by simpa [Value.ownBlock] using hq
       subst e1;refine (heap_setCell_other w7 ⟨w.heap.size,j,none⟩ gv _ (by show gv≠w.heap.size;omega)).trans ((g7'.block gv (by simp;omega) (fun hhh=>?_)).trans (Below.heap_alloc wr _ gv (by omega)));have:=HQ3.out j hjn gv hhh.symm;omega
      have GQ:∀ l,l<n→∀ q,(if l=j then Value.slice ao7 (k+1) cap7 else e3 l).ownBlock=some q→q<wk.heap.size∨w6.heap.size≤q:=fun l hl q hq=>by
       by_cases c:l=j
       ·rw [if_pos c] at hq
        rcases hl7' with h | h
        ·rw [h] at hq
         exact HQ3.out j hjn q hq
        ·rw [h] at hq
         cases hq
         right;omega
       ·rw [if_neg c] at hq
        exact HQ3.out l hl q hq
      have GB:Below w.heap.size w (w7.setCell ⟨w.heap.size,j,none⟩ (.slice ao7 (k+1) cap7)):=((HB3.out.alloc szr _).grown g7' (by simp;omega) (fun q hq=>((HE3.out.each j hjn).1.lt q hq).1)).setCell (Nat.le_refl _) _
      have GS:w6.heap.size≤(w7.setCell ⟨w.heap.size,j,none⟩ (.slice ao7 (k+1) cap7)).heap.size:=by rw [zs];omega
      clear g7 g7' hl7 hl7' o7 R7 p1 p2 HE3 HO3 HQ3 HB3 HOJ c1 c2 c3 zs;go_wp2
      go_roundw
      case rel=>exact ⟨j+1,by omega,by go_num,_,GE,GO,GQ,GB,GS⟩
      case measure=>simp [intOf];omega
    ·obtain rfl:j=n:=by omega
     have E9:=hE3.congrN (n':=fun _=>k+1) (fun l hl=>by simp [hl]);clear hE3 ho3 hq3;go_wp2
     go_roundw
     case rel=>exact ⟨k+1,by omega,by go_num,_,E9,hb3⟩
     case measure=>simp [intOf];omega
  ·obtain rfl:k=n:=by omega
   have C:=zd9 k want base hn hw wr;have HE:=hid hE;clear hE hbel
   go_wp2_with fail
   refine C.mono ?_;rintro ee w6 ⟨v6,rfl,o6,b6⟩;have B6:Below w.heap.size w w6:=HBL.out.trans (b6.mono HBL.out.size);have CS:=zgV _ _ k (wtM k base hv) (genN k want base) w.heap.size wr.heap.size w.heap.size k wr.heap.size w6.heap.size e w6 (HE.out.below b6 (Nat.le_refl _)) o6 b6.size (Nat.le_refl _) (by omega) hn (zdr k base hv) (zbY k want base);obtain ⟨ao6,cap6,rfl⟩:=o6.slice;clear C o6 b6
   go_wp2_with fail
   refine CS.mono ?_;rintro ee w7 ⟨v7,b7,k7,x7,rfl,hp7,o7,b7'⟩;have HP7:=hid hp7;have HO7:=hid o7;have B7:Below w.heap.size w w7:=B6.trans (b7'.mono B6.size);have s67:=B6.size;obtain ⟨ao7,cap7,rfl⟩:=o7.slice;clear CS hp7 o7 b7' B6;go_wp2;go_ret;exact ⟨_,b7,k7,x7,rfl,HP7.out,HO7.out.weaken s67 (Nat.le_refl _),B7⟩
theorem zdf (n want:Nat) (vh:Value) (hv:Nat→Nat) (h1:Nat) (w:World) (rh:RdI w h1 vh n (fun i=>(hv i:Int))) (hh:h1≤w.heap.size) (hn0:1≤n) (hn:n≤3) (hb:∀ k,k<n→hv k<n+2) (hr:∀ k,k+1<n→hv k<hv (k+1)) (hw:want<n+2) :
 Calls Tryz.prog 107 #[.int .i64 n,vh,.int .i64 want,.int .i64 0] w fun e w'=>∃ v',e=.returned v'∧Own w' w.heap.size w'.heap.size v' n (zaN n 0 hv want)∧Below w.heap.size w w':=by
 have C:=zff n 0 want vh n hv h1 w rh hh (Nat.le_refl _) hn0 (by omega) (fun k hk=>by have:=hb k hk;omega) (by omega);have e0:((0:Nat):Int)=0:=rfl;rw [e0] at C;refine C.mono fun e w' ⟨v',b,k,x,he,hp,ho,hbel⟩=>?_;have hfull:=zeR n hn0 hn hv (genN n want 0) hb hr
 have hbt:b=true:=by
  cases b with
  | true=>rfl
  | false=>have:=(hp.2 rfl).1;omega
 obtain ⟨_,hk,hx⟩:=hp.1 hbt;subst hk;subst hx;exact ⟨v',he,ho,hbel⟩
def cutN (b:Nat→Nat):Mat:=fun i j=>b (4*i+j)
def encN (d:Nat) (b:Nat→Nat):Mat:=fun i j=>if i<d then cutN b i j else mixN (cutN b) (genN d i 0) d j
theorem zeG {f g:Mat} {c:Nat→Nat}:∀ {k:Nat} {j:Nat},(∀ i,i<k→f i j=g i j)→mixN f c k j=mixN g c k j
 | 0,_,_=>rfl
 | k+1,j,h=>by rw [mixN,mixN,zeG (fun i hi=>h i (by omega)),h k (by omega)]
theorem zhg {d:Nat} {b:Nat→Nat} (kb:∀ i,b i<256):Byt (encN d b):=fun i j=>by
 unfold encN
 split
 ·exact kb _
 ·exact zdp _ _ (zbY d i 0) _ _
theorem zjy (k:Nat) (e:Nat→Value) (x:Value):zal k e++[x]=zal (k+1) (fun i=>if i=k then x else e i):=by
 rw [← zca]
 simp only [if_pos]
 rw [zbj (e:=e) (g:=fun i=>if i=k then x else e i) (fun i hi=>by simp [show ¬ i=k by omega])]
theorem zh2 {d:Nat} {b:Nat→Nat} {k j:Nat} (hk:d≤k):mixN (encN d b) (genN d k 0) d j=encN d b k j:=by
 have h1:¬ k<d:=by omega
 rw [zeG (g:=cutN b) (fun i hi=>by simp [encN,hi])]
 simp [encN,h1]
theorem zh3 {w:World} {lo hi:Nat} {v:Value} {n:Nat} {f:Nat→Nat} (h:Own w lo hi v n f):v.oneCell'=true:=by
 obtain ⟨ao,cap,rfl⟩:=h.slice;rfl
theorem zfS (d s:Nat) (hd1:1≤d) (hd:d≤3) (hs:s≤2) (vb:Value) (b:Nat→Nat) (h1:Nat) (w:World) (rb:Rd w h1 vb (4*d) b) (hcap:∀ ao cap,vb=.slice ao (4*d) cap→4*d≤cap) (hh:h1≤w.heap.size) (kb:∀ i,b i<256) :
 Calls Tryz.prog 37 #[.int .i64 d,.int .i64 s,vb] w fun e w'=>∃ v',e=.returned v'∧OwnM w' w.heap.size w'.heap.size v' (d+s) (fun _=>4) (encN d b)∧Below w.heap.size w w':=by
 obtain ⟨aob,capb,rfl,hmb,hcb⟩:=rb;obtain ⟨bb,off,rfl,hbb,hcell⟩:=hcb (by omega);have hcp:=hcap _ _ rfl;clear hcap;have HCB:=hid hcell
 have hbw:bb<w.heap.size:=by omega
 clear hcb hcell
 go_enter Tryz.func37,Tryz.ntmps37
 go_wp2
 have hstart:Bld w (w.alloc (.cells #[] 69)) w.heap.size (.slice (some ⟨w.heap.size,0,none⟩) 0 0) 0 (fun _=>4) (encN d b) (fun _=>nilS):=by
  have hl:=World.ownsRow_lit (base:=w.heap.size) (e:=69) (size:=1) w #[] 0 (Nat.le_refl _) (Nat.zero_le _) rfl;exact ⟨hl,by simp,fun i hi=>by omega,fun i j hi=>by omega,(Below.refl _ _).alloc (Nat.le_refl _) _,by simp⟩
 go_loopw [7,8] (fun v i wr=>∃ m:Nat,m≤d∧i=.int .i64 m∧∃ e,Bld w wr w.heap.size v m (fun _=>4) (encN d b) e) (fun _ i _=>d-(intOf i).toNat)
 case atStart=>exact ⟨0,Nat.zero_le _,rfl,_,hstart⟩
 case round=>
  clear hstart;obtain ⟨m,hm1,rfl,e,hB⟩:=hrel;have hbelw:Below w.heap.size w wr:=hB.bel
  by_cases hlt:m<d
  ·obtain ⟨A,hA⟩:∃ A,A=4*m:=⟨_,rfl⟩
   have rA:Rd wr w.heap.size (.slice (some ⟨bb,off+A,none⟩) 4 (capb-A)) 4 (encN d b m):=⟨_,_,rfl,by unfold maxLen;omega,fun _=>⟨bb,off+A,rfl,hbw,fun i hi=>by
    have:=HCB.out (4*m+i) (by omega)
    have e1:off+(4*m+i)=off+A+i:=by omega
    rw [e1] at this;rw [(hbelw.cell (p:=⟨bb,off+A+i,none⟩) hbw).trans this]
    simp [encN,hlt,cutN]⟩⟩
   have HRA:=hid rA;have HBB:=hid hB;have hszr:=hB.le
   have a1:IntKind.i64.wrap ((m:Int)*4)=(A:Int):=by rw [IntKind.wrap_i64];omega
   have a2:IntKind.i64.wrap ((m:Int)+1)=(m:Int)+1:=by rw [IntKind.wrap_i64];omega
   have a3:IntKind.i64.wrap (((m:Int)+1)*4)=(A:Int)+4:=by rw [IntKind.wrap_i64];omega
   have a4:(m:Int)*4=(A:Int):=by omega
   have a5:((m:Int)+1)*4=(A:Int)+4:=by omega
   clear hA rA hB
   have a6:(A:Int)+4≤(capb:Int):=by omega
   go_wp2_with (first | (at_builtin;refine zdu rfl (.tmp 18) (.tmp 25) rfl wr.heap.size (wr.heap.size+1) (.slice (some ⟨wr.heap.size,0,none⟩) 0 0) 0 (encN d b m) ?_ ?_ w.heap.size (.slice (some ⟨bb,off+A,none⟩) 4 (capb-A)) 4 (encN d b m) ?_ ?_ (by omega) (fun i _=>by rw [Nat.zero_add]) (by omega) ?_ ?_;(simp [Act.eval]);exact (zbV wr _).weaken (Nat.le_refl _) (by simp);(simp [Act.eval]);exact HRA.out.below ((Below.refl w.heap.size wr).alloc hszr _) (Nat.le_refl _);simp;intro v2 w2 ho2 hg2;obtain ⟨ao2,cap2,rfl⟩:=ho2.slice;have hb2:Below wr.heap.size wr w2:=((Below.refl wr.heap.size wr).alloc (Nat.le_refl _) _).grown hg2 (by simp) (fun k hk=>by simp [Value.ownBlock] at hk;omega)) | (at_builtin;refine zdt rfl (.tmp 17) (.tmp 27) rfl w.heap.size u7 m e ?_ ?_ w2.heap.size 1 (.slice ao2 (0+4) cap2) ?_ ?_ rfl (by omega) ?_ ?_;(simp [Act.eval]);exact (zaU HBB.out.row fun b hb'=>hb2.block b (HBB.out.row.lt b hb').2).alloc _;(simp [Act.eval]);simp;(simp;have:=hb2.size;omega);intro v4 w4 hr4 hg4 hn4))
   have NX:=HBB.out.next hb2 ho2 hr4 hg4 hn4;clear hb2 ho2 hr4 hg4 hn4 HBB HRA
   go_roundw
   case rel=>exact ⟨m+1,by omega,by go_num,_,NX⟩
   case measure=>simp [intOf];omega
  ·obtain rfl:m=d:=by omega
   obtain ⟨wA,hwA⟩:∃ wA,wA=wr:=⟨_,rfl⟩;rw [← hwA] at hB hbelw ⊢;clear hwA;have hsA:=hB.le;obtain ⟨gP,cP,eP,hE⟩:=hB.done;have hv:=hE.val;subst hv;have HP:=hid hE;have HBA:=hid hbelw;have hgP:=hE.high;clear hE hB hbelw
   go_wp2_with (at_builtin;refine zeU rfl (.tmp 29) (.tmp 30) rfl wA.heap.size (.slice (some ⟨wA.heap.size,0,none⟩) 0 0) 0 eP ?_ ?_ gP 0 m cP ?_ ?_ ?_ (by omega) ?_ ?_;(simp [Act.eval]);exact World.ownsRow_lit (base:=wA.heap.size) (e:=69) (size:=1) wA #[] 0 (Nat.le_refl _) (Nat.zero_le _) rfl;(simp [Act.eval]);(intro i hi;simp only [Nat.zero_add];exact (zbX wA _ gP i hgP).trans (HP.out.cell i hi));(intro i hi;simp only [Nat.zero_add];exact zh3 (HP.out.each i hi));simp;intro v5 w5 hr5 hg5 hn5)
   simp only [Nat.zero_add] at hr5
   have B5:Below wA.heap.size wA w5:=((Below.refl wA.heap.size wA).alloc (Nat.le_refl _) _).grown hg5 (by simp) (fun k hk=>by simp [Value.ownBlock] at hk;omega);have s5:=B5.size
   have hnn5:v5≠nilS:=fun h=>by have:=(hn5.mp h).1;cases this
   have R0:BldR w5 w.heap.size w5.heap.size v5 m (fun _=>4) (encN m b) eP:=⟨zcH hr5 hsA,hnn5,fun b hb=>(hr5.lt b hb).2,fun i hi=>((HP.out.each i hi).below B5 (Nat.le_refl _)).mono s5,HP.out.apart.2,by omega,Nat.le_refl _⟩;clear hg5 hn5 hnn5
   go_loopw [9,10] (fun v j wr=>∃ k:Nat,k≤s∧j=.int .i64 k∧∃ e,BldR wr w.heap.size wr.heap.size v (m+k) (fun _=>4) (encN m b) e∧wr.ownsRow wA.heap.size 69 1 v (m+k) (zal (m+k) e)∧Below wA.heap.size wA wr) (fun _ j _=>s-(intOf j).toNat)
   case atStart=>exact ⟨0,Nat.zero_le _,rfl,eP,R0,hr5,B5⟩
   case round=>
    clear R0 hr5 B5;obtain ⟨k,hk,rfl,e2,hB,hrow,hbA⟩:=hrel;have szr:=hbA.size
    by_cases hlt2:k<s
    ·have D:=zd9 m (m+k) 0 (by omega) (by omega) wr
     have eRp:((m+k:Nat):Int)=(m:Int)+(k:Int):=by simp
     have e0:((0:Nat):Int)=0:=rfl;rw [eRp,e0] at D;have HB:=hid hB;have HROW:=hid hrow;have HBW:=hid hbA;have HF:Hid (∀ j,j<4→mixN (encN m b) (genN m (m+k) 0) m j=encN m b (m+k) j):=fun j _=>zh2 (by omega);clear hB hrow hbA eRp e0
     go_wp2_with (first | (go_at_call 61;refine D.mono ?_;rintro ee w6 ⟨v6,rfl,o6,b6⟩;obtain ⟨ao6,cap6,rfl⟩:=o6.slice) | (go_at_call 60;refine (zdW _ _ m 4 (fun _=>4) (encN m b) (genN m (m+k) 0) wA.heap.size w6.heap.size w6 ((HP.out.rd.below HBW.out (Nat.le_refl _)).below (b6.mono szr) (Nat.le_refl _)) o6.rd (Nat.le_trans szr b6.size) (Nat.le_refl _) (by omega) (fun _ _=>rfl) (by omega) (zhg kb) (zbY m (m+k) 0)).mono ?_;rintro ee w7 ⟨v7,rfl,o7,b7⟩;obtain ⟨ao7,cap7,rfl⟩:=o7.slice;have hb7:Below wr.heap.size wr w7:=b6.trans (b7.mono b6.size)) | (at_builtin;refine zdt rfl (.tmp 37) (.tmp 45) rfl wA.heap.size u9 (m+k) e2 ?_ ?_ w7.heap.size 1 (.slice ao7 4 cap7) ?_ ?_ rfl (by omega) ?_ ?_;(simp [Act.eval]);exact (zaU HROW.out fun b hb'=>hb7.block b (HROW.out.lt b hb').2).alloc _;(simp [Act.eval]);simp;(simp;have:=hb7.size;omega);intro v4 w4 hr4 hg4 hn4))
     have s6:=b6.size;have s7:=hb7.size;have NX:=(HB.out.kept (w2:=w7) (fun b _ h2=>hb7.block b h2) s7).next (n':=fun _=>4) (f':=encN m b) (o7.congr HF.out) s6 (fun _ _=>rfl) (fun _ _=>rfl) (zcH hr4 hsA) hg4 hn4;rw [zjy] at hr4;have B4:Below wA.heap.size wA w4:=(HBW.out.trans (hb7.mono szr)).trans (((Below.refl wA.heap.size w7).alloc (by omega) _).grown hg4 (by simp;omega) (fun q hq=>(HROW.out.lt q hq).1));clear b6 b7 hb7 o6 o7 hg4 hn4 HB HROW HBW D;go_wp2
     go_roundw
     case rel=>exact ⟨k+1,by omega,by go_num,_,NX,hr4,B4⟩
     case measure=>simp [intOf];omega
    ·obtain rfl:k=s:=by omega
     obtain ⟨g9,c9,hE9⟩:=hB.done;have hB9:Below w.heap.size w wr:=HBA.out.trans (hbA.mono hsA);clear hB hrow hbA;go_wp2;go_ret;exact ⟨_,rfl,⟨_,_,_,hE9⟩,hB9⟩
end Go.Proofs.YtfhgcadinjfooaaGreat
namespace Go.Proofs.YtfhgcadinjfooaaGreat
open F256
def zcQ (D:Nat) (n:Nat→Nat) (R:Nat) (f:Mat) (want:Nat):Nat→Nat:=mixN (fun k=>f (nthN n R k)) (zaN D 0 (nthN n R) want) D
def decN (D:Nat) (n:Nat→Nat) (R:Nat) (f:Mat):Nat→Nat:=fun t=>zcQ D n R f (t/4) (t%4)
theorem ziY (D:Nat) (n:Nat→Nat) (R:Nat) (f:Mat) (k i:Nat) (hi:i<4):decN D n R f (4*k+i)=zcQ D n R f k i:=by
 unfold decN;rw [show (4*k+i)/4=k by omega,show (4*k+i)%4=i by omega]
end Go.Proofs.YtfhgcadinjfooaaGreat
namespace Go.Proofs.YtfhgcadinjfooaaGreat
open Go.RowKit F256
theorem zek {ops:Array Oper} {rest:List Oper} {o:Oper} {a:Act} {w:World} {Q:Exit→Act→World→Prop}
 (hg:o.guard=none) (s x:Operand) (hop:o.op=Op.call { callee:=Callee.builtin Builtin.append,args:=#[s,x],argTypes:=#[25,25] })
 (lo hi:Nat) (v:Value) (n:Nat) (f:Nat→Int) (hs:a.eval s=v) (hown:OwnI w lo hi v n f) (b c:Nat) (hx:a.eval x=.slice (some ⟨b,0,none⟩) 1 c) (hcell:w.cell? ⟨b,0,none⟩=some (.int .i64 (f n)))
 (hn:n+1≤1000000) (hlo:lo≤w.heap.size)
 (hK:∀ v' w',OwnI w' lo w'.heap.size v' (n+1) f→w.grownBy w' v.ownBlock→wpList Tryz.prog ops Q rest (a.put o.dst v') w'):wpList Tryz.prog ops Q (o::rest) a w:=by
 obtain ⟨i0,hi0,hz0,hz1,hz2⟩:=info_parts zeM;refine wpList_append_own w hg s x 25 hop lo 2 i0 (.int .i64 0) 1 8 Tryz.underlying25 hi0 hz0 hz1 hz2 rfl (by decide) v n (zbP n f) hs hown.1 ⟨b,0,none⟩ 1 c [.int .i64 (f n)] hx rfl ?_ ?_ (by unfold maxLen;omega) (by omega) hlo ?_
 ·intro j u hj
  match j,hj with
  | 0,hj=>simp at hj;subst hj;simpa [Addr.add] using hcell
 ·intro u hu
  simp at hu
  subst hu;rfl
 ·intro v' w' h1 h2 _
  rw [zf8] at h1;exact hK v' w' ⟨h1,fun k hk=>(h1.lt k hk).2⟩ h2
theorem zfT {w:World} {lo lo' hi:Nat} {v x:Value} {k n:Nat} {xs:List Value} {f:Nat→Int} (h:w.ownsRow lo 69 1 v k xs) (ho:OwnI w lo' hi x n f) (b:Nat) (hb:v.ownBlock=some b):x.ownBlock≠some b:=by
 intro hx
 rcases h.2 with ⟨rfl,_⟩ | ⟨g,cap,cur,rfl,_,hg,_⟩
 ·cases hb
 ·rcases ho.1.2 with ⟨rfl,_⟩ | ⟨g',cap',cur',rfl,_,hg',_⟩
  ·cases hx
  ·simp [Value.ownBlock] at hb hx
   subst hb;subst hx;rw [hg] at hg'
   simp at hg'
theorem OwnI.kept {w w':World} {lo hi:Nat} {v:Value} {n:Nat} {f:Nat→Int} (h:OwnI w lo hi v n f) (hk:∀ g,v.ownBlock=some g→w'.heap[g]?=w.heap[g]?):OwnI w' lo hi v n f:=by
 refine ⟨⟨h.1.1,?_⟩,h.2⟩
 rcases h.1.2 with hn | ⟨g,cap,cur,rfl,hbg,hgg,rest⟩
 ·exact .inl hn
 ·exact .inr ⟨g,cap,cur,rfl,hbg,(hk g rfl).trans hgg,rest⟩
def BlkP (D:Nat) (n:Nat→Nat) (R:Nat) (f:Mat) (want:Nat) (w:World) (ee:Ending) (w':World):Prop:=
 ∃ v' b,ee=.returned (.tuple #[v',.bool b])∧(b=true↔D≤cntN n R)∧Own w' w.heap.size w'.heap.size v' (if b=true then 4 else 0) (zcQ D n R f want)∧Below w.heap.size w w'
theorem zgW (D want:Nat) (v:Value) (R:Nat) (n:Nat→Nat) (f:Mat) (h1:Nat) (w:World) (r:RdM w h1 v R n f) (hh:h1≤w.heap.size) (hD1:1≤D) (hD:D≤3) (hR:R≤D+2) (hw:want<D+2) (h4:∀ i,i<R→n i=0∨n i=4) (kf:Byt f) :
 Calls Tryz.prog 85 #[.int .i64 D,v,.int .i64 want] w (BlkP D n R f want w):=by
 obtain ⟨ao,cap,e,rfl,hm,hc,he⟩:=r;have HHE:=hid he;have HHC:=hid hc;have HH4:=hid h4;clear hc he h4
 go_enter Tryz.func85,Tryz.ntmps85
 go_wp2
 have S0:((w.alloc (.cells #[] 2)).alloc (.cells #[] 69)).heap.size=w.heap.size+2:=by simp
 have I0:OwnI ((w.alloc (.cells #[] 2)).alloc (.cells #[] 69)) w.heap.size ((w.alloc (.cells #[] 2)).alloc (.cells #[] 69)).heap.size (.slice (some ⟨w.heap.size,0,none⟩) 0 0) 0 (fun t=>(nthN n R t:Int)):=((zik w _).alloc _).weaken (Nat.le_refl _) (by simp)
 have M0:((w.alloc (.cells #[] 2)).alloc (.cells #[] 69)).ownsRow w.heap.size 69 1 (.slice (some ⟨w.heap.size+1,0,none⟩) 0 0) 0 (zal 0 fun t=>e (nthN n R t)):=by
  have hl:=World.ownsRow_lit (base:=w.heap.size) (e:=69) (size:=1) (w.alloc (.cells #[] 2)) #[] 0 (by simp) (Nat.zero_le _) rfl
  have hz:(w.alloc (.cells #[] 2)).heap.size=w.heap.size+1:=by simp
  rw [hz] at hl;exact hl
 go_loopw [8,9,10] (fun vh vm i wr=>∃ c k:Nat,k≤R∧i=.int .i64 k∧c=cntN n k∧c≤D∧OwnI wr w.heap.size wr.heap.size vh c (fun t=>(nthN n R t:Int))∧wr.ownsRow w.heap.size 69 1 vm c (zal c fun t=>e (nthN n R t))∧Below w.heap.size w wr) (fun _ _ i _=>R-(intOf i).toNat)
 case atStart=>exact ⟨0,0,Nat.zero_le _,rfl,rfl,Nat.zero_le _,I0,M0,((Below.refl _ _).alloc (Nat.le_refl _) _).alloc (by simp) _⟩
 case round=>
  clear I0 M0 S0;obtain ⟨c,k,hk,rfl,hck,hcD,hI,hM,hb⟩:=hrel;have HCK:=hid hck;have HI:=hid hI;have HM:=hid hM;have HB:=hid hb;obtain ⟨ao8,cap8,hs8⟩:=hI.slice;subst hs8;have szr:=hb.size;clear hck
  by_cases hlt:k<R
  ·by_cases hcd:c<D
   ·obtain ⟨b,off,hao,hblt,hcell⟩:=HHC.out (by omega)
    subst hao;have c1:wr.cell? ⟨b,off+k,none⟩=some (e k):=(hb.cell (p:=⟨b,off+k,none⟩) (by show b<w.heap.size;omega)).trans (hcell k hlt);obtain ⟨aok,capk,hsk,hmk,hqk⟩:=HHE.out k hlt;unfold maxLen at hmk;obtain ⟨nk,hnk⟩:∃ x,x=n k:=⟨_,rfl⟩;have HNK:=hid hnk
    have HEK:Hid (e k=.slice aok nk capk):=by show e k=_;rw [hsk,hnk]
    rw [hsk,← hnk] at c1;rw [← hnk] at hmk;clear hnk hsk hqk hcell hI hM hb
    by_cases e1:nk=0
    ·have HN0:=hid e1
     have t1:decide ((0:Int)<(nk:Int))=false:=by simp;omega
     have t1n:decide (0<nk)=false:=by simp;omega
     clear e1;go_wp2
     go_roundw
     case rel=>exact ⟨c,k+1,by omega,by go_num,by rw [cntN,if_pos (by rw [← HNK.out];exact HN0.out)];exact HCK.out,hcD,HI.out,HM.out,HB.out⟩
     case measure=>simp [intOf];omega
    ·have hnt:nthN n R c=k:=by rw [HCK.out];exact zgn hlt (by rw [← HNK.out];exact e1)
     have HNT:=hid hnt;have HN0:=hid e1
     have t1:(0:Int)<(nk:Int):=by omega
     have hbw:b<w.heap.size:=by omega
     clear e1 hnt
     go_wp2_with (first | (at_builtin;refine zek rfl (.tmp 31) (.tmp 33) rfl w.heap.size wr.heap.size (.slice ao8 c cap8) c (fun t=>(nthN n R t:Int)) ?_ ?_ wr.heap.size 1 ?_ ?_ (by omega) ?_ ?_;(simp [Act.eval]);exact HI.out.alloc _;(simp [Act.eval]);(rw [HNT.out];simp);(simp;omega);intro v2 w2 o2 g2;have b2:Below w.heap.size wr w2:=((Below.refl w.heap.size wr).alloc szr _).grown g2 (by simp;omega) (fun q hq=>(HI.out.1.lt q hq).1);have c2:w2.cell? ⟨b,off+k,none⟩=some (.slice aok nk capk):=(b2.cell (p:=⟨b,off+k,none⟩) hbw).trans c1;have m2:w2.ownsRow w.heap.size 69 1 u9 c (zal c fun t=>e (nthN n R t)):=zaU HM.out (fun q hq=>(g2.block q (by have:=(HM.out.lt q hq).2;simp;omega) (fun hhh=>zfT HM.out HI.out q hq hhh.symm)).trans (Below.heap_alloc wr _ q (HM.out.lt q hq).2));have s2:wr.heap.size+1≤w2.heap.size:=(by have:=g2.size;simpa using this);obtain ⟨ao2,cap2,rfl⟩:=o2.slice) | (at_builtin;refine zdt rfl (.tmp 35) (.tmp 40) rfl w.heap.size u9 c (fun t=>e (nthN n R t)) ?_ ?_ w2.heap.size 1 (.slice aok nk capk) ?_ ?_ rfl (by omega) ?_ ?_;(simp [Act.eval]);exact m2.alloc _;(simp [Act.eval]);simp;(simp;omega);intro v4 w4 hr4 hg4 hn4))
     have hr5:w4.ownsRow w.heap.size 69 1 v4 (c+1) (zal (c+1) fun t=>e (nthN n R t)):=by
      rw [← zca,HNT.out,HEK.out];exact hr4
     have s4:w2.heap.size+1≤w4.heap.size:=by have:=hg4.size;simpa using this
     have o5:OwnI w4 w.heap.size w4.heap.size (.slice ao2 (c+1) cap2) (c+1) (fun t=>(nthN n R t:Int)):=(o2.kept fun q hq=>(hg4.block q (by have:=(o2.1.lt q hq).2;simp;omega) (fun hhh=>zfT m2 o2 q hhh.symm hq)).trans (Below.heap_alloc w2 _ q (o2.1.lt q hq).2)).mono (by omega);have b5:Below w.heap.size w w4:=(HB.out.trans b2).trans (((Below.refl w.heap.size w2).alloc (by omega) _).grown hg4 (by simp;omega) (fun q hq=>(m2.lt q hq).1));clear hr4 hg4 hn4 o2 g2 b2 m2 c1 c2 HI HM;go_wp2
     go_roundw
     case rel=>exact ⟨c+1,k+1,by omega,by go_num,by rw [cntN,if_neg (by rw [← HNK.out];exact HN0.out),← HCK.out],by omega,o5,hr5,b5⟩
     case measure=>simp [intOf];omega
   ·obtain rfl:c=D:=by omega
    have hle:c≤cntN n R:=by have:=zcv n hk;have:=HCK.out;omega
    have hs:∀ t,t<c→nthN n R t<R∧n (nthN n R t)=4:=fun t ht=>by
     have q:=zcw (n:=n) (R:=R) (k:=t) (by omega);refine ⟨q.1,?_⟩
     rcases HH4.out _ q.1 with e0 | e0
     ·exact absurd e0 q.2.1
     ·exact e0
    have HLE:=hid hle;have CW:=zdf c want (.slice ao8 c cap8) (nthN n R) wr.heap.size wr HI.out.rd (Nat.le_refl _) hD1 hD (fun t ht=>by have:=(hs t ht).1;omega) (fun t ht=>zd4 (by omega)) hw
    obtain ⟨g9,cap9,hv9,hg9⟩:∃ g cap,u9=.slice (some ⟨g,0,none⟩) c cap∧g<wr.heap.size:=by
     rcases HM.out.2 with ⟨h,h2⟩ | ⟨g,cap,cur,h,_,h3,_⟩
     ·omega
     ·exact ⟨g,cap,h,(Array.getElem?_eq_some_iff.1 h3).1⟩
    subst hv9
    have RM:RdM wr wr.heap.size (.slice (some ⟨g9,0,none⟩) c cap9) c (fun t=>n (nthN n R t)) (fun t=>f (nthN n R t)):=⟨_,_,fun t=>e (nthN n R t),rfl,by unfold maxLen;omega,fun _=>⟨g9,0,rfl,hg9,fun t ht=>by
     rw [Nat.zero_add]
     exact (HM.out.cellAt t (by omega)).trans (zaC _ _ _ ht)⟩,fun t ht=>((HHE.out _ (hs t ht).1).below HB.out hh).mono (by omega)⟩
    have HRM:=hid RM;have HS4:Hid (∀ t,t<c→n (nthN n R t)=4):=fun t ht=>(hs t ht).2;clear hle hs RM hI hM hb
    go_wp2_with fail
    refine CW.mono ?_;rintro ee w5 ⟨v5,rfl,o5,b5⟩;have CX:=zdW (.slice (some ⟨g9,0,none⟩) c cap9) v5 c 4 (fun t=>n (nthN n R t)) (fun t=>f (nthN n R t)) (zaN c 0 (nthN n R) want) wr.heap.size w5.heap.size w5 (HRM.out.below b5 (Nat.le_refl _)) o5.rd b5.size (Nat.le_refl _) (by omega) HS4.out (by omega) (fun i j=>kf _ _) (zbR c 0 (nthN n R) want);have B5:Below w.heap.size w w5:=HB.out.trans (b5.mono szr);obtain ⟨ao5,cap5,rfl⟩:=o5.slice;clear CW o5 b5
    go_wp2_with fail
    refine CX.mono ?_;rintro ee w6 ⟨v6,rfl,o6,b6⟩;have B6:Below w.heap.size w w6:=B5.trans (b6.mono B5.size);have s5:=B5.size;obtain ⟨ao6,cap6,rfl⟩:=o6.slice;have HO6:=hid o6;clear CX o6 b6 B5;go_wp2
    go_ret2
    exact ⟨_,true,rfl,⟨fun _=>HLE.out,fun _=>rfl⟩,by simp only [if_pos];exact HO6.out.weaken s5 (Nat.le_refl _),B6⟩
  ·obtain rfl:k=R:=by omega
   by_cases hcd:c<D
   ·have HNC:Hid (¬ D≤cntN n k):=by show ¬ D≤cntN n k;have:=HCK.out;omega
    clear hI hM;go_wp2
    go_ret2
    exact ⟨_,false,rfl,⟨fun h=>(by cases h),fun h=>absurd h HNC.out⟩,zbh _ _ _ _,hb⟩
   ·obtain rfl:c=D:=by omega
    have hle:c≤cntN n k:=by have:=zcv n hk;have:=HCK.out;omega
    have hs:∀ t,t<c→nthN n k t<k∧n (nthN n k t)=4:=fun t ht=>by
     have q:=zcw (n:=n) (R:=k) (k:=t) (by omega);refine ⟨q.1,?_⟩
     rcases HH4.out _ q.1 with e0 | e0
     ·exact absurd e0 q.2.1
     ·exact e0
    have HLE:=hid hle;have CW:=zdf c want (.slice ao8 c cap8) (nthN n k) wr.heap.size wr HI.out.rd (Nat.le_refl _) hD1 hD (fun t ht=>by have:=(hs t ht).1;omega) (fun t ht=>zd4 (by omega)) hw
    obtain ⟨g9,cap9,hv9,hg9⟩:∃ g cap,u9=.slice (some ⟨g,0,none⟩) c cap∧g<wr.heap.size:=by
     rcases HM.out.2 with ⟨h,h2⟩ | ⟨g,cap,cur,h,_,h3,_⟩
     ·omega
     ·exact ⟨g,cap,h,(Array.getElem?_eq_some_iff.1 h3).1⟩
    subst hv9
    have kM:RdM wr wr.heap.size (.slice (some ⟨g9,0,none⟩) c cap9) c (fun t=>n (nthN n k t)) (fun t=>f (nthN n k t)):=⟨_,_,fun t=>e (nthN n k t),rfl,by unfold maxLen;omega,fun _=>⟨g9,0,rfl,hg9,fun t ht=>by
     rw [Nat.zero_add]
     exact (HM.out.cellAt t (by omega)).trans (zaC _ _ _ ht)⟩,fun t ht=>((HHE.out _ (hs t ht).1).below HB.out hh).mono (by omega)⟩
    have HRM:=hid kM;have HS4:Hid (∀ t,t<c→n (nthN n k t)=4):=fun t ht=>(hs t ht).2;clear hle hs kM hI hM hb
    go_wp2_with fail
    refine CW.mono ?_;rintro ee w5 ⟨v5,rfl,o5,b5⟩;have CX:=zdW (.slice (some ⟨g9,0,none⟩) c cap9) v5 c 4 (fun t=>n (nthN n k t)) (fun t=>f (nthN n k t)) (zaN c 0 (nthN n k) want) wr.heap.size w5.heap.size w5 (HRM.out.below b5 (Nat.le_refl _)) o5.rd b5.size (Nat.le_refl _) (by omega) HS4.out (by omega) (fun i j=>kf _ _) (zbR c 0 (nthN n k) want);have B5:Below w.heap.size w w5:=HB.out.trans (b5.mono szr);obtain ⟨ao5,cap5,rfl⟩:=o5.slice;clear CW o5 b5
    go_wp2_with fail
    refine CX.mono ?_;rintro ee w6 ⟨v6,rfl,o6,b6⟩;have B6:Below w.heap.size w w6:=B5.trans (b6.mono B5.size);have s5:=B5.size;obtain ⟨ao6,cap6,rfl⟩:=o6.slice;have HO6:=hid o6;clear CX o6 b6 B5;go_wp2
    go_ret2
    exact ⟨_,true,rfl,⟨fun _=>HLE.out,fun _=>rfl⟩,by simp only [if_pos];exact HO6.out.weaken s5 (Nat.le_refl _),B6⟩
end Go.Proofs.YtfhgcadinjfooaaGreat
namespace Go.Proofs.YtfhgcadinjfooaaGreat
def AskP (d s:Int) (R:Nat) (n:Nat→Nat) (x:Int):Prop:=(x=3∧¬ Shp d s)∨(x=1∧Shp d s∧((R:Int)≠d+s∨∃ i,i<R∧n i≠0∧n i≠4))∨(x=0∧Shp d s∧(R:Int)=d+s∧∀ i,i<R→n i=0∨n i=4)
theorem AskP.one {d s:Int} {R:Nat} {n:Nat→Nat} {x y:Int} (h:AskP d s R n x) (k:AskP d s R n y):x=y:=by
 rcases h with ⟨rfl,h⟩ | ⟨rfl,h,h2⟩ | ⟨rfl,h,h2,h3⟩<;>rcases k with ⟨rfl,k⟩ | ⟨rfl,k,k2⟩ | ⟨rfl,k,k2,k3⟩
 ·rfl
 ·exact absurd k h
 ·exact absurd k h
 ·exact absurd h k
 ·rfl
 ·rcases h2 with h2 | ⟨i,hi,h4,h5⟩
  ·exact absurd k2 h2
  ·rcases k3 i hi with e | e
   ·exact absurd e h4
   ·exact absurd e h5
 ·exact absurd h k
 ·rcases k2 with k2 | ⟨i,hi,h4,h5⟩
  ·exact absurd h2 k2
  ·rcases h3 i hi with e | e
   ·exact absurd e h4
   ·exact absurd e h5
 ·rfl
def DecAns (d s:Int) (R:Nat) (n:Nat→Nat) (x:Int):Prop:=(AskP d s R n x∧x≠0)∨(AskP d s R n 0∧¬ d.toNat≤cntN n R∧x=10)∨(AskP d s R n 0∧d.toNat≤cntN n R∧x=0)
theorem DecAns.one {d s:Int} {R:Nat} {n:Nat→Nat} {x y:Int} (h:DecAns d s R n x) (k:DecAns d s R n y):x=y:=by
 rcases h with ⟨h,h2⟩ | ⟨h,h2,rfl⟩ | ⟨h,h2,rfl⟩<;>rcases k with ⟨k,k2⟩ | ⟨k,k2,rfl⟩ | ⟨k,k2,rfl⟩
 ·exact h.one k
 ·exact absurd (h.one k) h2
 ·exact absurd (h.one k) h2
 ·exact absurd (k.one h) k2
 ·rfl
 ·exact absurd k2 h2
 ·exact absurd (k.one h) k2
 ·exact absurd h2 k2
 ·rfl
end Go.Proofs.YtfhgcadinjfooaaGreat
namespace Go.Proofs.YtfhgcadinjfooaaGreat
open Go.RowKit F256
def DcdP (D:Nat) (n:Nat→Nat) (R:Nat) (f:Mat) (w:World) (ee:Ending) (w':World):Prop:=
 ∃ v' b,ee=.returned (.tuple #[v',.bool b])∧(b=true↔D≤cntN n R)∧Own w' w.heap.size w'.heap.size v' (if b=true then 4*D else 0) (decN D n R f)∧Below w.heap.size w w'
theorem zfU (D:Nat) (v:Value) (R:Nat) (n:Nat→Nat) (f:Mat) (h1:Nat) (w:World) (r:RdM w h1 v R n f) (hh:h1≤w.heap.size) (hD1:1≤D) (hD:D≤3) (hR:R≤D+2) (h4:∀ i,i<R→n i=0∨n i=4) (kf:Byt f) :
 Calls Tryz.prog 59 #[.int .i64 D,v] w (DcdP D n R f w):=by
 have HR:=hid r;obtain ⟨ao,cap,e,rfl,hm,hc,he⟩:=r;have HH4:=hid h4;clear hc he h4 hm
 go_enter Tryz.func59,Tryz.ntmps59
 go_wp2
 go_loopw [6,7] (fun u i wr=>∃ k:Nat,k≤D∧i=.int .i64 k∧(0<k→D≤cntN n R)∧Own wr w.heap.size wr.heap.size u (4*k) (decN D n R f)∧Below w.heap.size w wr) (fun _ i _=>D-(intOf i).toNat)
 case atStart=>exact ⟨0,Nat.zero_le _,rfl,fun h=>by omega,zbV w _,(Below.refl _ _).alloc (Nat.le_refl _) _⟩
 case round=>
  obtain ⟨k,hk,rfl,hcnt,hown,hb⟩:=hrel;have HCN:=hid hcnt;have HO:=hid hown;have HB:=hid hb;have szr:=hb.size
  by_cases hlt:k<D
  ·have C:=zgW D k (.slice ao R cap) R n f h1 wr (HR.out.below hb hh) (Nat.le_trans hh szr) hD1 hD hR (by omega) HH4.out kf
   clear hcnt hown hb
   go_wp2_with fail
   refine C.mono ?_;rintro ee w2 ⟨v2,b2,rfl,hb2,o2,b2'⟩;have HB2:=hid hb2;have B2:Below w.heap.size w w2:=HB.out.trans (b2'.mono szr);have s2:=b2'.size;have HO2:=hid (HO.out.below b2' (Nat.le_refl _));clear C hb2 b2'
   cases b2 with
   | false=>
    have HNO:Hid (¬ D≤cntN n R):=fun h=>by have:=HB2.out.mpr h;cases this
    simp only [Bool.false_eq_true,if_false] at o2
    obtain ⟨ao2,cap2,rfl⟩:=o2.slice;clear o2 HB2;go_wp2
    go_ret2
    exact ⟨_,false,rfl,⟨fun h=>(by cases h),fun h=>absurd h HNO.out⟩,zbh _ _ _ _,B2⟩
   | true=>
    have HYES:Hid (D≤cntN n R):=HB2.out.mp rfl
    simp only [if_pos] at o2
    obtain ⟨ao2,cap2,rfl⟩:=o2.slice;have HO3:=hid o2
    have hm4:4*k+4≤1000000:=by omega
    have sw2:w.heap.size≤w2.heap.size:=by omega
    clear o2 HB2
    go_wp2_with (at_builtin;refine zdu rfl (.tmp 25) (.tmp 26) rfl w.heap.size wr.heap.size u6 (4*k) (decN D n R f) ?_ HO2.out w2.heap.size (.slice ao2 4 cap2) 4 (zcQ D n R f k) ?_ HO3.out.rd (by omega) (fun i hi=>ziY D n R f k i hi) hm4 sw2 ?_;(simp [Act.eval]);(simp [Act.eval]);intro v5 w5 o5 g5)
    have R5:Below w.heap.size w w5:=B2.grown g5 sw2 (fun q hq=>(HO2.out.1.lt q hq).1)
    have e4:4*k+4=4*(k+1):=by omega
    rw [e4] at o5;clear g5 HO2 HO3 HO HB;go_wp2
    go_roundw
    case rel=>exact ⟨k+1,by omega,by go_num,fun _=>HYES.out,o5,R5⟩
    case measure=>simp [intOf];omega
  ·obtain rfl:k=D:=by omega
   have HYES:Hid (k≤cntN n R):=hcnt (by omega);clear hcnt;go_wp2
   go_ret2
   exact ⟨_,true,rfl,⟨fun _=>HYES.out,fun _=>rfl⟩,by simp only [if_pos];exact hown,hb⟩
end Go.Proofs.YtfhgcadinjfooaaGreat
