/- Walks of the program's small functions of chapter 2: bounds, blocks that are there, numbers that rise, factors of a place. -/
import Derived.Test.YtfhgcadinjfooaaGreatZPgroupai
set_option linter.unusedVariables false
set_option linter.unusedSimpArgs false
set_option maxHeartbeats 16000000
namespace Go.Proofs.YtfhgcadinjfooaaGreat
open Go.RowKit F256
theorem zel (d s:Int) (w:World) :
 Calls Tryz.prog 99 #[.int .i64 d,.int .i64 s] w (zaR (Shp d s) w):=by
 by_cases h1:1≤d
 ·by_cases h2:d≤3
  ·by_cases h3:0≤s
   ·by_cases h4:s≤2
    ·go_enter Tryz.func99,Tryz.ntmps99
     go_wp2;go_ret;exact zam rfl ⟨by omega,by omega,by omega,by omega⟩ (Below.refl _ _)
    ·have e4:decide (s≤2)=false:=by simp;omega
     have H:Hid (¬ Shp d s):=fun h=>h4 h.2.2.2;clear h4
     go_enter Tryz.func99,Tryz.ntmps99
     go_wp2;go_ret;exact zai rfl H.out (Below.refl _ _)
   ·have e3:decide (0≤s)=false:=by simp;omega
    have H:Hid (¬ Shp d s):=fun h=>h3 h.2.2.1;clear h3
    go_enter Tryz.func99,Tryz.ntmps99
    go_wp2;go_ret;exact zai rfl H.out (Below.refl _ _)
  ·have e2:decide (d≤3)=false:=by simp;omega
   have H:Hid (¬ Shp d s):=fun h=>h2 h.2.1;clear h2
   go_enter Tryz.func99,Tryz.ntmps99
   go_wp2;go_ret;exact zai rfl H.out (Below.refl _ _)
 ·have e1:decide (1≤d)=false:=by simp;omega
  have H:Hid (¬ Shp d s):=fun h=>h1 h.1;clear h1
  go_enter Tryz.func99,Tryz.ntmps99
  go_wp2;go_ret;exact zai rfl H.out (Below.refl _ _)
def zfV (R:Nat) (n:Nat→Nat) (N:Int):Prop:=(R:Int)=N∧∀ i,i<R→n i=0∨n i=4
theorem zes (
 v:Value) (R:Nat) (n:Nat→Nat) (f:Nat→Nat→Nat) (hi:Nat) (N:Int) (w:World) (r:RdM w hi v R n f) :
 Calls Tryz.prog 100 #[.int .i64 N,v] w (zaR (zfV R n N) w):=by
 obtain ⟨ao,cap,e,rfl,hm,hc,he⟩:=r;unfold maxLen at hm
 by_cases hN:(R:Int)=N
 ·subst hN
  go_enter Tryz.func100,Tryz.ntmps100
  go_wp2
  go_loop [5,12] (fun _ i=>∃ k:Nat,k≤R∧i=.int .i64 k∧∀ i,i<k→n i=0∨n i=4) (fun _ i=>R-(intOf i).toNat)
  case atStart=>exact ⟨0,Nat.zero_le _,rfl,fun i hi=>by omega⟩
  case round=>
   obtain ⟨k,hk,rfl,hall⟩:=hrel;have HALL:=hid hall;clear hall
   by_cases hlt:k<R
   ·obtain ⟨b,off,rfl,hblt,hcell⟩:=hc (by omega)
    have hck:w.cell? ⟨b,off+k,none⟩=some (e k):=hcell k hlt;obtain ⟨aok,capk,hsk,hmk,hqk⟩:=he k hlt;unfold maxLen at hmk;rw [hsk] at hck;obtain ⟨nk,hnk⟩:∃ x,x=n k:=⟨_,rfl⟩;have HK:=hid hnk;rw [← hnk] at hck hmk;clear hc hcell he hsk hqk hnk
    by_cases heq:nk=4
    ·subst heq
     go_wp2
     go_round
     case rel=>exact ⟨k+1,by omega,by go_num,fun i hi=>by
      by_cases c:i=k
      ·right;rw [c,← HK.out]
      ·exact HALL.out i (by omega)⟩
     case measure=>simp [intOf];omega
    ·by_cases heq0:nk=0
     ·subst heq0
      clear heq;go_wp2
      go_round
      case rel=>exact ⟨k+1,by omega,by go_num,fun i hi=>by
       by_cases c:i=k
       ·left;rw [c,← HK.out]
       ·exact HALL.out i (by omega)⟩
      case measure=>simp [intOf];omega
     ·have tn:((nk:Int) != 4)=true:=by simp;omega
      have t0:((nk:Int) != 0)=true:=by simp;omega
      have H:Hid (¬ zfV R n (R:Int)):=fun h=>by
       have:=h.2 k hlt;rw [← HK.out] at this;omega
      clear heq heq0;go_wp2;go_ret;exact zai rfl H.out (Below.refl _ _)
   ·have hkn:k=R:=by omega
    subst hkn;go_wp2;go_ret;exact zam rfl ⟨rfl,HALL.out⟩ (Below.refl _ _)
 ·have tN:((R:Int) != N)=true:=by simp [hN]
  have H:Hid (¬ zfV R n N):=fun h=>hN h.1;clear hc he hN
  go_enter Tryz.func100,Tryz.ntmps100
  go_wp2;go_ret;exact zai rfl H.out (Below.refl _ _)
theorem zem (base n p F:Nat) (hF:F=128+base) (hb:base≤64) (hn:n≤16) (hp:p<n+16) (w:World) :
 Calls Tryz.prog 96 #[.int .i64 F,.int .i64 n,.int .i64 p] w fun e w'=>∃ v',e=.returned v'∧Own w' w.heap.size w'.heap.size v' n (genN n p base)∧Below w.heap.size w w':=by
 by_cases hpn:p<n
 ·have hd1:decide ((p:Int)<(n:Int))=true:=by simp;omega
  go_enter Tryz.func96,Tryz.ntmps96
  have HG:Hid (∀ i,i<n→genN n p base i=if i=p then 1 else 0):=fun i hi=>by simp [genN,show ¬ n≤p by omega]
  go_wp2_with (at_make;refine za9 _ rfl _ _ rfl _ _ n rfl rfl rfl rfl (by omega) ?_;intro w1 hown1 hb1 hz1;have hco:w1.cell? ⟨w.heap.size,p,none⟩=some (.int .u8 (0:Nat)):=(by have:=hown1.1.cellAt p (by omega);rw [this,zac _ _ _ hpn]);have hfo:w1.frozen? ⟨w.heap.size,p,none⟩=false:=hown1.1.frozenAt p)
  have R:=hown1.store p 1 hpn (g':=genN n p base) (fun i hi=>HG.out i hi);have RB:Below w.heap.size w (w1.setCell ⟨w.heap.size,p,none⟩ (.int .u8 (1:Nat))):=hb1.setCell (Nat.le_refl _) _;go_ret;exact ⟨_,rfl,R.mono (by simp),RB⟩
 ·have hd1:decide ((p:Int)<(n:Int))=false:=by simp;omega
  have hd2:decide (p<n)=false:=by simp;omega
  obtain ⟨s,hs⟩:∃ s,p=n+s:=⟨p-n,by omega⟩
  have hs16:s<16:=by omega
  obtain ⟨Q,hQ⟩:∃ Q,Q=F+s:=⟨_,rfl⟩
  have hQ2:Q≤128+80:=by omega
  have HG:Hid (∀ i,genN n p base i=powN (Q ^^^ i) 254):=fun i=>by
   simp only [genN,if_pos (show n≤p by omega)]
   rw [show 128+(base+p-n)=Q by omega]
  have hadd:IntKind.i64.wrap ((F:Int)+(p:Int))=(F:Int)+(p:Int):=by rw [IntKind.wrap_i64];omega
  have hsub:(F:Int)+(p:Int)-(n:Int)=(Q:Int):=by omega
  have HPS:=hid hs;clear hpn hs hF hQ
  go_enter Tryz.func96,Tryz.ntmps96
  go_wp2_with (at_make;refine za9 _ rfl _ _ rfl _ _ n rfl rfl rfl rfl (by omega) ?_;intro w1 hown1 hb1 hz1)
  go_loopw [8,19] (fun _ i wr=>∃ k:Nat,k≤n∧i=.int .i64 k∧Own wr w.heap.size w1.heap.size (.slice (some ⟨w.heap.size,0,none⟩) n n) n (fun i=>if i<k then genN n p base i else 0)∧Below w.heap.size w wr∧w1.heap.size≤wr.heap.size) (fun _ i _=>n-(intOf i).toNat)
  case atStart=>exact ⟨0,Nat.zero_le _,rfl,hown1,hb1,Nat.le_refl _⟩
  case round=>
   clear hown1 hb1;obtain ⟨k,hk,rfl,hown,hbel,hz2⟩:=hrel
   by_cases hlt:k<n
   ·obtain ⟨y,hy⟩:∃ y,y=Q ^^^ k:=⟨_,rfl⟩
    have hx:bits .xor .i64 (Q:Int) (k:Int)=(y:Int):=by rw [hy];exact zcR Q k (by omega) (by omega)
    have hl:y<256:=by rw [hy];exact zdy (by omega) (by omega)
    have HV:Hid (powN y 254=genN n p base k):=by show powN y 254=genN n p base k;rw [HG.out,hy]
    have HO:=hid hown;have szr:=hbel.size;have HBL:=hid hbel;clear hy hown hbel
    go_wp2_with fail
    refine (zd6 y hl _).mono ?_;rintro e w2 ⟨rfl,hb2⟩;have hz3:=hb2.size;have hown2:=HO.out.below hb2 (by omega)
    have hco:w2.cell? ⟨w.heap.size,k,none⟩=some (.int .u8 (0:Nat)):=by
     have:=hown2.1.cellAt k (by omega);rw [this,zac _ _ _ hlt,if_neg (Nat.lt_irrefl k)]
    have hfo:w2.frozen? ⟨w.heap.size,k,none⟩=false:=hown2.1.frozenAt k
    have RW:Own (w2.setCell ⟨w.heap.size,k,none⟩ (.int .u8 (powN y 254))) w.heap.size w1.heap.size (.slice (some ⟨w.heap.size,0,none⟩) n n) n (fun i=>if i<k+1 then genN n p base i else 0):=
     hown2.store k _ hlt (fun i _=>by
      by_cases c1:i=k
      ·subst c1;simp [HV.out]
      ·by_cases c2:i<k
       ·have c3:i<k+1:=by omega
        simp [c1,c2,c3]
       ·have c3:¬ i<k+1:=by omega
        simp [c1,c2,c3])
    have RB:Below w.heap.size w (w2.setCell ⟨w.heap.size,k,none⟩ (.int .u8 (powN y 254))):=(HBL.out.trans (hb2.mono szr)).setCell (Nat.le_refl _) _
    have RS:w1.heap.size≤(w2.setCell ⟨w.heap.size,k,none⟩ (.int .u8 (powN y 254))).heap.size:=by simp;omega
    clear hown2 hb2 HO HBL;go_wp2
    go_roundw
    case rel=>exact ⟨k+1,by omega,by go_num,RW,RB,RS⟩
    case measure=>simp [intOf];omega
   ·have hkn:k=n:=by omega
    subst hkn;have h6:=hown.congr (g:=genN k p base) (fun i hi=>by simp [hi]);clear hown;go_wp2;go_ret;exact ⟨_,rfl,h6.weaken (Nat.le_refl _) hz2,hbel⟩
theorem zch (n p:Nat) (hn:n≤16) (hp:p<n+16) (w:World) :
 Calls Tryz.prog 75 #[.int .i64 n,.int .i64 p] w fun e w'=>∃ v',e=.returned v'∧Own w' w.heap.size w'.heap.size v' n (genN n p 0)∧Below w.heap.size w w':=by
 go_enter Tryz.func75,Tryz.ntmps75
 go_wp2_with fail
 refine (zem 0 n p 128 rfl (by omega) hn hp _).mono ?_;rintro e w1 ⟨v1,rfl,ho,hb⟩;obtain ⟨ao,cap,rfl⟩:=ho.slice;go_wp2;go_ret;exact ⟨_,rfl,ho,hb⟩
theorem ziZ (w:World) {ops:Array Oper} {rest:List Oper} {o:Oper} {a:Act} {Q:Exit→Act→World→Prop}
 (hg:o.guard=none) (l c:Operand) (hop:o.op=Op.makeSlice 25 l c) (C:Int) (n:Nat) (hl:a.eval l=.int .i64 0) (hc:a.eval c=.int .i64 C) (hC:C=(n:Int)) (hn:n≤1000000000)
 (hK:∀ w',(∀ f,OwnI w' w.heap.size w'.heap.size (.slice (some ⟨w.heap.size,0,none⟩) 0 n) 0 f)→Below w.heap.size w w'→w.heap.size<w'.heap.size→wpList Tryz.prog ops Q rest (a.put o.dst (.slice (some ⟨w.heap.size,0,none⟩) 0 n)) w') :
 wpList Tryz.prog ops Q (o::rest) a w:=by
 obtain ⟨i0,hi0,hz0,hz1,hz2⟩:=info_parts zeM;refine wpList_make_own w hg l c 25 hop w.heap.size 2 i0 (.int .i64 0) 1 Tryz.underlying25 hi0 hz0 hz1 .i64 .i64 C n hl hc hC (by rw [hz2];omega) (by unfold maxLen;omega) (Nat.le_refl _) ?_;intro w' hown hgrow;have hlt:=(hown.lt _ rfl).2;exact hK w' (fun f=>⟨hown,fun k hk=>(hown.lt k hk).2⟩) (zaO hgrow) hlt
def zbp (D:Nat) (n:Nat→Nat) (k:Nat):Nat:=if cntN n k<D then cntN n k else D
theorem zh4 (D:Nat) (n:Nat→Nat):zbp D n 0=0:=by
 have h0:cntN n 0=0:=rfl;unfold zbp;rw [h0]
 by_cases c:0<D
 ·rw [if_pos c]
 ·rw [if_neg c];omega
theorem zh5 {D:Nat} {n:Nat→Nat} {k:Nat} (h:n k=0):zbp D n (k+1)=zbp D n k:=by
 unfold zbp;rw [cntN,if_pos h]
theorem zh6 {D:Nat} {n:Nat→Nat} {k:Nat} (h:n k≠0) (hl:zbp D n k<D):zbp D n (k+1)=zbp D n k+1∧zbp D n k=cntN n k:=by
 unfold zbp at hl ⊢;rw [cntN,if_neg h]
 by_cases c:cntN n k<D
 ·rw [if_pos c]
  refine ⟨?_,rfl⟩
  split<;>omega
 ·rw [if_neg c] at hl
  omega
theorem zh7 {D:Nat} {n:Nat→Nat} {k:Nat} (hl:¬ zbp D n k<D):zbp D n (k+1)=zbp D n k:=by
 unfold zbp at hl ⊢
 by_cases c:cntN n k<D
 ·rw [if_pos c] at hl
  omega
 ·have:=zcv n (show k≤k+1 by omega)
  rw [if_neg c,if_neg (by omega)]
theorem zi0 {D:Nat} {n:Nat→Nat} {k:Nat} (h:D≤cntN n k):zbp D n k=D:=by
 unfold zbp;rw [if_neg (by omega)]
theorem zi1 {D:Nat} {n:Nat→Nat} {k:Nat} (h:¬ D≤cntN n k):zbp D n k<D:=by
 unfold zbp;rw [if_pos (by omega)];omega
theorem zet (D:Nat) (v:Value) (R:Nat) (n:Nat→Nat) (f:Nat→Nat→Nat) (h1:Nat) (w:World) (r:RdM w h1 v R n f) (hh:h1≤w.heap.size) (hD:D≤1000) :
 Calls Tryz.prog 101 #[.int .i64 D,v] w fun e w'=>∃ v',e=.returned v'∧OwnI w' w.heap.size w'.heap.size v' (zbp D n R) (fun t=>(nthN n R t:Int))∧Below w.heap.size w w':=by
 obtain ⟨ao,cap,e,rfl,hm,hc,he⟩:=r;unfold maxLen at hm;have HHE:=hid he;have HHC:=hid hc;clear hc he
 go_enter Tryz.func101,Tryz.ntmps101
 go_wp2_with (at_make;refine ziZ _ rfl _ _ rfl _ D rfl rfl rfl (by omega) ?_;intro w1 hown1 hb1 hz1)
 have I0:=hown1 (fun t=>(nthN n R t:Int));clear hown1
 go_loopw [5,11] (fun vh i wr=>∃ c k:Nat,k≤R∧i=.int .i64 k∧c=zbp D n k∧OwnI wr w.heap.size wr.heap.size vh c (fun t=>(nthN n R t:Int))∧Below w.heap.size w wr) (fun _ i _=>R-(intOf i).toNat)
 case atStart=>exact ⟨0,0,Nat.zero_le _,rfl,(zh4 D n).symm,I0,hb1⟩
 case round=>
  clear I0 hb1 hz1;obtain ⟨c,k,hk,rfl,hck,hI,hb⟩:=hrel;have HCK:=hid hck;have HI:=hid hI;have HB:=hid hb;obtain ⟨ao8,cap8,hs8⟩:=hI.slice;subst hs8;have szr:=hb.size
  have hcD:c≤D:=by
   rw [hck];unfold zbp
   split<;>omega
  clear hck
  by_cases hlt:k<R
  ·obtain ⟨b,off,hao,hblt,hcell⟩:=HHC.out (by omega)
   subst hao;have c1:wr.cell? ⟨b,off+k,none⟩=some (e k):=(hb.cell (p:=⟨b,off+k,none⟩) (by show b<w.heap.size;omega)).trans (hcell k hlt);obtain ⟨aok,capk,hsk,hmk,hqk⟩:=HHE.out k hlt;unfold maxLen at hmk;obtain ⟨nk,hnk⟩:∃ x,x=n k:=⟨_,rfl⟩;have HNK:=hid hnk;rw [hsk,← hnk] at c1;rw [← hnk] at hmk;clear hnk hsk hqk hcell hI hb
   by_cases e1:nk=0
   ·have HN0:=hid e1
    have t1:decide ((0:Int)<(nk:Int))=false:=by simp;omega
    have t1n:decide (0<nk)=false:=by simp;omega
    clear e1;go_wp2
    go_roundw
    case rel=>exact ⟨c,k+1,by omega,by go_num,by rw [zh5 (by rw [← HNK.out];exact HN0.out)];exact HCK.out,HI.out,HB.out⟩
    case measure=>simp [intOf];omega
   ·have HN0:=hid e1
    have t1:(0:Int)<(nk:Int):=by omega
    have t1n:decide (0<nk)=true:=by simp;omega
    have hbw:b<w.heap.size:=by omega
    clear e1
    by_cases hcd:c<D
    ·have t2:(c:Int)<(D:Int):=by omega
     have HPM:=zh6 (D:=D) (n:=n) (k:=k) (by rw [← HNK.out];exact HN0.out) (by rw [← HCK.out];exact hcd)
     have HNT:Hid (nthN n R c=k):=by
      show nthN n R c=k
      rw [HCK.out,HPM.2];exact zgn hlt (by rw [← HNK.out];exact HN0.out)
     have HP1:Hid (zbp D n (k+1)=c+1):=by show zbp D n (k+1)=c+1;rw [HPM.1,← HCK.out]
     clear HPM
     go_wp2_with (at_builtin;refine zek rfl (.tmp 26) (.tmp 28) rfl w.heap.size wr.heap.size (.slice ao8 c cap8) c (fun t=>(nthN n R t:Int)) ?_ ?_ wr.heap.size 1 ?_ ?_ (by omega) ?_ ?_;(simp [Act.eval]);exact HI.out.alloc _;(simp [Act.eval]);(rw [HNT.out];simp);(simp;omega);intro v2 w2 o2 g2)
     have b2:Below w.heap.size wr w2:=((Below.refl w.heap.size wr).alloc szr _).grown g2 (by simp;omega) (fun q hq=>(HI.out.1.lt q hq).1);have b5:Below w.heap.size w w2:=HB.out.trans b2;clear g2 b2 c1 HI HB;go_wp2
     go_roundw
     case rel=>exact ⟨c+1,k+1,by omega,by go_num,HP1.out.symm,o2,b5⟩
     case measure=>simp [intOf];omega
    ·have t2:decide ((c:Int)<(D:Int))=false:=by simp;omega
     have t2n:decide (c<D)=false:=by simp;omega
     have HP1:Hid (c=zbp D n (k+1)):=by
      show c=zbp D n (k+1)
      rw [zh7 (by rw [← HCK.out];exact hcd)];exact HCK.out
     clear hcd;go_wp2
     go_roundw
     case rel=>exact ⟨c,k+1,by omega,by go_num,HP1.out,HI.out,HB.out⟩
     case measure=>simp [intOf];omega
  ·obtain rfl:k=R:=by omega
   have HI2:Hid (OwnI wr w.heap.size wr.heap.size (.slice ao8 c cap8) (zbp D n k) (fun t=>(nthN n k t:Int))):=by
    show OwnI wr w.heap.size wr.heap.size (.slice ao8 c cap8) (zbp D n k) (fun t=>(nthN n k t:Int))
    rw [← HCK.out];exact hI
   clear hI;go_wp2;go_ret;exact ⟨_,rfl,HI2.out,hb⟩
end Go.Proofs.YtfhgcadinjfooaaGreat
namespace Go.Proofs.YtfhgcadinjfooaaGreat
open F256
theorem Sol.to_swap {R r a:Nat} {M:Mat} {x:Nat→Nat} (hr:r<R) (ha:a<R) (h:Sol R M x):Sol R (zaQ M r a) x:=fun i hi=>by
 unfold zaQ
 split
 ·exact h a ha
 ·split
  ·exact h r hr
  ·exact h i hi
theorem Sol.to_scale {R r c:Nat} {M:Mat} {x:Nat→Nat} (kM:Byt M) (kx:∀ j,x j<256) (h:Sol R M x):Sol R (zaF M r c) x:=fun i hi=>by
 by_cases e:i=r
 ·subst e
  simp only [zaF,if_pos]
  rw [zbM (zaZ _) (kM i) kx,h i hi]
 ·simp only [zaF,if_neg e]
  exact h i hi
theorem Sol.to_clear {R r c:Nat} {M:Mat} {x:Nat→Nat} (kM:Byt M) (kx:∀ j,x j<256) (hr:r<R) (h:Sol R M x):Sol R (zap M r c R) x:=fun i hi=>by
 by_cases e:i<R∧i≠r
 ·simp only [zap,if_pos e]
  rw [zdQ (kM i) (fun j=>za2 (kM i c)),zbM (kM i c) (kM r) kx,h i hi,h r hr]
 ·simp only [zap,if_neg e]
  exact h i hi
theorem Sol.to_step {R c:Nat} {s:Mat×Nat} {x:Nat→Nat} (kM:Byt s.1) (kx:∀ j,x j<256) (hr:s.2≤R) (h:Sol R s.1 x):Sol R (zbq R s c).1 x:=by
 have hl:=zcX s.1 c R s.2 hr;unfold zbq
 by_cases e:lead s.1 c R s.2=R
 ·rw [if_pos e];exact h
 ·rw [if_neg e]
  have h1:=hl.1;have h2:=hl.2.1
  have hrR:s.2<R:=by omega
  have k1:=zb3 kM s.2 (lead s.1 c R s.2);exact Sol.to_clear (zbL k1 s.2 c) kx hrR (Sol.to_scale k1 kx (Sol.to_swap hrR (by omega) h))
theorem Sol.to_gauss {R:Nat} {M:Mat} {x:Nat→Nat} (kM:Byt M) (kx:∀ j,x j<256) (h:Sol R M x):∀ k,Sol R (zah R M k).1 x
 | 0=>h
 | k+1=>Sol.to_step (zbd kM k) kx (zbA k).1 (Sol.to_gauss kM kx h k)
theorem zgX {R:Nat} {M:Mat} {x:Nat→Nat} (kM:Byt M) (kx:∀ j,x j<256) (hf:(zah R M R).2=R) (h:Sol R M x) (i:Nat) (hi:i<R):(zah R M R).1 i R=x i:=by
 have h1:=Sol.to_gauss kM kx h R i hi;have u:=zcZ kM R (Nat.le_refl _) hf;rw [zcu (i:=i) kx R (fun j hj=>u i j hi hj),if_pos hi] at h1;exact h1.symm
theorem zfW {n base k0:Nat} {hv:Nat→Nat} (hk:k0<n) (hfull:(zah n (aug n (wtM n base hv) (genN n (hv k0) base)) n).2=n) (i:Nat) (hi:i<n) :
 zaN n base hv (hv k0) i=if i=k0 then 1 else 0:=by
 refine zgX (x:=fun i=>if i=k0 then 1 else 0) (zds (zdr n base hv) (zbY n (hv k0) base)) (fun j=>by show (if j=k0 then 1 else 0)<256;split<;>omega) hfull (fun i hi=>?_) i hi
 have h1:aug n (wtM n base hv) (genN n (hv k0) base) i n=genN n (hv k0) base i:=by simp [aug]
 have kA:∀ j,aug n (wtM n base hv) (genN n (hv k0) base) i j<256:=fun j=>zds (zdr n base hv) (zbY n (hv k0) base) i j
 have ku:∀ j,(fun i=>if i=k0 then 1 else 0:Nat→Nat) j<256:=fun j=>by show (if j=k0 then 1 else 0)<256;split<;>omega
 rw [h1,zfD kA ku,zcu (i:=k0) kA n (fun j _=>by
  show (if j=k0 then 1 else 0)=if k0=j then 1 else 0
  by_cases e:j=k0
  ·rw [if_pos e,if_pos e.symm]
  ·rw [if_neg e,if_neg (fun h=>e h.symm)]),if_pos hk]
 simp [aug,hk,wtM]
end Go.Proofs.YtfhgcadinjfooaaGreat
namespace Go.Proofs.YtfhgcadinjfooaaGreat
open Go.RowKit F256
theorem OwnE.congr {w:World} {lo hi:Nat} {v:Value} {R:Nat} {n:Nat→Nat} {M M':Mat} {g cap:Nat} {e:Nat→Value} (h:OwnE w lo hi v R n M g cap e) (hM:∀ i j,i<R→j<n i→M i j=M' i j):OwnE w lo hi v R n M' g cap e:=
 ⟨h.val,h.low,h.high,h.row,fun i hi=>(h.each i hi).congr (fun j hj=>hM i j hi hj),h.apart⟩
def wayW (D:Nat) (hv:Nat→Nat) (k m:Nat):Mat:=fun i j=>if j<k∨(j=k∧i<m) then wtM D 0 hv i j else 0
theorem OwnE.byte {w:World} {lo hi:Nat} {v:Value} {R C:Nat} {M M':Mat} {g cap:Nat} {e:Nat→Value} (h:OwnE w lo hi v R (fun _=>C) M g cap e) (i k x gi ci:Nat) (hi':i<R) (hk:k<C) (he:e i=.slice (some ⟨gi,0,none⟩) C ci)
 (hM:∀ a b,a<R→b<C→M' a b=if a=i∧b=k then x else M a b) (hlh:lo≤hi):OwnE (w.setCell ⟨gi,k,none⟩ (.int .u8 x)) lo hi v R (fun _=>C) M' g cap e:=by
 have ho:=h.each i hi';have ho2:=ho;rw [he] at ho
 have hM2:∀ a b,a<R→b<C→(fun a b=>if a=i then M' a b else M a b) a b=M' a b:=fun a b ha hb=>by
  show (if a=i then M' a b else M a b)=M' a b
  by_cases c:a=i
  ·rw [if_pos c]
  ·rw [if_neg c,hM a b ha hb,if_neg (fun hh=>c hh.1)]
 refine OwnE.congr (M:=fun a b=>if a=i then M' a b else M a b) (OwnE.upd h i hi' ?_ ?_ (fun j _ hj=>by funext b;show (if j=i then M' j b else M j b)=M j b;rw [if_neg hj])) (fun a b ha hb=>hM2 a b ha hb)
 ·have t1:tlo (e i) lo=gi:=by rw [he];rfl
  have t2:thi (e i) lo=gi+1:=by rw [he];rfl
  rw [t1,t2];exact (za3 w gi (gi+1) gi k _ (Nat.le_refl _) (Nat.lt_succ_self _)).chg
 ·rw [he]
  exact ho.store k x hk (fun b hb=>by
   show (if i=i then M' i b else M i b)=_
   rw [if_pos rfl,hM i b hi' hb]
   by_cases c:b=k
   ·rw [if_pos ⟨rfl,c⟩,if_pos c]
   ·rw [if_neg (fun hh=>c hh.2),if_neg c])
theorem zjY (x:Int) (v:Value) (w:World):(Instr.field 112 (.agg #[.int .i64 x,v]) 1).run Tryz.prog w=.ok v w:=by kernel_rfl
theorem zfg (D want:Nat) (vh:Value) (hv:Nat→Nat) (h1:Nat) (w:World) (rh:RdI w h1 vh D (fun i=>(hv i:Int))) (hh:h1≤w.heap.size) (hD1:1≤D) (hD:D≤3) (hb:∀ k,k<D→hv k<D+2) (hr:∀ k,k+1<D→hv k<hv (k+1)) (hw:want<D+2) :
 Calls Tryz.prog 134 #[.int .i64 D,vh,.int .i64 want] w fun e w'=>∃ v',e=.returned v'∧Own w' w.heap.size w'.heap.size v' D (zaN D 0 hv want)∧Below w.heap.size w w':=by
 obtain ⟨aoh,caph,rfl,hmm,hch⟩:=rh;obtain ⟨bh,oh,rfl,hbh,hcell⟩:=hch (by omega);have HC:=hid hcell;have HBD:=hid hb;have HFULL:=hid (zeR D hD1 hD hv (genN D want 0) hb hr)
 have hbw:bh<w.heap.size:=by omega
 clear hch hcell hb hr hmm
 go_enter Tryz.func134,Tryz.ntmps134
 go_wp2_with (at_make;refine zdP _ rfl _ _ rfl _ _ D rfl rfl rfl rfl (by omega) ?_;intro w1 hown1 hb1 hz1)
 go_loopw [15] (fun i wr=>∃ k:Nat,k≤D∧i=.int .i64 k∧∃ e',Cpy w wr D k (fun _=>D) (wayW D hv 0 0) e'∧∀ i,i<k→∃ gi ci,e' i=.slice (some ⟨gi,0,none⟩) D ci) (fun i _=>D-(intOf i).toNat)
 case atStart=>exact ⟨0,Nat.zero_le _,rfl,fun _=>nilS,⟨by rw [zbj (g:=fun _=>nilS) (fun i hi=>by simp)];exact hown1,fun i hi=>by omega,⟨fun i hi=>by omega,fun i j hi=>by omega⟩,hb1,hz1⟩,fun i hi=>by omega⟩
 case round=>
  clear hown1 hb1 hz1;obtain ⟨k,hk,rfl,e',hcp,hsl⟩:=hrel
  by_cases hlt:k<D
  ·have HSL:=hid hsl
   have HCP:=hid hcp;have hl:=hcp.lt;clear hsl hcp
   go_wp2_with (at_make;refine za9 _ rfl _ _ rfl _ _ D rfl rfl rfl rfl (by omega) ?_;intro w2 ho2 hb2 hz2;have q1:w2.cell? ⟨w.heap.size,k,none⟩=some nilS:=(by rw [hb2.cell (p:=⟨w.heap.size,k,none⟩) hl,HCP.out.row.cellAt k (by omega),zaC _ _ _ hlt,if_neg (Nat.lt_irrefl k)]);have q2:w2.frozen? ⟨w.heap.size,k,none⟩=false:=(hb2.frozen (p:=⟨w.heap.size,k,none⟩) hl).trans (HCP.out.row.frozenAt k))
   have N:=HCP.out.next hlt hb2 (ho2.congr (g:=wayW D hv 0 0 k) (fun i hi=>by simp [wayW]))
   have NS:∀ i,i<k+1→∃ gi ci,(fun i=>if i=k then Value.slice (some ⟨wr.heap.size,0,none⟩) D D else e' i) i=.slice (some ⟨gi,0,none⟩) D ci:=fun i hi=>by
    show ∃ gi ci,(if i=k then Value.slice (some ⟨wr.heap.size,0,none⟩) D D else e' i)=.slice (some ⟨gi,0,none⟩) D ci
    by_cases c:i=k
    ·exact ⟨_,_,by rw [if_pos c]⟩
    ·rw [if_neg c]
     exact HSL.out i (by omega)
   clear HCP HSL hb2 ho2 q1 q2
   go_roundw
   case rel=>exact ⟨k+1,by omega,by go_num,_,N,NS⟩
   case measure=>simp [intOf];omega
  ·obtain rfl:k=D:=by omega
   have E0:OwnE wr w.heap.size wr.heap.size (.slice (some ⟨w.heap.size,0,none⟩) k k) k (fun _=>k) (wayW k hv 0 0) w.heap.size k e':=by
    have hrr:=hcp.row;rw [zbj (g:=e') (fun i hi=>by simp [hi])] at hrr;exact ⟨rfl,Nat.le_refl _,hcp.lt,hrr,fun i hi=>(hcp.each i hi).weaken (by omega) (Nat.le_refl _),hcp.apart⟩
   have HSL:=hid hsl;have B0:Below w.heap.size w wr:=hcp.bel;obtain ⟨wA,hwA⟩:∃ wA,wA=wr:=⟨_,rfl⟩;rw [← hwA] at E0 B0 ⊢;have hzA:w.heap.size<wA.heap.size:=E0.high;clear hcp hsl hwA;go_wp2
   go_loopw [25] (fun i wr=>∃ c:Nat,c≤k∧i=.int .i64 c∧OwnE wr w.heap.size wA.heap.size (.slice (some ⟨w.heap.size,0,none⟩) k k) k (fun _=>k) (wayW k hv c 0) w.heap.size k e'∧Below w.heap.size w wr∧wA.heap.size≤wr.heap.size) (fun i _=>k-(intOf i).toNat)
   case atStart=>exact ⟨0,Nat.zero_le _,rfl,E0,B0,Nat.le_refl _⟩
   case round=>
    clear E0 B0;obtain ⟨c,hc,rfl,hE,hbel,hsz⟩:=hrel
    by_cases hck:c<k
    ·have ck:wr.cell? ⟨bh,oh+c,none⟩=some (.int .i64 (hv c:Int)):=(hbel.cell (p:=⟨bh,oh+c,none⟩) hbw).trans (HC.out c hck)
     have C:=zch k (hv c) (by omega) (by have:=HBD.out c hck;omega) wr;obtain ⟨p,hp⟩:∃ p,p=hv c:=⟨_,rfl⟩;have HP:=hid hp;rw [← hp] at ck C;have HE:=hid hE;have HBL:=hid hbel;obtain ⟨wk,hwk⟩:∃ wk,wk=wr:=⟨_,rfl⟩;rw [← hwk] at ck C HE HBL hsz ⊢;clear hp hE hbel hwk
     go_wp2_with fail
     refine C.mono ?_;rintro ee w6 ⟨v6,rfl,o6,b6⟩;obtain ⟨gv,capv,hgv,h61,h62,h63,h64⟩:=o6.form (by omega);subst hgv;have E6:=HE.out.below b6 hsz;have s6:=b6.size;have B6:Below w.heap.size w w6:=HBL.out.trans (b6.mono HBL.out.size);clear C ck b6 HE HBL;go_wp2
     go_loopw [35] (fun i wr=>∃ m:Nat,m≤k∧i=.int .i64 m∧OwnE wr w.heap.size wA.heap.size (.slice (some ⟨w.heap.size,0,none⟩) k k) k (fun _=>k) (wayW k hv c m) w.heap.size k e'∧Own wr wk.heap.size w6.heap.size (.slice (some ⟨gv,0,none⟩) k capv) k (genN k p 0)∧Below w.heap.size w wr∧w6.heap.size≤wr.heap.size) (fun i _=>k-(intOf i).toNat)
     case atStart=>exact ⟨0,Nat.zero_le _,rfl,E6,o6,B6,Nat.le_refl _⟩
     case round=>
      clear E6 o6 B6;obtain ⟨m,hm,rfl,hE,ho,hbel,hsz6⟩:=hrel
      by_cases hmk:m<k
      ·obtain ⟨gi,ci,hei⟩:=HSL.out m hmk
       have om:=hE.each m hmk
       have c1:wr.cell? ⟨w.heap.size,m,none⟩=some (.slice (some ⟨gi,0,none⟩) k ci):=by rw [← hei];exact hE.cell m hmk
       have c2:wr.cell? ⟨gv,m,none⟩=some (.int .u8 (genN k p 0 m)):=(ho.1.cellAt m (by omega)).trans (zac _ _ _ hmk);rw [hei] at om;have hgi:=om.1.lt gi rfl;have hgi2:=om.2 gi rfl;have c3:wr.cell? ⟨gi,c,none⟩=some (.int .u8 (wayW k hv c m m c)):=(om.1.cellAt c (by omega)).trans (zac _ _ _ hck);have c4:wr.frozen? ⟨gi,c,none⟩=false:=om.1.frozenAt c;obtain ⟨y,hy⟩:∃ y,y=genN k p 0 m:=⟨_,rfl⟩;obtain ⟨y3,hy3⟩:∃ y,y=wayW k hv c m m c:=⟨_,rfl⟩;rw [← hy] at c2;rw [← hy3] at c3
       have EN:OwnE (wr.setCell ⟨gi,c,none⟩ (.int .u8 y)) w.heap.size wA.heap.size (.slice (some ⟨w.heap.size,0,none⟩) k k) k (fun _=>k) (wayW k hv c (m+1)) w.heap.size k e':=hE.byte m c y gi ci hmk hck hei (fun a b ha hb=>by
        unfold wayW
        by_cases cc:a=m∧b=c
        ·obtain ⟨rfl,rfl⟩:=cc
         rw [if_pos (show b<b∨(b=b∧a<a+1) from .inr ⟨rfl,by omega⟩),if_pos (show a=a∧b=b from ⟨rfl,rfl⟩),hy,HP.out];rfl
        ·rw [if_neg cc]
         by_cases c5:b<c∨(b=c∧a<m)
         ·rw [if_pos c5,if_pos (by omega)]
         ·rw [if_neg c5,if_neg (by omega)]) (Nat.le_of_lt hzA)
       have ON:Own (wr.setCell ⟨gi,c,none⟩ (.int .u8 y)) wk.heap.size w6.heap.size (.slice (some ⟨gv,0,none⟩) k capv) k (genN k p 0):=ho.out (za3 wr w.heap.size wA.heap.size gi c _ hgi.1 hgi2) (.inr hsz);have BN:Below w.heap.size w (wr.setCell ⟨gi,c,none⟩ (.int .u8 y)):=hbel.setCell hgi.1 _
       have SN:w6.heap.size≤(wr.setCell ⟨gi,c,none⟩ (.int .u8 y)).heap.size:=by simpa using hsz6
       clear hE ho hbel om hei hy hy3;go_wp2
       go_region
       all_goals
        go_wp2
        go_roundw
        case rel=>exact ⟨m+1,by omega,by go_num,by first | exact EN | exact EN.drewN 1,ON,by first | exact BN | exact below_drewN BN 1,SN⟩
        case measure=>simp [intOf];omega
      ·obtain rfl:m=k:=by omega
       have E9:=hE.congr (M':=wayW m hv (c+1) 0) (fun a b ha hb=>by
        unfold wayW
        by_cases c5:b<c∨(b=c∧a<m)
        ·rw [if_pos c5,if_pos (by omega)]
        ·rw [if_neg c5,if_neg (by omega)])
       clear hE ho;go_wp2
       go_roundw
       case rel=>exact ⟨c+1,by omega,by go_num,E9,hbel,by omega⟩
       case measure=>simp [intOf];omega
    ·obtain rfl:c=k:=by omega
     have C:=zch c want (by omega) (by omega) wr;have EF:=hE.congr (M':=wtM c 0 hv) (fun a b ha hb=>by unfold wayW;rw [if_pos (.inl hb)]);have HE:=hid EF;have HBL:=hid hbel;clear hE hbel EF
     go_wp2_with fail
     refine C.mono ?_;rintro ee w6 ⟨v6,rfl,o6,b6⟩;have B6:Below w.heap.size w w6:=HBL.out.trans (b6.mono HBL.out.size);have E6:=HE.out.below b6 hsz;have CS:=zfe _ _ c c (fun _=>c) (wtM c 0 hv) (genN c want 0) w.heap.size wA.heap.size wr.heap.size w6.heap.size w6 ⟨_,_,_,E6⟩ o6 (Nat.le_trans hsz b6.size) (Nat.le_refl _) (zdr c 0 hv) (zbY c want 0);obtain ⟨ao6,cap6,rfl⟩:=o6.slice;have s6:=B6.size;clear C o6 b6 E6 HE HBL
     go_wp2_with fail
     refine CS.mono ?_;rintro ee w7 ⟨x7,v7,rfl,ha7,o7,b7⟩
     have hx7:x7=0:=by
      rcases ha7 with ⟨_,h⟩ | ⟨_,_,h⟩ | ⟨_,_,_,_,⟨_,h⟩ | ⟨h,_⟩⟩
      ·omega
      ·rcases h with h | h | ⟨i,_,h⟩
       ·omega
       ·exact absurd rfl h
       ·exact absurd rfl h
      ·have:=HFULL.out;omega
      ·exact h
     subst hx7
     simp only [if_pos] at o7
     obtain ⟨ao7,cap7,rfl⟩:=o7.slice;have HO7:=hid o7;have B7:Below w.heap.size w w7:=B6.trans (b7.mono s6);unfold zaS;have hfd:=zjY 0 (.slice ao7 c cap7);clear ha7 o7 b7 CS B6;go_wp2;go_ret;exact ⟨_,rfl,HO7.out.weaken s6 (Nat.le_refl _),B7⟩
theorem zfX {f:Mat} {c:Nat→Nat} {t0 j:Nat} (kf:Byt f):∀ k,(∀ i,i<k→c i=if i=t0 then 1 else 0)→mixN f c k j=if t0<k then f t0 j else 0
 | 0,_=>rfl
 | k+1,h=>by
  rw [mixN,zfX kf k (fun i hi=>h i (by omega)),h k (by omega)]
  by_cases e:k=t0
  ·subst e
   rw [if_pos rfl,if_neg (Nat.lt_irrefl k),if_pos (Nat.lt_succ_self k),zbt (kf k j),Nat.zero_xor]
  ·rw [if_neg e,zbg (kf k j),Nat.xor_zero]
   by_cases c2:t0<k
   ·rw [if_pos c2,if_pos (by omega)]
   ·rw [if_neg c2,if_neg (by omega)]
theorem zjH {D R:Nat} {n:Nat→Nat} (hc:D≤cntN n R) (h4:∀ i,i<R→n i=0∨n i=4):(∀ t,t<D→nthN n R t<R∧n (nthN n R t)=4)∧∀ t,t+1<D→nthN n R t<nthN n R (t+1):=by
 refine ⟨fun t ht=>?_,fun t ht=>zd4 (by omega)⟩;have q:=zcw (n:=n) (R:=R) (k:=t) (by omega);refine ⟨q.1,?_⟩
 rcases h4 _ q.1 with e0 | e0
 ·exact absurd e0 q.2.1
 ·exact e0
theorem zi2 {D R:Nat} {n:Nat→Nat} {f:Mat} {t0:Nat} (hD1:1≤D) (hD:D≤3) (hR:R≤D+2) (hc:D≤cntN n R) (h4:∀ i,i<R→n i=0∨n i=4) (kf:Byt f) (ht:t0<D) (j:Nat):zcQ D n R f (nthN n R t0) j=f (nthN n R t0) j:=by
 obtain ⟨p1,p2⟩:=zjH hc h4;unfold zcQ;rw [zfX (t0:=t0) (fun i j=>kf _ _) D (fun i hi=>zfW ht (zeR D hD1 hD (nthN n R) _ (fun t ht=>by have:=(p1 t ht).1;omega) p2) i hi),if_pos ht]
theorem zfh (D want:Nat) (v vh:Value) (R:Nat) (n:Nat→Nat) (f:Mat) (h1 h2:Nat) (w:World) (r:RdM w h1 v R n f) (rh:RdI w h2 vh D (fun t=>(nthN n R t:Int))) (hh:h1≤w.heap.size) (hh2:h2≤w.heap.size) (hD1:1≤D) (hD:D≤3) (hR:R≤D+2) (hw:want<D+2) (hcnt:D≤cntN n R) (h4:∀ i,i<R→n i=0∨n i=4) (kf:Byt f) :
 Calls Tryz.prog 120 #[.int .i64 D,v,vh,.int .i64 want] w fun e w'=>∃ v',e=.returned v'∧Own w' w.heap.size w'.heap.size v' 4 (zcQ D n R f want)∧Below w.heap.size w w':=by
 have CC:=zdC vh D (fun t=>(nthN n R t:Int)) h2 (want:Int) w rh;have HRH:=hid rh;obtain ⟨aoh,caph,rfl,hmh,hch⟩:=rh;have HCH:=hid hch;obtain ⟨p1,p2⟩:=zjH hcnt h4;have HP1:=hid p1;have HP2:=hid p2;have HIS:Hid (∀ t0,t0<D→∀ j,zcQ D n R f (nthN n R t0) j=f (nthN n R t0) j):=fun t0 ht j=>zi2 hD1 hD hR hcnt h4 kf ht j;obtain ⟨ao,cap,e,rfl,hm,hc,he⟩:=r;obtain ⟨b,off,rfl,hblt,hcell⟩:=hc (by have:=(p1 0 (by omega)).1;omega);have HHE:=hid he;have HHC:=hid hcell
 have hbw:b<w.heap.size:=by omega
 unfold maxLen at hm;clear hc he hcell p1 p2 hch hmh hcnt h4
 by_cases hin:∃ t,t<D∧(nthN n R t:Int)=(want:Int)
 ·have HIN:=hid hin
  obtain ⟨t0,ht0,het⟩:=hin
  have hwt:nthN n R t0=want:=by omega
  have q1:=HP1.out t0 ht0;rw [hwt] at q1;have q2:=HIS.out t0 ht0;rw [hwt] at q2;have HQ2:=hid q2;have hwR:want<R:=q1.1;have c1:w.cell? ⟨b,off+want,none⟩=some (e want):=HHC.out want hwR;have r1:=HHE.out want hwR;rw [q1.2] at r1;obtain ⟨x,hx⟩:∃ x,x=e want:=⟨_,rfl⟩;rw [← hx] at c1 r1;have HRX:=hid r1;obtain ⟨aox,capx,hxs,_,_⟩:=r1;subst hxs;clear hx q1 q2 hwt het
  go_enter Tryz.func120,Tryz.ntmps120
  go_wp2_with fail
  refine CC.mono ?_;rintro e0 w1 ⟨b1,rfl,hb1,B1⟩;obtain rfl:b1=true:=hb1.mpr HIN.out;have c2:w1.cell? ⟨b,off+want,none⟩=some (.slice aox 4 capx):=(B1.cell (p:=⟨b,off+want,none⟩) hbw).trans c1;have CJ:=zeA (.slice aox 4 capx) (.slice none 0 0) 4 (f want) (fun _=>0) h1 h1 w1 (HRX.out.below B1 hh) ⟨_,_,rfl,Nat.zero_le _,fun h=>absurd rfl h⟩ (Nat.le_trans hh B1.size) (by omega);have HB1:=hid B1;clear hb1 CC B1 c1
  go_wp2_with fail
  refine CJ.mono ?_;rintro e0 w2 ⟨v2,rfl,o2,b2⟩;have HO2:=hid o2;obtain ⟨ao2,cap2,rfl⟩:=o2.slice;have B2:Below w.heap.size w w2:=HB1.out.trans (b2.mono HB1.out.size);clear CJ o2 b2;go_wp2;go_ret;exact ⟨_,rfl,(HO2.out.congr (fun j _=>(HQ2.out j).symm)).weaken HB1.out.size (Nat.le_refl _),B2⟩
 ·have HIN:=hid hin
  clear hin HIS;obtain ⟨bh,oh,hao,hbh,hch⟩:=HCH.out (by omega);subst hao;have HCI:=hid hch
  have hbhw:bh<w.heap.size:=by omega
  have CWf:=fun (w1:World) (b1:Below w.heap.size w w1)=>zfg D want _ (nthN n R) h2 w1 (HRH.out.below b1 hh2) (Nat.le_trans hh2 b1.size) hD1 hD (fun t ht=>by have:=(HP1.out t ht).1;omega) HP2.out hw;have HCW:=hid CWf;clear hch HCH CWf
  go_enter Tryz.func120,Tryz.ntmps120
  go_wp2_with fail
  refine CC.mono ?_;rintro e0 w1 ⟨b1,rfl,hb1,B1⟩
  obtain rfl:b1=false:=by
   cases b1 with
   | false=>rfl
   | true=>exact absurd (hb1.mp rfl) HIN.out
  have CW:=HCW.out w1 B1;have HB1:=hid B1;clear hb1 CC B1 HCW
  go_wp2_with fail
  refine CW.mono ?_;rintro e0 w5 ⟨v5,rfl,o5,b5⟩;obtain ⟨gv,capv,hgv,h51,h52,h53,h54⟩:=o5.form (by omega);subst hgv;have B5:Below w.heap.size w w5:=HB1.out.trans (b5.mono HB1.out.size);have O5:Own w5 w.heap.size w5.heap.size (.slice (some ⟨gv,0,none⟩) D capv) D (zaN D 0 (nthN n R) want):=o5.weaken HB1.out.size (Nat.le_refl _);clear CW o5 b5 HB1
  go_wp2_with (at_make;refine za9 _ rfl _ _ rfl _ _ 4 rfl rfl rfl rfl (by omega) ?_;intro w6 o6 b6 hz6)
  have B6:Below w.heap.size w w6:=B5.trans (b6.mono B5.size);have O56:=O5.below b6 (Nat.le_refl _);have s5:=B5.size;clear O5 b6 B5
  go_loopw [26] (fun i wr=>∃ k:Nat,k≤D∧i=.int .i64 k∧Own wr w5.heap.size w6.heap.size (.slice (some ⟨w5.heap.size,0,none⟩) 4 4) 4 (mixN (fun t=>f (nthN n R t)) (zaN D 0 (nthN n R) want) k)∧Own wr w.heap.size w5.heap.size (.slice (some ⟨gv,0,none⟩) D capv) D (zaN D 0 (nthN n R) want)∧Below w.heap.size w wr∧w6.heap.size≤wr.heap.size) (fun i _=>D-(intOf i).toNat)
  case atStart=>exact ⟨0,Nat.zero_le _,rfl,o6,O56,B6,Nat.le_refl _⟩
  case round=>
   clear o6 O56 B6;obtain ⟨k,hk,rfl,hO,hW,hbel,hsz⟩:=hrel
   by_cases hlt:k<D
   ·have c1:wr.cell? ⟨bh,oh+k,none⟩=some (.int .i64 (nthN n R k:Int)):=(hbel.cell (p:=⟨bh,oh+k,none⟩) hbhw).trans (HCI.out k hlt)
    have q:=HP1.out k hlt;have c2:wr.cell? ⟨b,off+nthN n R k,none⟩=some (e (nthN n R k)):=(hbel.cell (p:=⟨b,off+nthN n R k,none⟩) hbw).trans (HHC.out _ q.1);have c3:wr.cell? ⟨gv,k,none⟩=some (.int .u8 (zaN D 0 (nthN n R) want k)):=(hW.1.cellAt k (by omega)).trans (zac _ _ _ hlt);have rk:=(HHE.out _ q.1).below hbel hh;rw [q.2] at rk;obtain ⟨P,hP⟩:∃ P,P=nthN n R k:=⟨_,rfl⟩;have HPP:=hid hP;rw [← hP] at c1 c2 q rk;have hPR:P<R:=q.1;obtain ⟨x,hx⟩:∃ x,x=e P:=⟨_,rfl⟩;rw [← hx] at c2 rk;obtain ⟨y,hy⟩:∃ y,y=zaN D 0 (nthN n R) want k:=⟨_,rfl⟩;rw [← hy] at c3
    have CA:∀ q,Calls Tryz.prog 76 #[.slice (some ⟨w5.heap.size,0,none⟩) 4 4,x,.int .u8 y] (wr.drewN q) fun e w'=>e=.returned (.tuple #[])∧Own w' w5.heap.size w6.heap.size (.slice (some ⟨w5.heap.size,0,none⟩) 4 4) 4 (mixN (fun t=>f (nthN n R t)) (zaN D 0 (nthN n R) want) (k+1))∧Chg w5.heap.size w6.heap.size (wr.drewN q) w':=fun q=>
     zda _ _ 4 (mixN (fun t=>f (nthN n R t)) (zaN D 0 (nthN n R) want) k) (f P) (mixN (fun t=>f (nthN n R t)) (zaN D 0 (nthN n R) want) (k+1)) y w5.heap.size w6.heap.size h1 (wr.drewN q) hO hsz rk (Nat.le_trans hh s5) (Nat.le_trans hh hbel.size) (fun i=>zdp _ _ (zbR D 0 (nthN n R) want) k i) (fun i=>kf P i) (by rw [hy];exact zbR D 0 (nthN n R) want k) (fun i _=>by rw [mixN,hy,HPP.out]) (by omega)
    have CA1:=CA 1;obtain ⟨aox,capx,hxs,_,_⟩:=rk;rw [hxs] at c2 CA1;have HO:=hid hW;have HBL:=hid hbel
    have hPRi:(P:Int)<(R:Int):=by omega
    clear hO hW hbel hP hx hxs hy CA q;go_wp2
    go_region_with (go_at_call 76;refine CA1.mono ?_;rintro e w7 ⟨rfl,o7,ch7⟩)
    all_goals
     have O7:Own w7 w.heap.size w5.heap.size (.slice (some ⟨gv,0,none⟩) D capv) D (zaN D 0 (nthN n R) want):=(show Own (wr.drewN 1) w.heap.size w5.heap.size (.slice (some ⟨gv,0,none⟩) D capv) D (zaN D 0 (nthN n R) want) from HO.out).chg ch7 (.inl (Nat.le_refl _));have B7:Below w.heap.size w w7:=(below_drewN HBL.out 1).trans (ch7.below s5 HBL.out.size);have S7:w6.heap.size≤w7.heap.size:=Nat.le_trans hsz ch7.size;clear ch7 HO HBL CA1 c1 c2 c3;go_wp2
     go_roundw
     case rel=>exact ⟨k+1,by omega,by go_num,o7,O7,B7,S7⟩
     case measure=>simp [intOf];omega
   ·obtain rfl:k=D:=by omega
    have HO9:=hid hO;clear hO hW;go_wp2;go_ret;exact ⟨_,rfl,HO9.out.weaken s5 hsz,hbel⟩
theorem zfi (D:Nat) (v vh:Value) (R:Nat) (n:Nat→Nat) (f:Mat) (h1 h2:Nat) (w:World) (r:RdM w h1 v R n f) (rh:RdI w h2 vh D (fun t=>(nthN n R t:Int))) (hh:h1≤w.heap.size) (hh2:h2≤w.heap.size) (hD1:1≤D) (hD:D≤3) (hR:R≤D+2) (hcnt:D≤cntN n R) (h4:∀ i,i<R→n i=0∨n i=4) (kf:Byt f) :
 Calls Tryz.prog 102 #[.int .i64 D,v,vh] w fun e w'=>∃ v',e=.returned v'∧Own w' w.heap.size w'.heap.size v' (4*D) (decN D n R f)∧Below w.heap.size w w':=by
 have CBf:=fun (w1:World) (k:Nat) (hk:k<D) (b1:Below w.heap.size w w1)=>zfh D k v vh R n f h1 h2 w1 (r.below b1 hh) (rh.below b1 hh2) (Nat.le_trans hh b1.size) (Nat.le_trans hh2 b1.size) hD1 hD hR (by omega) hcnt h4 kf;obtain ⟨aoh,caph,rfl,hmh,hch⟩:=rh;obtain ⟨ao,cap,e,rfl,hm,hc,he⟩:=r;have HCB:=hid CBf;clear CBf hc he hch hm hmh hcnt h4
 have hs4:(D:Int)*4=((4*D:Nat):Int):=by omega
 obtain ⟨Q,hQ⟩:∃ Q,Q=4*D:=⟨_,rfl⟩;rw [← hQ] at hs4
 have hQ12:Q≤12:=by omega
 clear hQ
 go_enter Tryz.func102,Tryz.ntmps102
 go_wp2_with (at_make;refine zii _ rfl _ _ rfl _ Q rfl rfl (by first | omega | simp [hs4]) (by omega) ?_;intro w1 hown1 hb1 hz1)
 have I0:=hown1 (decN D n R f);clear hown1
 go_loopw [7,13] (fun u i wr=>∃ k:Nat,k≤D∧i=.int .i64 k∧Own wr w.heap.size wr.heap.size u (4*k) (decN D n R f)∧Below w.heap.size w wr) (fun _ i _=>D-(intOf i).toNat)
 case atStart=>exact ⟨0,Nat.zero_le _,rfl,I0,hb1⟩
 case round=>
  clear I0 hb1 hz1;obtain ⟨k,hk,rfl,hown,hb⟩:=hrel;have HO:=hid hown;have HB:=hid hb;have szr:=hb.size
  by_cases hlt:k<D
  ·have C:=HCB.out wr k hlt hb
   clear hown hb
   go_wp2_with fail
   refine C.mono ?_;rintro ee w2 ⟨v2,rfl,o2,b2'⟩;have B2:Below w.heap.size w w2:=HB.out.trans (b2'.mono szr);have s2:=b2'.size;have HO2:=hid (HO.out.below b2' (Nat.le_refl _));obtain ⟨ao2,cap2,rfl⟩:=o2.slice;have HO3:=hid o2
   have hm4:4*k+4≤1000000:=by omega
   have sw2:w.heap.size≤w2.heap.size:=by omega
   clear C b2' o2
   go_wp2_with (at_builtin;refine zdu rfl (.tmp 16) (.tmp 21) rfl w.heap.size wr.heap.size u7 (4*k) (decN D n R f) ?_ HO2.out w2.heap.size (.slice ao2 4 cap2) 4 (zcQ D n R f k) ?_ HO3.out.rd (by omega) (fun i hi=>ziY D n R f k i hi) hm4 sw2 ?_;(simp [Act.eval]);(simp [Act.eval]);intro v5 w5 o5 g5)
   have R5:Below w.heap.size w w5:=B2.grown g5 sw2 (fun q hq=>(HO2.out.1.lt q hq).1)
   have e4:4*k+4=4*(k+1):=by omega
   rw [e4] at o5;clear g5 HO2 HO3 HO HB;go_wp2
   go_roundw
   case rel=>exact ⟨k+1,by omega,by go_num,o5,R5⟩
   case measure=>simp [intOf];omega
  ·obtain rfl:k=D:=by omega
   go_wp2;go_ret;exact ⟨_,rfl,hown,hb⟩
theorem zi3 {R:Nat} {n:Nat→Nat} {N:Int} (h:¬ zfV R n N):(R:Int)≠N∨∃ i,i<R∧n i≠0∧n i≠4:=by
 by_cases c:(R:Int)=N
 ·right
  refine Classical.byContradiction fun hh=>h ⟨c,fun i hi=>?_⟩
  by_cases c0:n i=0
  ·exact .inl c0
  ·by_cases c4:n i=4
   ·exact .inr c4
   ·exact absurd ⟨i,hi,c0,c4⟩ hh
 ·exact .inl c
theorem zfj (d s:Int) (v:Value) (R:Nat) (n:Nat→Nat) (f:Mat) (h1:Nat) (w:World) (r:RdM w h1 v R n f) (hh:h1≤w.heap.size) (kf:Byt f) :
 Calls Tryz.prog 78 #[.int .i64 d,.int .i64 s,v] w fun ee w'=>∃ x v',ee=.returned (zaS x v')∧DecAns d s R n x∧Own w' w.heap.size w'.heap.size v' (if x=0 then 4*d.toNat else 0) (decN d.toNat n R f)∧Below w.heap.size w w':=by
 have HR:=hid r;obtain ⟨ao,cap,e,rfl,hm,hc,he⟩:=r;clear hm hc he
 go_enter Tryz.func78,Tryz.ntmps78
 go_wp2_with fail
 refine (zel d s _).mono ?_;rintro e0 w1 ⟨b1,rfl,hb1,b1'⟩;have HS:=hid hb1;have B1:Below w.heap.size w w1:=bnew b1';have X1:Box w1 w.heap.size #[.int .i64 0,.slice none 0 0] 112:=(zaD w _ _).below b1' (by simp);have z1:w.heap.size<w1.heap.size:=X1.lt;obtain ⟨x0,x1,y0,y1⟩:=za6 X1;clear hb1 b1'
 cases b1 with
 | false=>
  have HNO:Hid (¬ Shp d s):=fun h=>by have:=HS.out.mpr h;cases this
  clear HS;go_wp2;exact bodyPost_ret (v:=zaS 3 (.slice none 0 0)) (by simp [results,Tryz.results78,go_sem,zaS,x0,x1]) rfl ⟨3,_,rfl,.inl ⟨.inl ⟨rfl,HNO.out⟩,by omega⟩,zbh _ _ _ _,(B1.setCell (Nat.le_refl _) _).setCell (Nat.le_refl _) _⟩
 | true=>
  have hsh:=HS.out.mp rfl;have HSH:=hid hsh;obtain ⟨q1,q2,q3,q4⟩:=hsh;obtain ⟨D,rfl⟩:∃ D:Nat,d=D:=⟨d.toNat,by omega⟩;obtain ⟨S,rfl⟩:∃ S:Nat,s=S:=⟨s.toNat,by omega⟩;have CT:=zes (.slice ao R cap) R n f h1 ((D:Int)+(S:Int)) w1 (HR.out.below B1 hh);clear HS
  go_wp2_with fail
  refine CT.mono ?_;rintro e0 w2 ⟨b2,rfl,hb2,b2'⟩;have HT:=hid hb2;have B2:Below w.heap.size w w2:=B1.trans (b2'.mono B1.size);have X2:Box w2 w.heap.size #[.int .i64 0,.slice none 0 0] 112:=X1.below b2' z1;have z2:w.heap.size<w2.heap.size:=X2.lt;clear x0 x1 y0 y1;obtain ⟨x0,x1,y0,y1⟩:=za6 X2;clear hb2 b2' X1 B1 z1 CT
  cases b2 with
  | false=>
   have HNO:Hid ((R:Int)≠(D:Int)+(S:Int)∨∃ i,i<R∧n i≠0∧n i≠4):=zi3 fun h=>by have:=HT.out.mpr h;cases this
   clear HT;go_wp2;exact bodyPost_ret (v:=zaS 1 (.slice none 0 0)) (by simp [results,Tryz.results78,go_sem,zaS,x0,x1]) rfl ⟨1,_,rfl,.inl ⟨.inr (.inl ⟨rfl,HSH.out,HNO.out⟩),by omega⟩,zbh _ _ _ _,(B2.setCell (Nat.le_refl _) _).setCell (Nat.le_refl _) _⟩
  | true=>
   have HTH:Hid (zfV R n ((D:Int)+(S:Int))):=HT.out.mp rfl;have HASK:Hid (AskP (D:Int) (S:Int) R n 0):=.inr (.inr ⟨rfl,HSH.out,HTH.out.1,HTH.out.2⟩);have CF:=zet D (.slice ao R cap) R n f h1 w2 (HR.out.below B2 hh) (Nat.le_trans hh B2.size) (by omega);clear HT x0 x1 y0 y1
   go_wp2_with fail
   refine CF.mono ?_;rintro e0 w3 ⟨v3,rfl,o3,b3'⟩;have B3:Below w.heap.size w w3:=B2.trans (b3'.mono B2.size);have X3:Box w3 w.heap.size #[.int .i64 0,.slice none 0 0] 112:=X2.below b3' z2;have z3:w.heap.size<w3.heap.size:=X3.lt;obtain ⟨x0,x1,y0,y1⟩:=za6 X3;clear b3' X2 B2 z2 CF
   by_cases hcnt:D≤cntN n R
   ·have HCN:=hid hcnt
    rw [zi0 hcnt] at o3;obtain ⟨ao3,cap3,rfl⟩:=o3.slice;have CB:=zfi D (.slice ao R cap) (.slice ao3 D cap3) R n f h1 w3.heap.size w3 (HR.out.below B3 hh) o3.rd (Nat.le_trans hh B3.size) (Nat.le_refl _) (by omega) (by omega) (by have:=HTH.out.1;omega) hcnt HTH.out.2 kf;clear o3 hcnt x0 x1 y0 y1
    go_wp2_with fail
    refine CB.mono ?_;rintro e0 w4 ⟨v4,rfl,o4,b4⟩;obtain ⟨ao4,cap4,rfl⟩:=o4.slice;have HO:=hid o4;have B4:Below w.heap.size w w4:=B3.trans (b4.mono (by omega));have X4:Box w4 w.heap.size #[.int .i64 0,.slice none 0 0] 112:=X3.below b4 z3;have z4:=X4.lt;obtain ⟨x0,x1,y0,y1⟩:=za6 X4;clear o4 b4 CB X4 X3;go_wp2;refine bodyPost_ret (v:=zaS 0 (.slice ao4 (4*D) cap4)) (by simp [results,Tryz.results78,go_sem,zaS,x0,x1]) rfl ⟨0,_,rfl,.inr (.inr ⟨HASK.out,by rw [Int.toNat_natCast];exact HCN.out,rfl⟩),?_,(B4.setCell (Nat.le_refl _) _).setCell (Nat.le_refl _) _⟩;have o1:=za3 w4 w.heap.size (w.heap.size+1) w.heap.size 0 (.int .i64 0) (Nat.le_refl _) (by omega);have o2:=za3 (w4.setCell ⟨w.heap.size,0,none⟩ (.int .i64 0)) w.heap.size (w.heap.size+1) w.heap.size 1 (.slice ao4 (4*D) cap4) (Nat.le_refl _) (by omega)
    simp only [if_pos]
    rw [Int.toNat_natCast];exact (HO.out.out (o1.trans o2) (.inr (by omega))).weaken (by omega) (by rw [(o1.trans o2).size];exact Nat.le_refl _)
   ·have HNC:=hid hcnt
    have hpf:=zi1 hcnt;obtain ⟨c,hc⟩:∃ c,c=zbp D n R:=⟨_,rfl⟩;rw [← hc] at o3 hpf;obtain ⟨ao3,cap3,rfl⟩:=o3.slice
    have hci:(c:Int)<(D:Int):=by omega
    clear o3 hcnt hc;go_wp2;exact bodyPost_ret (v:=zaS 10 (.slice none 0 0)) (by simp [results,Tryz.results78,go_sem,zaS,x0,x1]) rfl ⟨10,_,rfl,.inr (.inl ⟨HASK.out,by rw [Int.toNat_natCast];exact HNC.out,rfl⟩),zbh _ _ _ _,(B3.setCell (Nat.le_refl _) _).setCell (Nat.le_refl _) _⟩
theorem zfk:ElInfo zag 75 69 24 [.slice none 0 0]:=⟨by decide,rfl,Tryz.underlying75,by kernel_rfl,by decide⟩
theorem zi4 (w:World) (hi:Nat):zag.rd w hi (0,fun _=>0) [.slice none 0 0]:=⟨_,rfl,⟨none,0,rfl,Nat.zero_le _,fun h=>absurd rfl h⟩,fun _=>Nat.zero_lt_succ _⟩
theorem View.rdM {w:World} {lo hi n:Nat} {v:Value} {x:Nat→Nat×(Nat→Nat)} {ce:Nat→List Value} (h:View zag 69 w lo hi v n x ce) (hh:hi≤w.heap.size):RdM w w.heap.size v n (fun i=>(x i).1) (fun i=>(x i).2):=by
 obtain ⟨ao,cap,rfl⟩:=h.form
 have hce:∀ i,i<n→∃ u,ce i=[u]∧Rd w hi u (x i).1 (x i).2:=fun i hi=>by
  obtain ⟨u,h1,h2,_⟩:=h.each i hi;exact ⟨u,h1,h2⟩
 refine ⟨ao,cap,fun i=>(ce i).headD (.int .i64 0),rfl,h.len,fun h0=>?_,fun i hi=>?_⟩
 ·obtain ⟨g,cap',e⟩:=h.form0 h0
  cases e
  refine ⟨g,0,rfl,(h.row.lt g (by simp [Value.ownBlock])).2,fun i hi=>?_⟩;obtain ⟨u,h1,_⟩:=hce i hi;have:=h.cell hi (j:=0) (by decide)
  show w.cell? ⟨g,0+i,none⟩=some ((ce i).headD (.int .i64 0))
  rw [h1] at this ⊢;rw [show 0+i=i*zag.sz+0 by show 0+i=i*1+0;omega];exact this
 ·obtain ⟨u,h1,h2⟩:=hce i hi
  show Rd w w.heap.size ((ce i).headD (.int .i64 0)) _ _
  rw [h1];exact h2.mono hh
def rowX (x:Nat→DriveD) (n R:Nat):Nat→Nat×(Nat→Nat):=fun i=>if i<n∧(x i).wiped=false then ((x i).blocks.2 R).bytes else (0,fun _=>0)
def rowK (x:Nat→DriveD) (n R k:Nat):Nat→Nat×(Nat→Nat):=fun i=>if i<k then rowX x n R i else (0,fun _=>0)
def rowN (x:Nat→DriveD) (n R:Nat):Nat→Nat:=fun i=>(rowX x n R i).1
def rowM (x:Nat→DriveD) (n R:Nat):Mat:=fun i=>(rowX x n R i).2
theorem zcK {x:Nat→DriveD} {n R i:Nat} (h:(x i).wiped=true):rowX x n R i=(0,fun _=>0):=if_neg (fun hh=>by rw [h] at hh;cases hh.2)
theorem zb5 {x:Nat→DriveD} {n R i:Nat} (hi:i<n) (h:(x i).wiped=false):rowX x n R i=((x i).blocks.2 R).bytes:=if_pos ⟨hi,h⟩
theorem zi5 {x:Nat→DriveD} {n R k:Nat} (h:(x k).wiped=true) (i:Nat):rowK x n R k i=rowK x n R (k+1) i:=by
 unfold rowK
 by_cases c:i<k
 ·rw [if_pos c,if_pos (by omega)]
 ·rw [if_neg c]
  by_cases c2:i=k
  ·subst c2;rw [if_pos (by omega),zcK h]
  ·rw [if_neg (by omega)]
theorem zi6 {x:Nat→DriveD} {n R k:Nat} (i:Nat):upd (rowK x n R k) k (rowX x n R k) i=rowK x n R (k+1) i:=by
 unfold rowK
 by_cases c2:i=k
 ·subst c2;rw [zcp,if_pos (by omega)]
 ·rw [zcq _ _ c2]
  by_cases c:i<k
  ·rw [if_pos c,if_pos (by omega)]
  ·rw [if_neg c,if_neg (by omega)]
theorem zhh {x:Nat→DriveD} {n R k:Nat} {y:Nat→Nat×(Nat→Nat)} (hy:y 0=rowX x n R k) (i:Nat) (hi:i<k+1):cat2 (rowX x n R) k y i=rowX x n R i:=by
 by_cases c:i<k
 ·exact zdx _ _ c
 ·obtain rfl:i=k:=by omega
  rw [show cat2 (rowX x n R) i y i=y 0 from zfb (rowX x n R) i y 0,hy]
theorem zjz {x:Nat→DriveD} {n R:Nat} (i:Nat) (hi:i<n):rowK x n R n i=rowX x n R i:=if_pos hi
theorem zhi {x:Nat→DriveD} {n R:Nat} (h4:∀ i,i<n→((x i).blocks.2 R).bytes.1=4):∀ k,k≤n→cntN (rowN x n R) k+zaT x k=k
 | 0,_=>rfl
 | k+1,hk=>by
  have ih:=zhi (x:=x) (n:=n) (R:=R) h4 k (by omega)
  show (if rowN x n R k=0 then cntN (rowN x n R) k else cntN (rowN x n R) k+1)+(zaT x k+(if (x k).wiped=true then 1 else 0))=k+1
  cases hw:(x k).wiped with
  | true=>
   rw [if_pos (show rowN x n R k=0 by unfold rowN;rw [zcK hw])]
   simp
   omega
  | false=>
   rw [if_neg (show rowN x n R k≠0 by unfold rowN;rw [zb5 (by omega) hw,h4 k (by omega)];decide)]
   simp
   omega
theorem zfY {x:Nat→DriveD} {n R:Nat} (h4:∀ i,i<n→((x i).blocks.2 R).bytes.1=4) (i:Nat) (hi:i<n):rowN x n R i=0∨rowN x n R i=4:=by
 unfold rowN
 cases hw:(x i).wiped with
 | true=>rw [zcK hw];exact .inl rfl
 | false=>rw [zb5 hi hw];exact .inr (h4 i hi)
theorem zfl {w:World} {hi:Nat} {d:WorldD} {cs:List Value} (h:zaf.rd w hi d cs) {G R:Nat} (hG:G<d.groups.1) (hR:∀ k,k<(d.groups.2 G).1→R<((d.groups.2 G).2 k).blocks.1):Byt (rowM (d.groups.2 G).2 (d.groups.2 G).1 R):=fun i j=>by
 unfold rowM
 by_cases c:i<(d.groups.2 G).1∧((d.groups.2 G).2 i).wiped=false
 ·rw [zb5 c.1 c.2]
  obtain ⟨ao1,cap1,ao2,cap2,ao3,cap3,rfl,g1,_⟩:=zaz h;obtain ⟨_,_,e1,hm1,hc1⟩:=g1;obtain ⟨b1,off1,he1,hb1,hel1⟩:=hc1 (by omega);obtain ⟨cg,hrg,hcg⟩:=hel1 G hG;obtain ⟨_,_,e9,hm9,hc9⟩:=hrg;obtain ⟨b,off,_,hblt,hcell⟩:=hc9 (by omega);obtain ⟨cd,hrd,hcd⟩:=hcell i c.1;obtain ⟨ao5,cap5,rfl,g5⟩:=zaM hrd;obtain ⟨_,_,e5,hm5,hc5⟩:=g5;have hRi:=hR i c.1;obtain ⟨b5,off5,he5,hb5,hel5⟩:=hc5 (by omega);obtain ⟨cb,hrb,hcb⟩:=hel5 R hRi;obtain ⟨ao0,cap0,rfl,hrr,-⟩:=zaV hrb;obtain ⟨v,_,_,hk⟩:=hrr;exact hk j
 ·unfold rowX
  rw [if_neg c];exact Nat.zero_lt_succ _
theorem zhj {d:WorldD} {G R:Nat} {D S:Nat} (hD:d.shape 2=(D:Int)) (hS:d.shape 3=(S:Int)) (hn:(d.groups.2 G).1=D+S) (h4:∀ i,i<(d.groups.2 G).1→(((d.groups.2 G).2 i).blocks.2 R).bytes.1=4):¬ zcL d G↔D≤cntN (rowN (d.groups.2 G).2 (d.groups.2 G).1 R) (d.groups.2 G).1:=by
 have:=zhi (R:=R) h4 _ (Nat.le_refl _);unfold zcL;rw [hS];omega
def rowB (d:WorldD) (G R:Nat):Nat→Nat:=decN (d.shape 2).toNat (rowN (d.groups.2 G).2 (d.groups.2 G).1 R) (d.groups.2 G).1 (rowM (d.groups.2 G).2 (d.groups.2 G).1 R)
theorem zdg {d:WorldD} (h:OkWorld d) {G:Nat} (hG:G<d.groups.1):∃ D S:Nat,d.shape 2=(D:Int)∧d.shape 3=(S:Int)∧(d.groups.2 G).1=D+S∧1≤D∧D≤3∧S≤2∧∀ R,(∀ k,k<(d.groups.2 G).1→R<((d.groups.2 G).2 k).blocks.1)→∀ i,i<(d.groups.2 G).1→(((d.groups.2 G).2 i).blocks.2 R).bytes.1=4:=by
 obtain ⟨_,q,_⟩:=h.shape;unfold Shp at q;have h2:=h.form.1.2 G hG;refine ⟨(d.shape 2).toNat,(d.shape 3).toNat,by omega,by omega,by have:=h2.1;omega,by omega,by omega,by omega,fun R hR i hi=>((h2.2 i hi).2 R (hR i hi)).2⟩
set_option maxRecDepth 20000 in
theorem zeu (d:WorldD) (cs:List Value) (hi:Nat) (G R:Nat) (w:World) (h:zaf.rd w hi d cs) (hhi:hi≤w.heap.size) (hG:G<d.groups.1) (hR:∀ k,k<(d.groups.2 G).1→R<((d.groups.2 G).2 k).blocks.1) (hok:OkWorld d) (hnd:¬ zcL d G) :
 Calls Tryz.prog 44 #[.agg cs.toArray,.int .i64 (G:Int),.int .i64 (R:Int)] w fun e w'=>∃ v,e=.returned v∧Own w' w.heap.size w'.heap.size v (4*(d.shape 2).toNat) (rowB d G R)∧Below w.heap.size w w':=by
 have kf:=zfl h hG hR;obtain ⟨D,S,hD,hS,hn,d1,d2,s2,h4'⟩:=zdg hok hG;have h4:=h4' R hR;have hcnt:=(zhj (R:=R) hD hS hn h4).1 hnd;have HFour:=hid (zfY h4);have HCNT:=hid hcnt;have HKF:=hid kf;have HD:=hid hD;have HS:=hid hS;have HN:=hid hn
 have hn6:(d.groups.2 G).1≤6:=by omega
 have HOK:=hid hok;clear h4 h4' hcnt hnd kf hD hS hn hok;obtain ⟨ao1,cap1,ao2,cap2,ao3,cap3,rfl,g1,g2,g3,k0,k4,k5⟩:=zaz h;obtain ⟨_,_,e1,hm1,hc1⟩:=g1
 cases e1
 obtain ⟨b1,off1,he1,hb1,hel1⟩:=hc1 (by omega);subst he1;obtain ⟨cg,hrg,hcg⟩:=hel1 G hG;obtain ⟨ao9,cap9,rfl⟩:=za0 hrg
 have c0:w.cell? ⟨b1,off1+G,none⟩=some (.slice ao9 (d.groups.2 G).1 cap9):=by
  have:=hcg 0 (by decide)
  have e:off1+(G*(zae.slice 79).sz+0)=off1+G:=by show off1+(G*1+0)=off1+G;omega
  rw [e] at this;exact this
 obtain ⟨_,_,e9,hm9,hc9⟩:=hrg
 cases e9
 unfold maxLen at hm9
 have i1:(0:Int)≤(G:Int):=by omega
 have i2:(G:Int)<(d.groups.1:Int):=by omega
 clear g2 g3 k0 k4 k5 hcg hel1 hc1 hm1;have T0:=zaw w (rwW d (some ⟨b1,off1,none⟩) cap1 ao2 cap2 ao3 cap3).toArray 35;have c0':=(T0.bel.cell (p:=⟨b1,off1+G,none⟩) (by show b1<w.heap.size;omega)).trans c0;have x_0:(w.alloc (.cells (rwW d (some ⟨b1,off1,none⟩) cap1 ao2 cap2 ao3 cap3).toArray 35)).cell? ⟨w.heap.size,0,none⟩=some (.int .i64 (d.shape 0)):=T0.b1.cell 0;have x_1:(w.alloc (.cells (rwW d (some ⟨b1,off1,none⟩) cap1 ao2 cap2 ao3 cap3).toArray 35)).cell? ⟨w.heap.size,1,none⟩=some (.int .i64 (d.shape 1)):=T0.b1.cell 1;have x_2:(w.alloc (.cells (rwW d (some ⟨b1,off1,none⟩) cap1 ao2 cap2 ao3 cap3).toArray 35)).cell? ⟨w.heap.size,2,none⟩=some (.int .i64 (d.shape 2)):=T0.b1.cell 2;have x_3:(w.alloc (.cells (rwW d (some ⟨b1,off1,none⟩) cap1 ao2 cap2 ao3 cap3).toArray 35)).cell? ⟨w.heap.size,3,none⟩=some (.int .i64 (d.shape 3)):=T0.b1.cell 3;have x_4:(w.alloc (.cells (rwW d (some ⟨b1,off1,none⟩) cap1 ao2 cap2 ao3 cap3).toArray 35)).cell? ⟨w.heap.size,4,none⟩=some (.int .i64 (d.shape 4)):=T0.b1.cell 4;have x_5:(w.alloc (.cells (rwW d (some ⟨b1,off1,none⟩) cap1 ao2 cap2 ao3 cap3).toArray 35)).cell? ⟨w.heap.size,5,none⟩=some (.int .i64 (d.shape 5)):=T0.b1.cell 5
 have x_6:(w.alloc (.cells (rwW d (some ⟨b1,off1,none⟩) cap1 ao2 cap2 ao3 cap3).toArray 35)).cell? ⟨w.heap.size,6,none⟩=some (.int .i64 (d.shape 6)):=T0.b1.cell 6;have x_7:(w.alloc (.cells (rwW d (some ⟨b1,off1,none⟩) cap1 ao2 cap2 ao3 cap3).toArray 35)).cell? ⟨w.heap.size,7,none⟩=some (.int .i64 (d.shape 7)):=T0.b1.cell 7;have x_8:(w.alloc (.cells (rwW d (some ⟨b1,off1,none⟩) cap1 ao2 cap2 ao3 cap3).toArray 35)).cell? ⟨w.heap.size,8,none⟩=some (.int .i64 (d.shape 8)):=T0.b1.cell 8;have CG:=zcP d.shape HOK.out.shape (w.alloc (.cells (rwW d (some ⟨b1,off1,none⟩) cap1 ao2 cap2 ao3 cap3).toArray 35));rw [show d.shape 2+d.shape 3=((d.groups.2 G).1:Int) by rw [HD.out,HS.out,HN.out];omega] at CG;unfold zad at CG
 go_enter Tryz.func44,Tryz.ntmps44
 go_wp2_with fail
 refine CG.mono ?_;rintro e w1 ⟨rfl,q1⟩;have T1:=T0.call q1;have zw1:w.heap.size<w1.heap.size:=T1.b1.lt;clear CG T0 q1 c0' x_0 x_1 x_2 x_3 x_4 x_5 x_6 x_7 x_8;obtain ⟨w2,hrun,hP,bm⟩:=ziP zfk (fun _=>(0,fun _=>0)) (fun _=>[]) w1 (d.groups.2 G).1 (by omega);have T2:=T1.call bm;have V2:View zag 69 w2 w1.heap.size hi (.slice (some ⟨w1.heap.size,0,none⟩) (d.groups.2 G).1 (d.groups.2 G).1) (d.groups.2 G).1 (rowK (d.groups.2 G).2 (d.groups.2 G).1 R 0) (fun _=>[.slice none 0 0]):=⟨hP.row,fun i hi=>by unfold rowK;rw [if_neg (by omega)];exact zi4 _ _⟩;have x9:=T2.b1.cell 9;have c0':=(T2.bel.cell (p:=⟨b1,off1+G,none⟩) (by show b1<w.heap.size;omega)).trans c0;have zw2:w1.heap.size<w2.heap.size:=hP.lt;clear hP bm T1;go_wp2
 go_loopw [20] (fun i wr=>∃ (k:Nat) (ce:Nat→List Value),k≤(d.groups.2 G).1∧i=.int .i64 k∧View zag 69 wr w1.heap.size hi (.slice (some ⟨w1.heap.size,0,none⟩) (d.groups.2 G).1 (d.groups.2 G).1) (d.groups.2 G).1 (rowK (d.groups.2 G).2 (d.groups.2 G).1 R k) ce∧One w wr (rwW d (some ⟨b1,off1,none⟩) cap1 ao2 cap2 ao3 cap3).toArray 35) (fun i _=>(d.groups.2 G).1-(intOf i).toNat)
 case atStart=>exact ⟨0,_,Nat.zero_le _,rfl,V2,T2⟩
 case round=>
  clear T2 V2 x9 c0' hrun;obtain ⟨k,ce,hk,rfl,V,T⟩:=hrel;have HT:=hid T;have HV:=hid V;have zr:w1.heap.size<wr.heap.size:=(V.row.lt w1.heap.size rfl).2
  by_cases hlt:k<(d.groups.2 G).1
  ·have t1:(k:Int)<((d.groups.2 G).1:Int):=by omega
   have HLT:=hid hlt;obtain ⟨b,off,rfl,hblt,hcell⟩:=hc9 (by omega);obtain ⟨cd,hrd,hcd⟩:=hcell k hlt;obtain ⟨ao5,cap5,rfl,g5⟩:=zaM hrd;have hRk:R<((d.groups.2 G).2 k).blocks.1:=hR k hlt;obtain ⟨_,_,e5,hm5,hc5⟩:=g5
   cases e5
   obtain ⟨b5,off5,he5,hb5,hel5⟩:=hc5 (by omega);subst he5;obtain ⟨cb,hrb,hcb⟩:=hel5 R hRk;obtain ⟨ao0,cap0,rfl,hrB,-⟩:=zaV hrb;have c2:wr.cell? ⟨b,off+k*2,none⟩=some (.bool ((d.groups.2 G).2 k).wiped):=(T.bel.cell (p:=⟨b,off+k*2,none⟩) (by show b<w.heap.size;omega)).trans (hcd 0 (by decide));have c3:wr.cell? ⟨b,off+k*2+1,none⟩=some (.slice (some ⟨b5,off5,none⟩) ((d.groups.2 G).2 k).blocks.1 cap5):=(T.bel.cell (p:=⟨b,off+k*2+1,none⟩) (by show b<w.heap.size;omega)).trans (hcd 1 (by decide));have c4:wr.cell? ⟨b5,off5+R*2+1,none⟩=some (.slice ao0 (((d.groups.2 G).2 k).blocks.2 R).bytes.1 cap0):=(T.bel.cell (p:=⟨b5,off5+R*2+1,none⟩) (by show b5<w.heap.size;omega)).trans (hcb 1 (by decide));obtain ⟨D9,hD9⟩:∃ D,D=(d.groups.2 G).2 k:=⟨_,rfl⟩;have HD9:=hid hD9;rw [← hD9] at c2 c3 c4 hRk hrB;obtain ⟨y,hy⟩:∃ y,y=(D9.blocks.2 R).bytes.1:=⟨_,rfl⟩;have HY:=hid hy
   have HRB:Hid (zag.rd w hi (D9.blocks.2 R).bytes [.slice ao0 y cap0]):=by rw [hy];exact hrB
   rw [← hy] at c4;have bA:=bAl wr (.cells #[.bool D9.wiped,.slice (some ⟨b5,off5,none⟩) D9.blocks.1 cap5] 79);have HT9:=hid (HT.out.call bA);have HV9:Hid (View zag 69 (wr.alloc (.cells #[.bool D9.wiped,.slice (some ⟨b5,off5,none⟩) D9.blocks.1 cap5] 79)) w1.heap.size hi (.slice (some ⟨w1.heap.size,0,none⟩) (d.groups.2 G).1 (d.groups.2 G).1) (d.groups.2 G).1 (rowK (d.groups.2 G).2 (d.groups.2 G).1 R k) ce):=V.below bA (by omega);have c4':(wr.alloc (.cells #[.bool D9.wiped,.slice (some ⟨b5,off5,none⟩) D9.blocks.1 cap5] 79)).cell? ⟨b5,off5+R*2+1,none⟩=some (.slice ao0 y cap0):=(bA.cell (p:=⟨b5,off5+R*2+1,none⟩) (by have:=T.b1.lt;show b5<wr.heap.size;omega)).trans c4;have fz:=HV9.out.row.frozenAt k;obtain ⟨uk,huk,_⟩:=V.each k hlt;have ck0:=HV9.out.cell hlt (j:=0) (by decide);rw [huk,show k*zag.sz+0=k by show k*1+0=k;omega,show ([uk]:List Value)[0]?=some uk from rfl] at ck0
   have j1:(0:Int)≤(R:Int):=by omega
   have j2:(R:Int)<(D9.blocks.1:Int):=by omega
   clear hc9 hcell hcd hrd hcb hrb hel5 hc5 hm5 T V hD9 hy bA hrB huk
   cases hw:D9.wiped with
   | true=>
    rw [hw] at c2 HT9 c4' HV9 fz ck0;have HW:=hid hw;clear hw;go_wp2
    go_roundw
    case rel=>exact ⟨k+1,ce,by omega,by go_num,HV9.out.congr (fun i hi=>zi5 (by rw [← HD9.out];exact HW.out) i),HT9.out⟩
    case measure=>simp [intOf];omega
   | false=>
    rw [hw] at c2 HT9 c4' HV9 fz ck0;have HW:=hid hw;clear hw
    have HE:Hid (rowX (d.groups.2 G).2 (d.groups.2 G).1 R k=(D9.blocks.2 R).bytes):=by
     show rowX (d.groups.2 G).2 (d.groups.2 G).1 R k=(D9.blocks.2 R).bytes
     rw [zb5 HLT.out (by rw [← HD9.out];exact HW.out),HD9.out]
    have VS:=HV.out.store1 rfl (by omega) HLT.out (u:=.slice ao0 y cap0) (a:=rowX (d.groups.2 G).2 (d.groups.2 G).1 R k) (by
     rw [HE.out]
     exact zag.rd_below HRB.out HT.out.bel (by omega))
    have TS:One w (wr.setCell ⟨w1.heap.size,k,none⟩ (.slice ao0 y cap0)) (rwW d (some ⟨b1,off1,none⟩) cap1 ao2 cap2 ao3 cap3).toArray 35:=⟨HT.out.b1.below VS.2 zw1,HT.out.bel.trans (VS.2.mono (by omega))⟩;have bS:Below (wr.setCell ⟨w1.heap.size,k,none⟩ (.slice ao0 y cap0)).heap.size (wr.setCell ⟨w1.heap.size,k,none⟩ (.slice ao0 y cap0)) ((wr.setCell ⟨w1.heap.size,k,none⟩ (.slice ao0 y cap0)).alloc (.cells #[.bool false,.slice (some ⟨b5,off5,none⟩) D9.blocks.1 cap5] 79)):=(Below.refl _ _).alloc (Nat.le_refl _) _;have HVS:Hid (View zag 69 ((wr.setCell ⟨w1.heap.size,k,none⟩ (.slice ao0 y cap0)).alloc (.cells #[.bool false,.slice (some ⟨b5,off5,none⟩) D9.blocks.1 cap5] 79)) w1.heap.size hi (.slice (some ⟨w1.heap.size,0,none⟩) (d.groups.2 G).1 (d.groups.2 G).1) (d.groups.2 G).1 (rowK (d.groups.2 G).2 (d.groups.2 G).1 R (k+1)) (upd ce k [.slice ao0 y cap0])):=(VS.1.congr (fun i _=>zi6 i)).below bS (by have:=(VS.1.row.lt w1.heap.size rfl).2;omega);have HTS:=hid (TS.call bS);clear VS TS bS HV9 HT9;go_wp2
    go_roundw
    case rel=>exact ⟨k+1,_,by omega,by go_num,HVS.out,HTS.out⟩
    case measure=>simp [intOf];omega
  ·obtain rfl:k=(d.groups.2 G).1:=by omega
   have x2:wr.cell? ⟨w.heap.size,2,none⟩=some (.int .i64 (d.shape 2)):=T.b1.cell 2;have x3:wr.cell? ⟨w.heap.size,3,none⟩=some (.int .i64 (d.shape 3)):=T.b1.cell 3;have RM:RdM wr wr.heap.size (.slice (some ⟨w1.heap.size,0,none⟩) (d.groups.2 G).1 (d.groups.2 G).1) (d.groups.2 G).1 (rowN (d.groups.2 G).2 (d.groups.2 G).1 R) (rowM (d.groups.2 G).2 (d.groups.2 G).1 R):=(V.congr (fun i hi=>zjz i hi)).rdM (by omega);have CD:=zfj (d.shape 2) (d.shape 3) _ _ _ _ wr.heap.size wr RM (Nat.le_refl _) HKF.out
   have fB:∀ (x:Int) (v:Value) (w':World),(Instr.field 112 (.agg #[.int .i64 x,v]) 1).run Tryz.prog w'=.ok v w':=fun x v w'=>by kernel_rfl
   clear hlt T V RM hc9
   go_wp2_with fail
   refine CD.mono ?_;rintro e w3 ⟨x,v3,rfl,hans,o3,b3⟩;have hx0:x=0:=hans.one (.inr (.inr ⟨.inr (.inr ⟨rfl,by rw [HD.out,HS.out];exact ⟨by omega,by omega,by omega,by omega⟩,by rw [HD.out,HS.out,HN.out];omega,HFour.out⟩),by rw [HD.out];exact HCNT.out,rfl⟩));subst hx0;have HO:=hid o3;have HB:=hid (HT.out.bel.trans (b3.mono HT.out.bel.size));have zz:=HT.out.bel.size;obtain ⟨ao3,cap3,rfl⟩:=o3.slice;clear o3 hans b3 CD x2 x3;have f3:=fun w'=>fB 0 (.slice ao3 (4*(d.shape 2).toNat) cap3) w';clear fB;unfold zaS;go_wp2;go_ret;exact ⟨_,rfl,HO.out.weaken (by omega) (Nat.le_refl _),HB.out⟩
def zi7 (d:WorldD) (G R:Nat) (w:World) (e:Ending) (w':World):Prop:=∃ v b,e=.returned (.tuple #[v,.bool b])∧(b=true↔¬ zcL d G)∧Own w' w.heap.size w'.heap.size v (if b=true then 4*(d.shape 2).toNat else 0) (rowB d G R)∧Below w.heap.size w w'
set_option maxRecDepth 20000 in
theorem zgY (d:WorldD) (cs:List Value) (hi B:Nat) (G R:Nat) (w:World) (h:zaf.rd w hi d cs) (hhi:hi≤w.heap.size) (hB:Box w B cs.toArray 35) (hG:G<d.groups.1) (hR:∀ k,k<(d.groups.2 G).1→R<((d.groups.2 G).2 k).blocks.1) (hok:OkWorld d) :
 Calls Tryz.prog 36 #[.pointer (some ⟨B,0,none⟩),.int .i64 (G:Int),.int .i64 (R:Int)] w (zi7 d G R w):=by
 have kf:=zfl h hG hR;obtain ⟨D,S,hD,hS,hn,d1,d2,s2,h4'⟩:=zdg hok hG;have h4:=h4' R hR;have HND:Hid (¬ zcL d G↔D≤cntN (rowN (d.groups.2 G).2 (d.groups.2 G).1 R) (d.groups.2 G).1):=zhj (R:=R) hD hS hn h4;have HFour:=hid (zfY h4);have HKF:=hid kf;have HD:=hid hD
 have hn6:(d.groups.2 G).1≤6:=by omega
 have hn5:(d.groups.2 G).1≤D+2:=by omega
 clear h4 h4' kf hD hS hn hok;obtain ⟨ao1,cap1,ao2,cap2,ao3,cap3,rfl,g1,g2,g3,k0,k4,k5⟩:=zaz h;obtain ⟨_,_,e1,hm1,hc1⟩:=g1
 cases e1
 obtain ⟨b1,off1,he1,hb1,hel1⟩:=hc1 (by omega);subst he1;obtain ⟨cg,hrg,hcg⟩:=hel1 G hG;obtain ⟨ao9,cap9,rfl⟩:=za0 hrg
 have c0:w.cell? ⟨b1,off1+G,none⟩=some (.slice ao9 (d.groups.2 G).1 cap9):=by
  have:=hcg 0 (by decide)
  have e:off1+(G*(zae.slice 79).sz+0)=off1+G:=by show off1+(G*1+0)=off1+G;omega
  rw [e] at this;exact this
 obtain ⟨_,_,e9,hm9,hc9⟩:=hrg
 cases e9
 unfold maxLen at hm9
 have i1:(0:Int)≤(G:Int):=by omega
 have i2:(G:Int)<(d.groups.1:Int):=by omega
 clear g2 g3 k0 k4 k5 hcg hel1 hc1 hm1;have hBlt:=hB.lt;have HBX:=hid hB;clear hB
 go_enter Tryz.func36,Tryz.ntmps36
 go_wp2
 go_loopw [8,9] (fun v i wr=>∃ (k:Nat) (ce:Nat→List Value),k≤(d.groups.2 G).1∧i=.int .i64 k∧View zag 69 wr w.heap.size hi v k (rowX (d.groups.2 G).2 (d.groups.2 G).1 R) ce∧Below w.heap.size w wr) (fun _ i _=>(d.groups.2 G).1-(intOf i).toNat)
 case atStart=>exact ⟨0,fun _=>[],Nat.zero_le _,rfl,View.lit0 _ _ w hi,(Below.refl _ _).alloc (Nat.le_refl _) _⟩
 case round=>
  obtain ⟨k,ce,hk,rfl,V,bw⟩:=hrel;have x9:wr.cell? ⟨B,9,none⟩=some (.slice (some ⟨b1,off1,none⟩) d.groups.1 cap1):=(bw.cell (p:=⟨B,9,none⟩) hBlt).trans (HBX.out.cell 9);have c0':=(bw.cell (p:=⟨b1,off1+G,none⟩) (by show b1<w.heap.size;omega)).trans c0;have zr:=bw.size;have HV:=hid V;have HBW:=hid bw;obtain ⟨aoV,capV,hvf⟩:=V.form;subst hvf
  by_cases hlt:k<(d.groups.2 G).1
  ·have t1:(k:Int)<((d.groups.2 G).1:Int):=by omega
   have HLT:=hid hlt;obtain ⟨b,off,rfl,hblt,hcell⟩:=hc9 (by omega);obtain ⟨cd,hrd,hcd⟩:=hcell k hlt;obtain ⟨ao5,cap5,rfl,g5⟩:=zaM hrd;have hRk:R<((d.groups.2 G).2 k).blocks.1:=hR k hlt;obtain ⟨_,_,e5,hm5,hc5⟩:=g5
   cases e5
   obtain ⟨b5,off5,he5,hb5,hel5⟩:=hc5 (by omega);subst he5;obtain ⟨cb,hrb,hcb⟩:=hel5 R hRk;obtain ⟨ao0,cap0,rfl,hrB,-⟩:=zaV hrb;have c2:wr.cell? ⟨b,off+k*2,none⟩=some (.bool ((d.groups.2 G).2 k).wiped):=(bw.cell (p:=⟨b,off+k*2,none⟩) (by show b<w.heap.size;omega)).trans (hcd 0 (by decide));have c3:wr.cell? ⟨b,off+k*2+1,none⟩=some (.slice (some ⟨b5,off5,none⟩) ((d.groups.2 G).2 k).blocks.1 cap5):=(bw.cell (p:=⟨b,off+k*2+1,none⟩) (by show b<w.heap.size;omega)).trans (hcd 1 (by decide));have c4:wr.cell? ⟨b5,off5+R*2+1,none⟩=some (.slice ao0 (((d.groups.2 G).2 k).blocks.2 R).bytes.1 cap0):=(bw.cell (p:=⟨b5,off5+R*2+1,none⟩) (by show b5<w.heap.size;omega)).trans (hcb 1 (by decide));obtain ⟨D9,hD9⟩:∃ D,D=(d.groups.2 G).2 k:=⟨_,rfl⟩;have HD9:=hid hD9;rw [← hD9] at c2 c3 c4 hRk hrB;obtain ⟨y,hy⟩:∃ y,y=(D9.blocks.2 R).bytes.1:=⟨_,rfl⟩;have HY:=hid hy
   have HRB:Hid (zag.rd w hi (D9.blocks.2 R).bytes [.slice ao0 y cap0]):=by rw [hy];exact hrB
   rw [← hy] at c4
   have j1:(0:Int)≤(R:Int):=by omega
   have j2:(R:Int)<(D9.blocks.1:Int):=by omega
   clear hc9 hcell hcd hrd hcb hrb hel5 hc5 hm5 V hD9 hy hrB bw
   cases hw:D9.wiped with
   | true=>
    rw [hw] at c2;have HW:=hid hw;clear hw;have bA:=bAl wr (.cells #[.slice none 0 0] 69);obtain ⟨v3,w3,hrun,V3,_,b3⟩:=zei zfk zeg 75 (HV.out.below bA (by omega)) 1 (ziX (b:=wr.heap.size) (hi:=hi) (y:=(0,fun _=>0)) (cs:=[.slice none 0 0]) (fun j hj=>by simp) (zi4 _ _)) (by simp;omega) (by omega) (by omega) (fun h=>by cases h);have HV3:Hid (View zag 69 w3 w.heap.size hi v3 (k+1) (rowX (d.groups.2 G).2 (d.groups.2 G).1 R) _):=V3.congr (zhh (zcK (by rw [← HD9.out];exact HW.out)).symm);have HB3:Hid (Below w.heap.size w w3):=(HBW.out.trans (bA.mono zr)).trans b3;clear V3 b3 bA
    go_wp2_with (at_builtin;refine ziW rfl (.tmp 34) (.tmp 35) rfl ?_ ?_ hrun ?_;(simp [Act.eval]);(simp [Act.eval]))
    clear hrun;go_wp2
    go_roundw
    case rel=>exact ⟨k+1,_,by omega,by go_num,HV3.out,HB3.out⟩
    case measure=>simp [intOf];omega
   | false=>
    rw [hw] at c2;have HW:=hid hw;clear hw;have bA:=bAl wr (.cells #[.slice ao0 y cap0] 69)
    obtain ⟨v3,w3,hrun,V3,_,b3⟩:=zei zfk zeg 75 (HV.out.below bA (by omega)) 1 (ziX (b:=wr.heap.size) (hi:=hi) (y:=(D9.blocks.2 R).bytes) (cs:=[.slice ao0 y cap0]) (fun j hj=>by simp) (by
     exact zag.rd_below HRB.out (HBW.out.trans (bA.mono zr)) (by omega))) (by simp;omega) (by omega) (by omega) (fun h=>by cases h)
    have HV3:Hid (View zag 69 w3 w.heap.size hi v3 (k+1) (rowX (d.groups.2 G).2 (d.groups.2 G).1 R) _):=V3.congr (zhh (by
     rw [zb5 HLT.out (by rw [← HD9.out];exact HW.out),HD9.out]))
    have HB3:Hid (Below w.heap.size w w3):=(HBW.out.trans (bA.mono zr)).trans b3;clear V3 b3 bA
    go_wp2_with (at_builtin;refine ziW rfl (.tmp 37) (.tmp 53) rfl ?_ ?_ hrun ?_;(simp [Act.eval]);(simp [Act.eval]))
    clear hrun;go_wp2
    go_roundw
    case rel=>exact ⟨k+1,_,by omega,by go_num,HV3.out,HB3.out⟩
    case measure=>simp [intOf];omega
  ·obtain rfl:k=(d.groups.2 G).1:=by omega
   have x2:wr.cell? ⟨B,2,none⟩=some (.int .i64 (d.shape 2)):=(bw.cell (p:=⟨B,2,none⟩) hBlt).trans (HBX.out.cell 2);have RM:RdM wr wr.heap.size (.slice aoV (d.groups.2 G).1 capV) (d.groups.2 G).1 (rowN (d.groups.2 G).2 (d.groups.2 G).1 R) (rowM (d.groups.2 G).2 (d.groups.2 G).1 R):=V.rdM (by omega);have CD:=zfU D _ _ _ _ wr.heap.size wr RM (Nat.le_refl _) d1 d2 hn5 HFour.out HKF.out;rw [HD.out] at x2;clear hlt V RM hc9 bw
   go_wp2_with fail
   refine CD.mono ?_;rintro e w3 ⟨v3,t3,rfl,ht3,o3,b3⟩
   have HO:Hid (Own w3 wr.heap.size w3.heap.size v3 (if t3=true then 4*(d.shape 2).toNat else 0) (rowB d G R)):=by
    show Own w3 wr.heap.size w3.heap.size v3 _ (rowB d G R)
    unfold rowB;rw [show (d.shape 2).toNat=D by rw [HD.out];rfl];exact o3
   have HT3:=hid (ht3.trans HND.out.symm);have HB:=hid (HBW.out.trans (b3.mono zr))
   cases t3 with
   | false=>
    simp only [Bool.false_eq_true,if_false] at o3
    obtain ⟨ao3,cap3,rfl⟩:=o3.slice;clear o3 ht3 b3 CD x2 x9 c0';go_wp2
    go_ret2
    exact ⟨_,false,rfl,HT3.out,HO.out.weaken (by omega) (Nat.le_refl _),HB.out⟩
   | true=>
    simp only [if_pos] at o3
    obtain ⟨ao3,cap3,rfl⟩:=o3.slice;clear o3 ht3 b3 CD x2 x9 c0';go_wp2
    go_ret2
    exact ⟨_,true,rfl,by simpa using HT3.out,HO.out.weaken (by omega) (Nat.le_refl _),HB.out⟩
def zdh (f:Mat):Nat→Nat:=fun t=>f (t/4) (t%4)
theorem zjA (f:Mat) (k i:Nat) (hi:i<4):zdh f (4*k+i)=f k i:=by
 unfold zdh;rw [show (4*k+i)/4=k by omega,show (4*k+i)%4=i by omega]
def zfZ (h i:Nat):Value:=.slice (some ⟨h,4*i,none⟩) 4 4
structure FlatE (w:World) (lo hi:Nat) (v:Value) (R:Nat) (f:Mat) (g cap h C:Nat):Prop where
 val:v=.slice (some ⟨g,0,none⟩) R cap
 low:lo≤g
 high:g<hi
 row:w.ownsRow lo 69 1 v R (zal R (zfZ h))
 flat:Own w h (h+1) (.slice (some ⟨h,0,none⟩) (4*R) C) (4*R) (zdh f)
 hlow:lo≤h
 hhigh:h<hi
 ne:h≠g
theorem FlatE.blocks {w:World} {lo hi:Nat} {v:Value} {R:Nat} {f:Mat} {g cap h C:Nat} (H:FlatE w lo hi v R f g cap h C):g<w.heap.size∧h<w.heap.size:=by
 refine ⟨?_,(H.flat.1.lt h rfl).2⟩;have h1:=H.row;rw [H.val] at h1;exact (h1.lt g rfl).2
theorem FlatE.kept {w w':World} {lo hi:Nat} {v:Value} {R:Nat} {f:Mat} {g cap h C:Nat} (H:FlatE w lo hi v R f g cap h C) (h1:w'.heap[g]?=w.heap[g]?) (h2:w'.heap[h]?=w.heap[h]?):FlatE w' lo hi v R f g cap h C:=by
 refine ⟨H.val,H.low,H.high,zaU H.row fun q hq=>?_,H.flat.kept fun q hq=>?_,H.hlow,H.hhigh,H.ne⟩
 ·rw [H.val] at hq
  have e1:g=q:=by simpa [Value.ownBlock] using hq
  subst e1;exact h1
 ·have e1:h=q:=by simpa [Value.ownBlock] using hq
  subst e1;exact h2
theorem FlatE.below {w w':World} {lo hi B:Nat} {v:Value} {R:Nat} {f:Mat} {g cap h C:Nat} (H:FlatE w lo hi v R f g cap h C) (hb:Below B w w') (hB:hi≤B):FlatE w' lo hi v R f g cap h C:=
 H.kept (hb.block g (by have:=H.high;omega)) (hb.block h (by have:=H.hhigh;omega))
theorem FlatE.weaken {w:World} {lo hi lo' hi':Nat} {v:Value} {R:Nat} {f:Mat} {g cap h C:Nat} (H:FlatE w lo hi v R f g cap h C) (h1:lo'≤lo) (h2:hi≤hi'):FlatE w lo' hi' v R f g cap h C:=
 ⟨H.val,Nat.le_trans h1 H.low,Nat.lt_of_lt_of_le H.high h2,zcH H.row h1,H.flat,Nat.le_trans h1 H.hlow,Nat.lt_of_lt_of_le H.hhigh h2,H.ne⟩
theorem FlatE.cell {w:World} {lo hi:Nat} {v:Value} {R:Nat} {f:Mat} {g cap h C:Nat} (H:FlatE w lo hi v R f g cap h C) (i:Nat) (hi:i<R):w.cell? ⟨g,i,none⟩=some (zfZ h i):=by
 have hr:=H.row;rw [H.val] at hr;rw [hr.cellAt i (by omega),zaC R _ i hi]
theorem FlatE.at {w:World} {lo hi:Nat} {v:Value} {R:Nat} {f:Mat} {g cap h C:Nat} (H:FlatE w lo hi v R f g cap h C) (i j:Nat) (hi:i<R) (hj:j<4):w.cell? ⟨h,4*i+j,none⟩=some (.int .u8 (f i j)):=by
 rw [H.flat.1.cellAt (4*i+j) (by omega),zac _ _ _ (by omega),zjA f i j hj]
theorem FlatE.le {w:World} {lo hi:Nat} {v:Value} {R:Nat} {f:Mat} {g cap h C:Nat} (H:FlatE w lo hi v R f g cap h C):R≤maxLen:=by
 rcases H.row.2 with ⟨h1,h2⟩ | ⟨g',cap',cur,h1,_,_,hnc,hcm,_⟩
 ·rw [h2];exact Nat.zero_le _
 ·omega
theorem FlatE.rdRow {w:World} {lo hi:Nat} {v:Value} {R:Nat} {f:Mat} {g cap h C:Nat} (H:FlatE w lo hi v R f g cap h C) (i:Nat) (hR:i<R):Rd w hi (zfZ h i) 4 (f i):=
 ⟨_,_,rfl,by unfold maxLen;omega,fun _=>⟨h,4*i,rfl,H.hhigh,fun j hj=>H.at i j hR hj⟩⟩
theorem FlatE.rd {w:World} {lo hi:Nat} {v:Value} {R:Nat} {f:Mat} {g cap h C:Nat} (H:FlatE w lo hi v R f g cap h C):RdM w hi v R (fun _=>4) f:=
 ⟨_,cap,zfZ h,H.val,H.le,fun _=>⟨g,0,rfl,H.high,fun i hi=>by rw [Nat.zero_add];exact H.cell i hi⟩,fun i hi=>H.rdRow i hi⟩
theorem FlatE.set {w w':World} {lo hi:Nat} {v:Value} {R:Nat} {f f':Mat} {g cap h C:Nat} (H:FlatE w lo hi v R f g cap h C) (hf:Own w' h (h+1) (.slice (some ⟨h,0,none⟩) (4*R) C) (4*R) (zdh f')) (hc:Chg h (h+1) w w'):FlatE w' lo hi v R f' g cap h C:=by
 have b:=H.blocks;have hne:=H.ne;refine ⟨H.val,H.low,H.high,zaU H.row fun q hq=>?_,hf,H.hlow,H.hhigh,H.ne⟩;rw [H.val] at hq
 have e1:g=q:=by simpa [Value.ownBlock] using hq
 subst e1;exact hc.block g b.1 (by omega)
theorem zi8 {h C N off n b off2 lo hi:Nat} {F G:Nat→Nat} {l:Nat→Nat} {w wr:World} (hs:Own w lo hi (.slice (some ⟨h,0,none⟩) N C) N F) (hbw:b<w.heap.size) (hoff2:b=h→off2+n≤N)
 (hbo:(b<lo∨hi≤b)∨(b=h∧(off2+n≤off∨off+n≤off2))) {k:Nat} (hk:k<n) (hl:w.cell? ⟨b,off2+k,none⟩=some (.int .u8 (l k)))
 (hw:Own wr lo hi (.slice (some ⟨h,0,none⟩) N C) N (fun i=>if off≤i∧i<off+k then G i else F i)) (hc:Chg lo hi w wr):wr.cell? ⟨b,off2+k,none⟩=some (.int .u8 (l k)):=by
 rcases hbo with hbo | ⟨rfl,hbo⟩
 ·exact (World.cell?_of_block (hc.block b hbw hbo)).trans hl
 ·have hN:=hoff2 rfl
  rw [hs.1.cellAt (off2+k) (by omega),zac _ _ _ (by omega)] at hl;rw [hw.1.cellAt (off2+k) (by omega),zac _ _ _ (by omega),if_neg (by omega)];exact hl
theorem zf0 (h C N off n:Nat) (F l G:Nat→Nat) (c:Nat) (lo hi b off2 cap0 cap:Nat) (w:World) (hs:Own w lo hi (.slice (some ⟨h,0,none⟩) N C) N F) (hoff:off+n≤N) (hhi:hi≤w.heap.size) (hbw:b<w.heap.size) (hoff2:b=h→off2+n≤N)
 (hbo:(b<lo∨hi≤b)∨(b=h∧(off2+n≤off∨off+n≤off2)))
 (hl:∀ i,i<n→w.cell? ⟨b,off2+i,none⟩=some (.int .u8 (l i))) (hlo:lo≤h) (hgh:h<hi)
 (kf:∀ i,F i<256) (kl:∀ i,l i<256) (hc:c<256) (hg:∀ i,i<N→G i=if off≤i∧i<off+n then F i ^^^ mulN c (l (i-off)) else F i) (hn:n≤1000000000) :
 Calls Tryz.prog 76 #[.slice (some ⟨h,off,none⟩) n cap0,.slice (some ⟨b,off2,none⟩) n cap,.int .u8 c] w fun e w'=>e=.returned (.tuple #[])∧Own w' lo hi (.slice (some ⟨h,0,none⟩) N C) N G∧Chg lo hi w w':=by
 have HG:=hid hg;have KC:Hid (∀ (wr:World) (k:Nat),k<n→Own wr lo hi (.slice (some ⟨h,0,none⟩) N C) N (fun i=>if off≤i∧i<off+k then G i else F i)→Chg lo hi w wr→wr.cell? ⟨b,off2+k,none⟩=some (.int .u8 (l k))):=fun wr k hk hw hch=>zi8 hs hbw hoff2 hbo hk (hl k hk) hw hch;clear hg hl hbo hoff2
 go_enter Tryz.func76,Tryz.ntmps76
 go_wp2_with (go_at_call 97;refine (zbI _ hc _).mono ?_;rintro e w1 ⟨rfl,hb1⟩;rw [T8])
 have hz1:=hb1.size;have hbx:Box (w1.alloc (.cells (tabV c) 128)) w1.heap.size (tabV c) 128:=zaD _ _ _;have hch:Chg lo hi w (w1.alloc (.cells (tabV c) 128)):=(Below.chg hb1 lo hi).trans (Below.chg ((Below.refl _ _).alloc (Nat.le_refl _) _) lo hi);have hown0:=((hs.below hb1 hhi).alloc (.cells (tabV c) 128)).congr (g:=fun i=>if off≤i∧i<off+0 then G i else F i) (fun i hi=>by rw [if_neg (by omega)])
 have hzz:w1.heap.size<(w1.alloc (.cells (tabV c) 128)).heap.size:=by simp
 go_loopw [7,12] (fun _ i wr=>∃ k:Nat,k≤n∧i=.int .i64 k∧Own wr lo hi (.slice (some ⟨h,0,none⟩) N C) N (fun i=>if off≤i∧i<off+k then G i else F i)∧Chg lo hi w wr∧Box wr w1.heap.size (tabV c) 128) (fun _ i _=>n-(intOf i).toNat)
 case atStart=>exact ⟨0,Nat.zero_le _,rfl,hown0,hch,hbx⟩
 case round=>
  clear hbx hch hown0 hzz;obtain ⟨k,hk,rfl,hown,hchg,hbox⟩:=hrel
  by_cases hlt:k<n
  ·have hck:wr.cell? ⟨b,off2+k,none⟩=some (.int .u8 (l k)):=KC.out wr k hlt hown hchg
   have hco:wr.cell? ⟨h,off+k,none⟩=some (.int .u8 (F (off+k))):=by
    have:=hown.1.cellAt (off+k) (by omega);rw [this,zac _ _ _ (by omega),if_neg (by omega)]
   have hfo:wr.frozen? ⟨h,off+k,none⟩=false:=hown.1.frozenAt (off+k);have hlk:=kl k
   have hx:bits .xor .u8 (F (off+k):Int) (mulN c (l k):Int)=((G (off+k):Nat):Int):=by rw [u8_xor_nat _ _ (kf _) (za2 hc),HG.out (off+k) (by omega),if_pos ⟨by omega,by omega⟩,show off+k-off=k by omega]
   obtain ⟨e0,e1,e2,e3,e4,e5,e6,e7⟩:=box8 hbox;have hzr:=hchg.size;have hbz:=hbox.lt
   have y1:b<wr.heap.size:=by omega
   have y2:h<wr.heap.size:=by omega
   have hoN:off+k<N:=by omega
   go_wp2
   go_region_with (go_at_call 98;refine (zct _ _ hc hlk _).mono ?_;rintro e w2 ⟨rfl,hb2⟩;have q1:w2.cell? ⟨h,off+k,none⟩=some (.int .u8 (F (off+k))):=(hb2.cell (p:=⟨h,off+k,none⟩) y2).trans hco;have q2:w2.frozen? ⟨h,off+k,none⟩=false:=(hb2.frozen (p:=⟨h,off+k,none⟩) y2).trans hfo)
   all_goals
    have hown2:Own w2 lo hi (.slice (some ⟨h,0,none⟩) N C) N (fun i=>if off≤i∧i<off+k then G i else F i):=hown.drew.below hb2 (by show hi≤wr.heap.size;omega)
    have R:Own (w2.setCell ⟨h,off+k,none⟩ (.int .u8 (G (off+k)))) lo hi (.slice (some ⟨h,0,none⟩) N C) N (fun i=>if off≤i∧i<off+(k+1) then G i else F i):=
     hown2.store (off+k) (G (off+k)) hoN (fun i _=>by
      by_cases e:i=off+k
      ·subst e
       rw [if_pos rfl,if_pos ⟨by omega,by omega⟩]
      ·rw [if_neg e]
       by_cases e':off≤i∧i<off+k
       ·rw [if_pos e',if_pos ⟨e'.1,by omega⟩]
       ·rw [if_neg e',if_neg (by omega)])
    have C2:Chg lo hi wr.drew (w2.setCell ⟨h,off+k,none⟩ (.int .u8 (G (off+k)))):=(Below.chg hb2 lo hi).trans (za3 w2 lo hi h (off+k) _ hlo hgh).chg;have R2:Chg lo hi w (w2.setCell ⟨h,off+k,none⟩ (.int .u8 (G (off+k)))):=hchg.drew.trans C2;have R3:Box (w2.setCell ⟨h,off+k,none⟩ (.int .u8 (G (off+k)))) w1.heap.size (tabV c) 128:=Box.chg (w:=wr.drew) hbox C2 (.inr (by omega));clear hown hown2 hchg hbox hb2 C2 e0 e1 e2 e3 e4 e5 e6 e7;go_wp2
    go_roundw
    case rel=>exact ⟨k+1,by omega,by go_num,R,R2,R3⟩
    case measure=>simp [intOf];omega
  ·have hkn:k=n:=by omega
   subst hkn
   have hfin:=hown.congr (g:=G) (fun i hi=>by
    by_cases e':off≤i∧i<off+k
    ·rw [if_pos e']
    ·rw [if_neg e',HG.out i hi,if_neg e'])
   clear hown;go_wp2
   go_end0
   exact ⟨rfl,hfin,hchg⟩
theorem zi9 (b:Nat→Nat) (t:Nat):zdh (cutN b) t=b t:=by
 unfold zdh cutN;rw [show 4*(t/4)+t%4=t by omega]
theorem zfm (h C R lo hi:Nat) (b:Nat→Nat) (w:World) (hs:Own w lo hi (.slice (some ⟨h,0,none⟩) (4*R) C) (4*R) b) (hhi:hi≤w.heap.size) (hR:R≤1000) :
 Calls Tryz.prog 73 #[.slice (some ⟨h,0,none⟩) (4*R) C] w fun e w'=>∃ v',e=.returned v'∧(∃ cap,FlatE w' lo w'.heap.size v' R (cutN b) w.heap.size cap h C)∧Below w.heap.size w w':=by
 have hlt0:=hs.1.lt h rfl
 have hC:4*R≤C:=by
  rcases hs.1.2 with ⟨h',_⟩ | ⟨g',cap',cur,h',_,hg,hle,_⟩
  ·cases h'
  ·cases h';exact hle
 have hF:Own w h (h+1) (.slice (some ⟨h,0,none⟩) (4*R) C) (4*R) (zdh (cutN b)):=(hs.tight).congr (fun i _=>(zi9 b i).symm);have HF:=hid hF;have hhw:h<w.heap.size:=hlt0.2;have hlh:lo≤h:=hlt0.1;clear hs hF hlt0;obtain ⟨N,hN⟩:∃ N,N=4*R:=⟨_,rfl⟩;rw [← hN];have hq0:(N:Int).tdiv 4=(N:Int)/4:=Int.tdiv_eq_ediv_of_nonneg (by omega)
 have hq:(N:Int).tdiv 4=(R:Int):=by omega
 have HN:=hid hN
 have hNC:N≤C:=by omega
 have hN4:N≤4000:=by omega
 clear hN hC
 go_enter Tryz.func73,Tryz.ntmps73
 go_wp2_with (at_make;refine zdP _ rfl _ _ rfl _ _ R rfl rfl (by first | rfl | omega | simp [hq]) (by first | rfl | omega | simp [hq]) (by omega) ?_;intro w1 hown1 hb1 hz1)
 go_loopw [4,5,6,13] (fun _ _ _ i wr=>∃ k:Nat,k≤R∧i=.int .i64 k∧wr.ownsRow w.heap.size 69 1 (.slice (some ⟨w.heap.size,0,none⟩) R R) R (zal R fun i=>if i<k then zfZ h i else nilS)∧Below w.heap.size w wr) (fun _ _ _ i _=>R-(intOf i).toNat)
 case atStart=>exact ⟨0,Nat.zero_le _,rfl,by rw [zbj (g:=fun _=>nilS) (fun i hi=>by simp)];exact hown1,hb1⟩
 case round=>
  clear hown1 hb1 hz1;obtain ⟨k,hk,rfl,hrow,hbel⟩:=hrel
  by_cases hlt:k<R
  ·obtain ⟨A,hA⟩:∃ A,A=4*k:=⟨_,rfl⟩
   have a1:IntKind.i64.wrap ((k:Int)*4)=(A:Int):=by rw [IntKind.wrap_i64];omega
   have a3:IntKind.i64.wrap (((k:Int)+1)*4)=(A:Int)+4:=by rw [IntKind.wrap_i64];omega
   have a4:(k:Int)*4=(A:Int):=by omega
   have a5:((k:Int)+1)*4=(A:Int)+4:=by omega
   have a6:(A:Int)+4≤(C:Int):=by have:=HN.out;omega
   have c1:wr.cell? ⟨w.heap.size,k,none⟩=some nilS:=by rw [hrow.cellAt k (by omega),zaC _ _ _ hlt,if_neg (Nat.lt_irrefl k)]
   have c2:wr.frozen? ⟨w.heap.size,k,none⟩=false:=hrow.frozenAt k;have hst:=(hrow.stored k (.slice (some ⟨h,A,none⟩) 4 4)).1
   rw [zbc R _ (fun i=>if i<k+1 then zfZ h i else nilS) k _ hlt (fun i hi=>by
    by_cases c:i=k
    ·subst c;simp [zfZ,hA]
    ·by_cases c':i<k
     ·have c2:i<k+1:=by omega
      simp [c,c',c2]
     ·have c2:¬ i<k+1:=by omega
      simp [c,c',c2])] at hst
   have RB:Below w.heap.size w (wr.setCell ⟨w.heap.size,k,none⟩ (.slice (some ⟨h,A,none⟩) 4 4)):=hbel.setCell (Nat.le_refl _) _;clear hA hrow hbel;go_wp2
   go_roundw
   case rel=>exact ⟨k+1,by omega,by go_num,hst,RB⟩
   case measure=>simp [intOf];omega
  ·obtain rfl:k=R:=by omega
   rw [zbj (g:=zfZ h) (fun i hi=>by simp [hi])] at hrow;have hw2:=(hrow.lt _ rfl).2;have hsz:=hbel.size;go_wp2;go_ret;exact ⟨_,rfl,⟨k,rfl,by omega,hw2,zcH hrow (by omega),HF.out.below hbel (by omega),hlh,by omega,by omega⟩,hbel⟩
def wayN (D:Nat) (b:Nat→Nat) (K M:Nat):Mat:=fun i j=>if i<K then encN D b i j else if i=K then mixN (cutN b) (genN D K 0) M j else 0
theorem zhk {D:Nat} {b:Nat→Nat} (kb:∀ i,b i<256) (K M:Nat):Byt (wayN D b K M):=fun i j=>by
 unfold wayN
 split
 ·exact zhg kb i j
 ·split
  ·exact zdp _ _ (zbY D K 0) _ _
  ·omega
theorem zh8 {D S:Nat} {b b0:Nat→Nat} (h:∀ i,i<4*(D+S)→b0 i=if i<4*D then b i else 0) (i j:Nat) (hi:i<D+S) (hj:j<4):cutN b0 i j=wayN D b D 0 i j:=by
 unfold cutN wayN;rw [h (4*i+j) (by omega)]
 by_cases c:i<D
 ·rw [if_pos (by omega),if_pos c]
  simp [encN,c,cutN]
 ·rw [if_neg (by omega),if_neg c]
  split<;>rfl
theorem zja {D:Nat} {b:Nat→Nat} {K:Nat} (hK:D≤K) (i j:Nat):wayN D b K D i j=wayN D b (K+1) 0 i j:=by
 unfold wayN
 by_cases c:i<K
 ·rw [if_pos c,if_pos (by omega)]
 ·rw [if_neg c]
  by_cases c2:i=K
  ·subst c2
   rw [if_pos rfl,if_pos (by omega)]
   simp [encN,show ¬ i<D by omega]
  ·rw [if_neg c2,if_neg (by omega)]
   split<;>rfl
theorem zjb {D:Nat} {b:Nat→Nat} {K M i:Nat} (hK:D≤K) (hi:i<D) (j:Nat):wayN D b K M i j=cutN b i j:=by
 unfold wayN;rw [if_pos (by omega)]
 simp [encN,hi]
theorem zjc {D R:Nat} {b:Nat→Nat} {K M:Nat} (hK:D≤K) (hM:M<D) (t:Nat) :
 zdh (wayN D b K (M+1)) t=if 4*K≤t∧t<4*K+4 then zdh (wayN D b K M) t ^^^ mulN (genN D K 0 M) (wayN D b K M M (t-4*K)) else zdh (wayN D b K M) t:=by
 unfold zdh
 by_cases c:4*K≤t∧t<4*K+4
 ·rw [if_pos c,zjb hK hM]
  have e1:t/4=K:=by omega
  have e2:t%4=t-4*K:=by omega
  rw [e1,e2]
  simp [wayN,mixN]
 ·rw [if_neg c]
  have e1:t/4≠K:=by omega
  simp [wayN,e1]
theorem FlatE.congr {w:World} {lo hi:Nat} {v:Value} {R:Nat} {f f':Mat} {g cap h C:Nat} (H:FlatE w lo hi v R f g cap h C) (e:∀ i j,i<R→j<4→f i j=f' i j):FlatE w lo hi v R f' g cap h C:=
 ⟨H.val,H.low,H.high,H.row,H.flat.congr (fun t ht=>e (t/4) (t%4) (by omega) (by omega)),H.hlow,H.hhigh,H.ne⟩
theorem zh9 (vb v2:Value) (n m:Nat) (b:Nat→Nat) (h1 h2:Nat) (w:World) (r1:Rd w h1 vb n b) (r2:Rd w h2 v2 m (fun _=>0)) (b1:h1≤w.heap.size) (b2:h2≤w.heap.size) (hn:n≤1000000) (hm:m≤1000000) :
 Calls Tryz.prog 74 #[vb,v2] w fun e w'=>∃ v',e=.returned v'∧Own w' w.heap.size w'.heap.size v' (n+m) (fun i=>if i<n then b i else 0)∧Below w.heap.size w w':=by
 by_cases h0:m=0
 ·subst h0
  refine (zeA vb v2 n b _ h1 h2 w r1 r2 b1 hn).mono fun e w' ⟨v',he,ho,hb⟩=>⟨v',he,?_,hb⟩;exact ho.congr (fun i hi=>by simp [hi])
 ·exact zd8 vb v2 n m b (fun _=>0) (fun i=>if i<n then b i else 0) h1 h2 w r1 r2 b1 b2 hn hm (by omega) (fun i _=>rfl)
theorem zf1 (D S:Nat) (hD1:1≤D) (hD:D≤3) (hS:S≤2) (vb:Value) (b:Nat→Nat) (h1:Nat) (w:World) (rb:Rd w h1 vb (4*D) b) (hh:h1≤w.heap.size) (kb:∀ i,b i<256) :
 Calls Tryz.prog 43 #[.int .i64 D,.int .i64 S,vb] w fun e w'=>∃ v',e=.returned v'∧(∃ g cap h C,FlatE w' w.heap.size w'.heap.size v' (D+S) (encN D b) g cap h C)∧Below w.heap.size w w':=by
 have R1:=fun (w1:World) (hb:Below w.heap.size w w1)=>rb.below hb hh;obtain ⟨aob,capb,rfl,hmb,hcb⟩:=rb;clear hcb hmb;have HR1:=hid R1;clear R1
 have hs4:(S:Int)*4=((4*S:Nat):Int):=by omega
 obtain ⟨Q,hQ⟩:∃ Q,Q=4*S:=⟨_,rfl⟩;rw [← hQ] at hs4;have HQ:=hid hQ
 have hQ8:Q≤8:=by omega
 obtain ⟨P,hP⟩:∃ P,P=4*D:=⟨_,rfl⟩;rw [← hP] at HR1 ⊢;have HP:=hid hP
 have hP12:P≤12:=by omega
 clear hQ hP
 go_enter Tryz.func43,Tryz.ntmps43
 go_wp2_with (at_make;refine za9 _ rfl _ _ rfl _ _ Q rfl rfl (by first | omega | simp [hs4]) (by first | omega | simp [hs4]) (by omega) ?_;intro w1 hown1 hb1 hz1)
 refine (zh9 _ _ P Q b h1 w1.heap.size w1 (HR1.out w1 hb1) hown1.rd (Nat.le_trans hh hb1.size) (Nat.le_refl _) (by omega) (by omega)).mono ?_;rintro e w2 ⟨v2,rfl,o2,b2⟩;have B2:Below w.heap.size w w2:=hb1.trans (b2.mono hb1.size)
 have hPQ:P+Q=4*(D+S):=by rw [HP.out,HQ.out];omega
 rw [hPQ] at o2;obtain ⟨h,C,rfl,hlo,hhi,hhw,hcap⟩:=o2.form (by omega);have s1:=hb1.size;have s2:=b2.size;clear hown1 hb1 b2 hz1;have CB:=zfm h C (D+S) w.heap.size w2.heap.size _ w2 (o2.weaken s1 (Nat.le_refl _)) (Nat.le_refl _) (by omega);obtain ⟨T,hT⟩:∃ T,T=4*(D+S):=⟨_,rfl⟩;rw [← hT] at CB ⊢;have HT:=hid hT;clear o2 hT hPQ
 go_wp2_with fail
 refine CB.mono ?_;rintro e w3 ⟨v3,rfl,⟨cap3,F3⟩,b3⟩;have B3:Below w.heap.size w w3:=B2.trans (b3.mono B2.size);have F3':FlatE w3 w.heap.size w3.heap.size v3 (D+S) (wayN D b D 0) w2.heap.size cap3 h C:=F3.congr (fun i j hi hj=>zh8 (S:=S) (fun t ht=>by rw [← HP.out]) i j hi hj);have hv3:=F3.val;subst hv3;have z3:w3.heap.size≤w3.heap.size:=Nat.le_refl _
 have hgne:h≠w2.heap.size:=by omega
 clear F3 b3 CB B2 HR1;go_wp2
 go_loopw [8] (fun p wr=>∃ P:Nat,D≤P∧P≤D+S∧p=.int .i64 P∧FlatE wr w.heap.size w3.heap.size (.slice (some ⟨w2.heap.size,0,none⟩) (D+S) cap3) (D+S) (wayN D b P 0) w2.heap.size cap3 h C∧Below w.heap.size w wr∧w3.heap.size≤wr.heap.size) (fun p _=>D+S-(intOf p).toNat)
 case atStart=>exact ⟨D,Nat.le_refl _,by omega,rfl,F3',B3,Nat.le_refl _⟩
 case round=>
  clear F3' B3;obtain ⟨P,hP1,hP2,rfl,hF,hbel,hsz⟩:=hrel;have hhw3:h<w3.heap.size:=hF.hhigh;have hgw3:w2.heap.size<w3.heap.size:=hF.high
  by_cases hlt:P<D+S
  ·have hlti:(P:Int)<(D:Int)+(S:Int):=by omega
   have CF:=zch D P (by omega) (by omega) wr;have HF:=hid hF;have HBL:=hid hbel;obtain ⟨wk,hwk⟩:∃ wk,wk=wr:=⟨_,rfl⟩;rw [← hwk] at CF HF HBL hsz ⊢;clear hF hbel hwk
   go_wp2_with fail
   refine CF.mono ?_;rintro e w6 ⟨v6,rfl,o6,b6⟩;obtain ⟨gv,capv,hgv,h61,h62,h63,h64⟩:=o6.form (by omega);subst hgv;have F6:=HF.out.below b6 hsz;have B6:Below w.heap.size w w6:=HBL.out.trans (b6.mono HBL.out.size);have s6:=b6.size;clear CF b6 HF HBL;go_wp2
   go_loopw [29] (fun i wr=>∃ m:Nat,m≤D∧i=.int .i64 m∧FlatE wr w.heap.size w3.heap.size (.slice (some ⟨w2.heap.size,0,none⟩) (D+S) cap3) (D+S) (wayN D b P m) w2.heap.size cap3 h C∧Own wr wk.heap.size w6.heap.size (.slice (some ⟨gv,0,none⟩) D capv) D (genN D P 0)∧Below w.heap.size w wr∧w6.heap.size≤wr.heap.size) (fun i _=>D-(intOf i).toNat)
   case atStart=>exact ⟨0,Nat.zero_le _,rfl,F6,o6,B6,Nat.le_refl _⟩
   case round=>
    clear F6 o6 B6;obtain ⟨m,hm,rfl,hF,ho,hbel,hsz6⟩:=hrel
    by_cases hmD:m<D
    ·obtain ⟨A,hA⟩:∃ A,A=4*P:=⟨_,rfl⟩
     obtain ⟨B,hB⟩:∃ B,B=4*m:=⟨_,rfl⟩;obtain ⟨y,hy⟩:∃ y,y=genN D P 0 m:=⟨_,rfl⟩
     have c1:wr.cell? ⟨w2.heap.size,P,none⟩=some (.slice (some ⟨h,A,none⟩) 4 4):=by rw [hA];exact hF.cell P hlt
     have c2:wr.cell? ⟨w2.heap.size,m,none⟩=some (.slice (some ⟨h,B,none⟩) 4 4):=by rw [hB];exact hF.cell m (by omega)
     have c3:wr.cell? ⟨gv,m,none⟩=some (.int .u8 y):=by rw [hy];exact (ho.1.cellAt m (by omega)).trans (zac _ _ _ hmD)
     have HF:=hid hF;have HO:=hid ho;have HBL:=hid hbel;have HA:=hid hA;have HB:=hid hB;have HY:=hid hy
     have hmS:m<D+S:=by omega
     have hhr:h<wr.heap.size:=by omega
     have CA:∀ q,Calls Tryz.prog 76 #[.slice (some ⟨h,A,none⟩) 4 4,.slice (some ⟨h,B,none⟩) 4 4,.int .u8 y] (wr.drewN q) fun e w'=>e=.returned (.tuple #[])∧Own w' h (h+1) (.slice (some ⟨h,0,none⟩) (4*(D+S)) C) (4*(D+S)) (zdh (wayN D b P (m+1)))∧Chg h (h+1) (wr.drewN q) w':=fun q=>
      zf0 h C (4*(D+S)) A 4 (zdh (wayN D b P m)) (wayN D b P m m) (zdh (wayN D b P (m+1))) y h (h+1) h B 4 4 (wr.drewN q) hF.flat (by omega) hhr hhr (fun _=>by omega) (.inr ⟨rfl,.inl (by omega)⟩) (fun i hi=>by rw [hB];exact hF.at m i hmS hi) (Nat.le_refl _) (Nat.lt_succ_self _)
       (fun i=>zhk kb P m _ _) (fun i=>zhk kb P m _ _) (by rw [hy];exact zbY D P 0 m) (fun t _=>by rw [hA,hy];exact zjc (R:=0) hP1 hmD t) (by omega)
     have CA1:=CA 1;clear hF ho hbel hA hB hy CA;go_wp2
     go_region_with (go_at_call 76;refine CA1.mono ?_;rintro e w7 ⟨rfl,o7,ch7⟩)
     all_goals
      have F7:=(HF.out.kept (w':=wr.drewN 1) rfl rfl).set o7 ch7;have O7:Own w7 wk.heap.size w6.heap.size (.slice (some ⟨gv,0,none⟩) D capv) D (genN D P 0):=(show Own (wr.drewN 1) wk.heap.size w6.heap.size (.slice (some ⟨gv,0,none⟩) D capv) D (genN D P 0) from HO.out).chg ch7 (.inr (by omega));have B7:Below w.heap.size w w7:=(below_drewN HBL.out 1).trans (ch7.below (by omega) HBL.out.size);have S7:w6.heap.size≤w7.heap.size:=Nat.le_trans hsz6 ch7.size;clear o7 ch7 HF HO HBL CA1 c1 c2 c3;go_wp2
      go_roundw
      case rel=>exact ⟨m+1,by omega,by go_num,F7,O7,B7,S7⟩
      case measure=>simp [intOf];omega
    ·obtain rfl:m=D:=by omega
     have F8:=hF.congr (f':=wayN m b (P+1) 0) (fun i j _ _=>zja hP1 i j);clear hF ho;go_wp2
     go_roundw
     case rel=>exact ⟨P+1,by omega,by omega,by go_num,F8,hbel,by omega⟩
     case measure=>simp [intOf];omega
  ·obtain rfl:P=D+S:=by omega
   have F9:=hF.congr (f':=encN D b) (fun i j hi _=>by simp [wayN,hi])
   have hlti:¬ (((D+S:Nat):Int)<(D:Int)+(S:Int)):=by omega
   clear hF;go_wp2;go_ret;exact ⟨_,rfl,⟨_,_,_,_,F9.weaken (Nat.le_refl _) hsz⟩,hbel⟩
end Go.Proofs.YtfhgcadinjfooaaGreat
