/- A whole struct stored into a block and told from one, in one step each. -/
import Derived.Test.YtkmglpaaeogapaaGreatZPwipedag
set_option linter.unusedVariables false
set_option linter.unusedSimpArgs false
set_option maxHeartbeats 16000000
namespace Go.Proofs.YtkmglpaaeogapaaGreat
open Go.RowKit F256
theorem ze3 {w:World} (b:Nat) (cs:Array Value):ChgL [b] w (w.setRow b cs):=
 ⟨rfl,rfl,rfl,by simp,fun k _ hn=>setRow_other w b k cs (fun h=>hn (by simp [h]))⟩
theorem zbP {ops:Array Oper} {rest:List Oper} {o:Oper} {a:Act} {w:World} {Q:Exit→Act→World→Prop} (T:TypeId) (x y:Operand) (ho:o.op=.store T x y) (hgd:o.guard=none) (b:Nat) (hx:a.eval x=.pointer (some ⟨b,0,none⟩)) {cs old:List Value} (hy:a.eval y=.agg cs.toArray) (hB:Box w b old.toArray T) {n:Nat} (hi:(Tryz.prog.info? T).map (·.size)=some n) (hl:cs.length=n) (hol:old.length=n) (h1:∀ v,v∈cs→v.oneCell'=true)
 (h:∀ w',Box w' b cs.toArray T→ChgL [b] w w'→w'.heap.size=w.heap.size→wpList Tryz.prog ops Q rest (a.put o.dst undef) w'):wpList Tryz.prog ops Q (o::rest) a w:=by
 refine wpList_store_row hgd T x y ho b cs.toArray hx hy T old.toArray hB (by rw [hi];simp [hl]) (by simp [hl,hol]) (by simp;exact h1) ?_;exact h _ (setRow_heap w b _ cs.toArray T (0,0) hB) (ze3 b _) (by simp)
theorem zdM {fn:Func} {R:Ending→World→Prop} {a:Act} {w:World} {p:Tmp} {ty:TypeId} (h:fn.results=#[.cell p ty]) {b:Nat} {cs:List Value} (hp:a.tmps.getD p undef=.pointer (some ⟨b,0,none⟩)) (hB:Box w b cs.toArray ty) {fs:Array Field} (hu:Tryz.prog.underlying ty=some (.struct fs)) {n:Nat} (hi:(Tryz.prog.info? ty).map (·.size)=some n) (hl:cs.length=n) (hd:a.defers=[]) (hR:R (.returned (.agg cs.toArray)) w):bodyPost Tryz.prog fn R .ret a w:=
 bodyPost_ret (results_cell_row h a.tmps w b ty cs.toArray (0,0) (.struct fs) hp hB hu rfl (by rw [hi];simp [hl])) hd hR
theorem OwnT.chgk {α:Type} {A:Lay α} {w w':World} {lo hi:Nat} {a:α} {cs:List Value} {K:List Nat} (h:OwnT A w lo hi a cs) (hc:ChgL K w w') (hK:∀ b,b∈K→b<lo∨hi≤b):OwnT A w' lo hi a cs:=by
 obtain ⟨M,h1,h2,h3⟩:=h;exact ⟨M,A.own_kept h1 (fun b hb=>hc.block b (A.own_lt h1 b hb) (fun hh=>by have:=hK b hh;have:=h3 b hb;omega)),h2,h3⟩
set_option maxRecDepth 20000 in
theorem zbQ (d:WorldD) (hs:zaj d.shape) (cs:List Value) (hi:Nat) (w:World) (h:zae.rd w hi d cs) (hhi:hi≤w.heap.size) :
 Calls Tryz.prog 47 #[.agg cs.toArray] w (za8 (zbU d) w):=by
 obtain ⟨ao1,cap1,ao2,cap2,ao3,cap3,rfl,g1,-⟩:=zaB h;clear h;obtain ⟨_,_,e1,hm1,hc1⟩:=g1
 cases e1
 unfold maxLen at hm1;have HC1:=hid hc1;have HS:=hid hs;clear hc1 hs
 go_enter Tryz.func47,Tryz.ntmps47
 go_upto_region 2 with fail
 have T0:=zaC w (rwW d ao1 cap1 ao2 cap2 ao3 cap3).toArray (rwS d.shape).toArray 37 33;obtain ⟨W,hW⟩:∃ W,W=(w.alloc (.cells (rwW d ao1 cap1 ao2 cap2 ao3 cap3).toArray 37)).alloc (.cells (rwS d.shape).toArray 33):=⟨_,rfl⟩;rw [← hW] at T0 ⊢;have HT:=hid T0;clear hW;have x0_9:W.cell? ⟨w.heap.size,9,none⟩=some (.slice ao1 d.groups.1 cap1):=T0.b1.cell 9;have kx0_9:=cell_regrown x0_9;have y0_0:W.cell? ⟨w.heap.size+1,0,none⟩=some (.int .i64 (d.shape 0)):=T0.b2.cell 0;have ky0_0:=cell_regrown y0_0;have y0_1:W.cell? ⟨w.heap.size+1,1,none⟩=some (.int .i64 (d.shape 1)):=T0.b2.cell 1;have ky0_1:=cell_regrown y0_1;have y0_2:W.cell? ⟨w.heap.size+1,2,none⟩=some (.int .i64 (d.shape 2)):=T0.b2.cell 2;have ky0_2:=cell_regrown y0_2;have y0_3:W.cell? ⟨w.heap.size+1,3,none⟩=some (.int .i64 (d.shape 3)):=T0.b2.cell 3;have ky0_3:=cell_regrown y0_3;have y0_4:W.cell? ⟨w.heap.size+1,4,none⟩=some (.int .i64 (d.shape 4)):=T0.b2.cell 4;have ky0_4:=cell_regrown y0_4;have y0_5:W.cell? ⟨w.heap.size+1,5,none⟩=some (.int .i64 (d.shape 5)):=T0.b2.cell 5;have ky0_5:=cell_regrown y0_5;have y0_6:W.cell? ⟨w.heap.size+1,6,none⟩=some (.int .i64 (d.shape 6)):=T0.b2.cell 6;have ky0_6:=cell_regrown y0_6;have y0_7:W.cell? ⟨w.heap.size+1,7,none⟩=some (.int .i64 (d.shape 7)):=T0.b2.cell 7;have ky0_7:=cell_regrown y0_7;have y0_8:W.cell? ⟨w.heap.size+1,8,none⟩=some (.int .i64 (d.shape 8)):=T0.b2.cell 8
 have ky0_8:=cell_regrown y0_8;clear T0;have cA:=zap (W:=W) (fun w' _=>za5 d.shape HS.out w');unfold zac at cA
 by_cases hlen:(d.groups.1:Int)=d.shape 0+d.shape 1
 ·have hne:((d.groups.1:Int) != d.shape 0+d.shape 1)=false:=by simpa using hlen
  have HLEN:=hid hlen;clear hlen;refine WQ.region (by kernel_rfl) (by kernel_rfl) ?_
  repeat (first | (apply WQ.skip;(case hw=>rfl);intro K hK;go_simp;apply hK;clear hK K) | (apply WQ.want;(case hw=>rfl);intro K hK;go_simp;first | (apply hK;clear hK K) | (apply Exists.intro;apply And.intro;(case left=>intro p;(first | (go_at_call 49;exact cA _ _)));apply hK;clear hK K)))
  refine WQ.nil ?_;intro w1 hw1;have HT1:=hid (HT.out.call (zaw hw1));clear hw1 cA x0_9 kx0_9 y0_0 ky0_0 y0_1 ky0_1 y0_2 ky0_2 y0_3 ky0_3 y0_4 ky0_4 y0_5 ky0_5 y0_6 ky0_6 y0_7 ky0_7 y0_8 ky0_8;go_wp2
  go_loopw [4] (fun i wr=>∃ k:Nat,k≤d.groups.1∧i=.int .i64 k∧(∀ i,i<k→zdB d.shape (d.groups.2 i))∧Two w wr (rwW d ao1 cap1 ao2 cap2 ao3 cap3).toArray (rwS d.shape).toArray 37 33) (fun i _=>d.groups.1-(intOf i).toNat)
  case atStart=>exact ⟨0,Nat.zero_le _,rfl,fun i hi=>by omega,HT1.out⟩
  case round=>
   clear HT1;obtain ⟨k,hk,rfl,hal,T2⟩:=hrel;obtain ⟨wo,rfl⟩:∃ x,x=wr:=⟨_,rfl⟩;have HAL:=hid hal;have HT2:=hid T2;clear hal;have x2_9:wo.cell? ⟨w.heap.size,9,none⟩=some (.slice ao1 d.groups.1 cap1):=T2.b1.cell 9;have kx2_9:=cell_regrown x2_9;have y2_0:wo.cell? ⟨w.heap.size+1,0,none⟩=some (.int .i64 (d.shape 0)):=T2.b2.cell 0;have ky2_0:=cell_regrown y2_0;have y2_1:wo.cell? ⟨w.heap.size+1,1,none⟩=some (.int .i64 (d.shape 1)):=T2.b2.cell 1;have ky2_1:=cell_regrown y2_1;have y2_2:wo.cell? ⟨w.heap.size+1,2,none⟩=some (.int .i64 (d.shape 2)):=T2.b2.cell 2;have ky2_2:=cell_regrown y2_2;have y2_3:wo.cell? ⟨w.heap.size+1,3,none⟩=some (.int .i64 (d.shape 3)):=T2.b2.cell 3;have ky2_3:=cell_regrown y2_3;have y2_4:wo.cell? ⟨w.heap.size+1,4,none⟩=some (.int .i64 (d.shape 4)):=T2.b2.cell 4;have ky2_4:=cell_regrown y2_4;have y2_5:wo.cell? ⟨w.heap.size+1,5,none⟩=some (.int .i64 (d.shape 5)):=T2.b2.cell 5;have ky2_5:=cell_regrown y2_5;have y2_6:wo.cell? ⟨w.heap.size+1,6,none⟩=some (.int .i64 (d.shape 6)):=T2.b2.cell 6;have ky2_6:=cell_regrown y2_6;have y2_7:wo.cell? ⟨w.heap.size+1,7,none⟩=some (.int .i64 (d.shape 7)):=T2.b2.cell 7;have ky2_7:=cell_regrown y2_7;have y2_8:wo.cell? ⟨w.heap.size+1,8,none⟩=some (.int .i64 (d.shape 8)):=T2.b2.cell 8;have ky2_8:=cell_regrown y2_8
   by_cases hlt:k<d.groups.1
   ·obtain ⟨b1,off1,he1,hb1,hel1⟩:=HC1.out (by omega)
    subst he1;have HEL:=hid hel1;obtain ⟨ck,hrk,hcell⟩:=zar (t:=0) hel1 T2.bel hhi hb1 hlt;obtain ⟨ao9,cap9,rfl⟩:=za4 hrk
    have c0:wo.cell? ⟨b1,off1+k,none⟩=some (.slice ao9 (d.groups.2 k).1 cap9):=by
     have h:=hcell 0 (show 0<1 by decide);rw [show (zaa.slice 73).sz=1 from rfl,Nat.mul_one,Nat.add_zero] at h;exact h
    have kc0:=cell_regrown c0;obtain ⟨_,_,e9,hm9,hc9⟩:=hrk
    cases e9
    have HC9:=hid hc9;unfold maxLen at hm9;have cD:=zap (W:=wo) (fun w' _=>zcP d.shape HS.out w');unfold zac at cD;have zw:w.heap.size+1<wo.heap.size:=T2.b2.lt;clear hcell hc9 hel1 T2
    by_cases hlen2:((d.groups.2 k).1:Int)=d.shape 2+d.shape 3
    ·have hne2:((
      (d.groups.2 k).1:Int) != d.shape 2+d.shape 3)=false:=by simpa using hlen2
     have HL2:=hid hlen2;clear hlen2;go_wp2;refine WQ.region (by kernel_rfl) (by kernel_rfl) ?_
     repeat (first | (apply WQ.skip;(case hw=>rfl);intro K hK;go_simp;apply hK;clear hK K) | (apply WQ.want;(case hw=>rfl);intro K hK;go_simp;first | (apply hK;clear hK K) | (apply Exists.intro;apply And.intro;(case left=>intro p;(first | (go_at_call 52;exact cD _ _)));apply hK;clear hK K)))
     refine WQ.nil ?_;intro w3 hw3;have HT3:=hid (HT2.out.call (zaw hw3));have HB3:=hid (zaw hw3);have HC0:=hid c0;clear hw3 cD c0 kc0 x2_9 kx2_9 y2_0 ky2_0 y2_1 ky2_1 y2_2 ky2_2 y2_3 ky2_3 y2_4 ky2_4 y2_5 ky2_5 y2_6 ky2_6 y2_7 ky2_7 y2_8 ky2_8;go_wp2
     go_loopw [5] (fun i wx=>∃ q:Nat,q≤(d.groups.2 k).1∧i=.int .i64 q∧(∀ i,i<q→zc7 d.shape ((d.groups.2 k).2 i).blocks)∧Two w wx (rwW d (some ⟨b1,off1,none⟩) cap1 ao2 cap2 ao3 cap3).toArray (rwS d.shape).toArray 37 33∧Below wo.heap.size wo wx) (fun i _=>(d.groups.2 k).1-(intOf i).toNat)
     case atStart=>exact ⟨0,Nat.zero_le _,rfl,fun i hi=>by omega,HT3.out,HB3.out⟩
     case round=>
      clear HT3 HB3;obtain ⟨q,hq,rfl,hal2,T4,hb4⟩:=hrel;obtain ⟨wx,rfl⟩:∃ x,x=wr:=⟨_,rfl⟩;have HAL2:=hid hal2;have HT4:=hid T4;have HB4:=hid hb4;clear hal2;have x4_9:wx.cell? ⟨w.heap.size,9,none⟩=some (.slice (some ⟨b1,off1,none⟩) d.groups.1 cap1):=T4.b1.cell 9;have y4_4:wx.cell? ⟨w.heap.size+1,4,none⟩=some (.int .i64 (d.shape 4)):=T4.b2.cell 4;have c4:wx.cell? ⟨b1,off1+k,none⟩=some (.slice ao9 (d.groups.2 k).1 cap9):=(hb4.cell (p:=⟨b1,off1+k,none⟩) (by show b1<wo.heap.size;omega)).trans HC0.out
      by_cases hlq:q<(d.groups.2 k).1
      ·obtain ⟨b9,off9,he9,hb9,hel9⟩:=HC9.out (by omega)
       subst he9;obtain ⟨cq,hrq,hcq⟩:=zar (t:=0) hel9 hb4 (by omega) hb9 hlq;obtain ⟨ao5,cap5,rfl,g5⟩:=zaU hrq;have c5:wx.cell? ⟨b9,off9+q*2+1,none⟩=some (.slice ao5 ((d.groups.2 k).2 q).blocks.1 cap5):=hcq 1 (by decide);obtain ⟨_,_,e5,hm5,hc5⟩:=g5
       cases e5
       have HC5:=hid hc5;unfold maxLen at hm5;obtain ⟨p,hp⟩:∃ p,p=((d.groups.2 k).2 q).blocks:=⟨_,rfl⟩;rw [← hp] at c5 hm5 HC5;have HP:=hid hp;clear hel9 hcq hc5 hrq T4 hb4 hp
       by_cases hl3:(p.1:Int)=d.shape 4
       ·have hne3:((p.1:Int) != d.shape 4)=false:=by simpa using hl3
        have HL3:=hid hl3;clear hl3;go_wp2
        go_loop [7] (fun i=>∃ z:Nat,z≤p.1∧i=.int .i64 z∧∀ i,i<z→zcj (p.2 i)) (fun i=>p.1-(intOf i).toNat)
        case atStart=>exact ⟨0,Nat.zero_le _,rfl,fun i hi=>by omega⟩
        case round=>
         obtain ⟨z,hz,rfl,hal3⟩:=hrel;have HAL3:=hid hal3;clear hal3
         by_cases hlz:z<p.1
         ·obtain ⟨b5,off5,he5,hb5,hel5⟩:=HC5.out (by omega)
          subst he5;obtain ⟨cz,hrz,hcz⟩:=hel5 z hlz;obtain ⟨ao0,cap0,rfl,-⟩:=zbe hrz;have s0:wx.cell? ⟨b5,off5+z*2,none⟩=some (.int .i64 (p.2 z).stamp):=hcz 0 (by decide);have s1:wx.cell? ⟨b5,off5+z*2+1,none⟩=some (.slice ao0 (p.2 z).bytes.1 cap0):=hcz 1 (by decide);obtain ⟨t1,h1⟩:=exB (InP (p.2 z).stamp 0 1000000000);have C1:=fun w'=>zbl (w:=w') h1;obtain ⟨b2',h2⟩:∃ b,(((p.2 z).bytes.1:Int) != 4)=b:=⟨_,rfl⟩
          have HE:Hid (zcj (p.2 z)↔(t1=true∧b2'=false)):=by
           show zcj (p.2 z)↔_
           rw [h1,← h2];unfold zcj
           simp
           intro _;omega
          clear hel5 hcz hrz h1
          go_wp2_with fail
          refine (C1 _).mono ?_;rintro e w' ⟨rfl,hw'⟩;obtain rfl:=hw'.symm;clear C1
          cases t1 with
          | false=>
           go_wp2;go_ret
           exact zal rfl (fun h=>by
            have hb:=((h.2 k hlt).2 q hlq).2 z (by rw [← HP.out];exact hlz);rw [← HP.out] at hb;have:=HE.out.1 hb
            simp at this) HT4.out.bel
          | true=>
           cases b2' with
           | true=>
            go_wp2;go_ret
            exact zal rfl (fun h=>by
             have hb:=((h.2 k hlt).2 q hlq).2 z (by rw [← HP.out];exact hlz);rw [← HP.out] at hb;have:=HE.out.1 hb
             simp at this) HT4.out.bel
           | false=>
            go_wp2
            go_round
            case rel=>exact ⟨z+1,by omega,by go_num,fun i hi=>by
             by_cases c:i=z
             ·subst c;exact HE.out.2 (by simp)
             ·exact HAL3.out i (by omega)⟩
            case measure=>simp [intOf];omega
         ·obtain rfl:z=p.1:=by omega
          go_wp2
          go_roundw
          case rel=>exact ⟨q+1,by omega,by go_num,fun i hi=>by
           by_cases c:i=q
           ·subst c
            rw [← HP.out];exact ⟨HL3.out,HAL3.out⟩
           ·exact HAL2.out i (by omega),HT4.out,HB4.out⟩
          case measure=>simp [intOf];omega
       ·have hne3:((p.1:Int) != d.shape 4)=true:=by simpa using hl3
        have HN3:=hid hl3;clear hl3;go_wp2;go_ret;exact zal rfl (fun h=>HN3.out (by rw [HP.out];exact ((h.2 k hlt).2 q hlq).1)) HT4.out.bel
      ·obtain rfl:q=(d.groups.2 k).1:=by omega
       clear T4 hb4;go_wp2
       go_roundw
       case rel=>exact ⟨k+1,by omega,by go_num,fun i hi=>by
        by_cases c:i=k
        ·subst c
         exact ⟨HL2.out,HAL2.out⟩
        ·exact HAL.out i (by omega),HT4.out⟩
       case measure=>simp [intOf];omega
    ·have hne2:(((d.groups.2 k).1:Int) != d.shape 2+d.shape 3)=true:=by simpa using hlen2
     have HN2:=hid hlen2;clear hlen2;go_wp2;refine WQ.region (by kernel_rfl) (by kernel_rfl) ?_
     repeat (first | (apply WQ.skip;(case hw=>rfl);intro K hK;go_simp;apply hK;clear hK K) | (apply WQ.want;(case hw=>rfl);intro K hK;go_simp;first | (apply hK;clear hK K) | (apply Exists.intro;apply And.intro;(case left=>intro p;(first | (go_at_call 52;exact cD _ _)));apply hK;clear hK K)))
     refine WQ.nil ?_;intro w3 hw3;have HB3:Hid (Below w.heap.size w w3):=(HT2.out.call (zaw hw3)).bel;clear hw3 cD c0 kc0;go_wp2;go_ret;exact zal rfl (fun h=>HN2.out (h.2 k hlt).1) HB3.out
   ·obtain rfl:k=d.groups.1:=by omega
    go_wp2;go_ret;exact zas rfl ⟨HLEN.out,HAL.out⟩ HT2.out.bel
 ·have hne:((d.groups.1:Int) != d.shape 0+d.shape 1)=true:=by simpa using hlen
  have HN:=hid hlen;clear hlen;refine WQ.region (by kernel_rfl) (by kernel_rfl) ?_
  repeat (first | (apply WQ.skip;(case hw=>rfl);intro K hK;go_simp;apply hK;clear hK K) | (apply WQ.want;(case hw=>rfl);intro K hK;go_simp;first | (apply hK;clear hK K) | (apply Exists.intro;apply And.intro;(case left=>intro p;(first | (go_at_call 49;exact cA _ _)));apply hK;clear hK K)))
  refine WQ.nil ?_;intro w1 hw1;have HB1:Hid (Below w.heap.size w w1):=(HT.out.call (zaw hw1)).bel;clear hw1;go_wp2;go_ret;exact zal rfl (fun h=>HN.out h.1) HB1.out
set_option maxRecDepth 20000 in
theorem ze4 (d:WorldD) (cs:List Value) (hi:Nat) (w:World) (h:zae.rd w hi d cs) (hhi:hi≤w.heap.size) (hnm:∀ t,t<d.tapes.1→∀ i,i<(d.tapes.2 t).recs.1→((d.tapes.2 t).recs.2 i).name.size≤1048576) (hok':zaj d.shape) (hsel:¬ (zbU d∧zbj d.on.1 d.on.2 (d.shape 0+d.shape 1-1))) :
 Calls Tryz.prog 34 #[.agg cs.toArray] w (zb5 d w):=by
 obtain ⟨ao1,cap1,ao2,cap2,ao3,cap3,rfl,g1,g2,g3,-⟩:=zaB h;have HRD:=hid h;obtain ⟨v2,e2,⟨h2,hcp2⟩,_⟩:=g2
 cases e2
 have H2:=hid h2;have HCP:=hid hcp2;have hm2:=h2.mx;obtain ⟨_,_,e3,hm3,hc3⟩:=g3
 cases e3
 unfold maxLen at hm2 hm3;have HC3:=hid hc3;have HNM:=hid hnm;clear h h2 hcp2 hc3 g1 hnm;have T0:=zav w (rwW d ao1 cap1 ao2 cap2 ao3 cap3).toArray 37;have CSh:=fun w'=>zaR d.shape w';unfold zac at CSh
 go_enter Tryz.func34,Tryz.ntmps34
 go_wp2_with fail
 refine (CSh _).mono ?_;rintro e w1 ⟨x,rfl,hx,b1⟩;have T1:One w w1 (rwW d ao1 cap1 ao2 cap2 ao3 cap3).toArray 37:=T0.call b1;have HT1:=hid T1;clear b1 T0 CSh;have x1_0:w1.cell? ⟨w.heap.size,0,none⟩=some (.int .i64 (d.shape 0)):=T1.b1.cell 0;have kx1_0:=cell_regrown x1_0;have x1_1:w1.cell? ⟨w.heap.size,1,none⟩=some (.int .i64 (d.shape 1)):=T1.b1.cell 1;have kx1_1:=cell_regrown x1_1;have x1_2:w1.cell? ⟨w.heap.size,2,none⟩=some (.int .i64 (d.shape 2)):=T1.b1.cell 2;have kx1_2:=cell_regrown x1_2;have x1_3:w1.cell? ⟨w.heap.size,3,none⟩=some (.int .i64 (d.shape 3)):=T1.b1.cell 3;have kx1_3:=cell_regrown x1_3;have x1_4:w1.cell? ⟨w.heap.size,4,none⟩=some (.int .i64 (d.shape 4)):=T1.b1.cell 4;have kx1_4:=cell_regrown x1_4;have x1_5:w1.cell? ⟨w.heap.size,5,none⟩=some (.int .i64 (d.shape 5)):=T1.b1.cell 5;have kx1_5:=cell_regrown x1_5;have x1_6:w1.cell? ⟨w.heap.size,6,none⟩=some (.int .i64 (d.shape 6)):=T1.b1.cell 6;have kx1_6:=cell_regrown x1_6;have x1_7:w1.cell? ⟨w.heap.size,7,none⟩=some (.int .i64 (d.shape 7)):=T1.b1.cell 7;have kx1_7:=cell_regrown x1_7;have x1_8:w1.cell? ⟨w.heap.size,8,none⟩=some (.int .i64 (d.shape 8)):=T1.b1.cell 8;have kx1_8:=cell_regrown x1_8;have x1_9:w1.cell? ⟨w.heap.size,9,none⟩=some (.slice ao1 d.groups.1 cap1):=T1.b1.cell 9;have kx1_9:=cell_regrown x1_9;have x1_10:w1.cell? ⟨w.heap.size,10,none⟩=some (.slice ao2 d.on.1 cap2):=T1.b1.cell 10;have kx1_10:=cell_regrown x1_10;have x1_11:w1.cell? ⟨w.heap.size,11,none⟩=some (.slice ao3 d.tapes.1 cap3):=T1.b1.cell 11;have kx1_11:=cell_regrown x1_11;have x1_12:w1.cell? ⟨w.heap.size,12,none⟩=some (.int .i64 d.writes):=T1.b1.cell 12;have kx1_12:=cell_regrown x1_12;have x1_13:w1.cell? ⟨w.heap.size,13,none⟩=some (.int .i64 d.stop):=T1.b1.cell 13;have kx1_13:=cell_regrown x1_13;have x1_14:w1.cell? ⟨w.heap.size,14,none⟩=some (.bool d.down):=T1.b1.cell 14;have kx1_14:=cell_regrown x1_14;clear T1
 rcases hx with ⟨rfl,hno⟩ | ⟨rfl,hok⟩
 ·go_wp2
  go_ret;exact wldP rfl (Stair.fall hno) HT1.out.bel
 have HOK:=hid hok
 have hsb:1≤d.shape 0∧d.shape 0≤4∧0≤d.shape 1∧d.shape 1≤2:=by
  obtain ⟨h1,_⟩:=hok;unfold Shp3 at h1;omega
 clear hok;obtain ⟨t1,h1⟩:=exB (zbU d);obtain ⟨t2,h2⟩:=exB (zbj d.on.1 d.on.2 (d.shape 0+d.shape 1-1));obtain ⟨b3',h3⟩:∃ b,decide (d.shape 5<(d.on.1:Int))=b:=⟨_,rfl⟩;obtain ⟨g',h4⟩:∃ b,decide (0<d.on.1)=b:=⟨_,rfl⟩;obtain ⟨b5',h5⟩:∃ b,((d.tapes.1:Int) != 2)=b:=⟨_,rfl⟩;have c1:=zap (W:=w1) (fun w' hw'=>za9 (zbQ d HOK.out _ hi w' (zae.rd_below (zae.rd_below HRD.out HT1.out.bel hhi) hw' (Nat.le_trans hhi HT1.out.bel.size)) (Nat.le_trans hhi (Nat.le_trans HT1.out.bel.size hw'.size))) h1);have c2:=zap (W:=w1) (fun w' hw'=>za9 (zby _ d.on.1 d.on.2 hi (d.shape 0+d.shape 1-1) w' ((H2.out.below HT1.out.bel hhi).below hw' (Nat.le_trans hhi HT1.out.bel.size)) HCP.out (Nat.le_trans hhi (Nat.le_trans HT1.out.bel.size hw'.size))) h2);have cA:=zap (W:=w1) (fun w' _=>za5 d.shape HOK.out w');unfold zac at cA
 have wsA:IntKind.i64.wrap (d.shape 0+d.shape 1-1)=d.shape 0+d.shape 1-1:=by rw [IntKind.wrap_i64];omega
 have h4':decide (0<(d.on.1:Int))=g':=by rw [← h4];simp
 obtain ⟨dn,hdn⟩:∃ x,x=d.down:=⟨_,rfl⟩
 have HE:Hid (zbL d↔(t1=true∧t2=true∧b3'=false∧(dn=true→g'=false)∧b5'=false)):=by
  show zbL d↔_
  have e3:(decide (d.shape 5<(d.on.1:Int))=false)↔(d.on.1:Int)≤d.shape 5:=by simp
  have e4:(decide (0<d.on.1)=false)↔d.on.1=0:=by simp
  have e5:(((d.tapes.1:Int) != 2)=false)↔d.tapes.1=2:=by simp;omega
  rw [h1,h2,← h3,← h4,← h5,hdn,e3,e4,e5];unfold zbL OnP
  constructor
  ·rintro ⟨a,⟨b,c,e⟩,f⟩
   exact ⟨a,b,c,e,f⟩
  ·rintro ⟨a,b,c,e,f⟩
   exact ⟨a,⟨b,c,e⟩,f⟩
 have hst:t1=false∨(t1=true∧t2=false):=by
  clear HE c1 c2
  cases t1 with
  | false=>exact .inl rfl
  | true=>
   cases t2 with
   | false=>exact .inr ⟨rfl,rfl⟩
   | true=>exact absurd ⟨h1.1 rfl,h2.1 rfl⟩ hsel
 have HNF:Hid (¬ zbL d):=fun h=>by
  obtain ⟨a,⟨b,c,e⟩,f⟩:=h;exact hsel ⟨a,b⟩
 rw [← hdn] at x1_14 kx1_14 c1;clear h1 h2 hsel hok'
 go_upto_region 4 with fail
 clear hdn
 rcases hst with rfl | ⟨rfl,rfl⟩
 all_goals
  refine WQ.region (by kernel_rfl) (by kernel_rfl) ?_
  repeat (first | (apply WQ.free;(case hw=>rfl);intro K hK;go_simp;first | (apply hK;clear hK K) | (apply Exists.intro;apply And.intro;(case left=>intro p;(first | (go_at_call 47;exact c1 _ _) | (go_at_call 48;exact c2 _ _) | (go_at_call 49;exact cA _ _)));apply hK;clear hK K)) | (apply WQ.skip;(case hw=>rfl);intro K hK;go_simp;apply hK;clear hK K) | (apply WQ.want;(case hw=>rfl);intro K hK;go_simp;first | (apply hK;clear hK K) | (apply Exists.intro;apply And.intro;(case left=>intro p;(first | (go_at_call 47;exact c1 _ _) | (go_at_call 48;exact c2 _ _) | (go_at_call 49;exact cA _ _)));apply hK;clear hK K)))
  refine WQ.nil ?_;intro w2 hw2;have HB2:Hid (Below w.heap.size w w2):=(HT1.out.call (zaw hw2)).bel;clear hw2;go_wp2;go_ret;exact wldP rfl (Stair.pass HOK.out (Stair.fall HNF.out)) HB2.out
set_option maxRecDepth 20000 in
theorem ze5 (d:WorldD) (cs:List Value) (hi:Nat) (w:World) (h:zae.rd w hi d cs) (hhi:hi≤w.heap.size) (hnm:∀ t,t<d.tapes.1→∀ i,i<(d.tapes.2 t).recs.1→((d.tapes.2 t).recs.2 i).name.size≤1048576) (hok':zaj d.shape) (hsel:zbU d∧zbj d.on.1 d.on.2 (d.shape 0+d.shape 1-1)∧¬ ((d.on.1:Int)≤d.shape 5∧(d.down=true→d.on.1=0))) :
 Calls Tryz.prog 34 #[.agg cs.toArray] w (zb5 d w):=by
 obtain ⟨ao1,cap1,ao2,cap2,ao3,cap3,rfl,g1,g2,g3,-⟩:=zaB h;have HRD:=hid h;obtain ⟨v2,e2,⟨h2,hcp2⟩,_⟩:=g2
 cases e2
 have H2:=hid h2;have HCP:=hid hcp2;have hm2:=h2.mx;obtain ⟨_,_,e3,hm3,hc3⟩:=g3
 cases e3
 unfold maxLen at hm2 hm3;have HC3:=hid hc3;have HNM:=hid hnm;clear h h2 hcp2 hc3 g1 hnm;have T0:=zav w (rwW d ao1 cap1 ao2 cap2 ao3 cap3).toArray 37;have CSh:=fun w'=>zaR d.shape w';unfold zac at CSh
 go_enter Tryz.func34,Tryz.ntmps34
 go_wp2_with fail
 refine (CSh _).mono ?_;rintro e w1 ⟨x,rfl,hx,b1⟩;have T1:One w w1 (rwW d ao1 cap1 ao2 cap2 ao3 cap3).toArray 37:=T0.call b1;have HT1:=hid T1;clear b1 T0 CSh;have x1_0:w1.cell? ⟨w.heap.size,0,none⟩=some (.int .i64 (d.shape 0)):=T1.b1.cell 0;have kx1_0:=cell_regrown x1_0;have x1_1:w1.cell? ⟨w.heap.size,1,none⟩=some (.int .i64 (d.shape 1)):=T1.b1.cell 1;have kx1_1:=cell_regrown x1_1;have x1_2:w1.cell? ⟨w.heap.size,2,none⟩=some (.int .i64 (d.shape 2)):=T1.b1.cell 2;have kx1_2:=cell_regrown x1_2;have x1_3:w1.cell? ⟨w.heap.size,3,none⟩=some (.int .i64 (d.shape 3)):=T1.b1.cell 3;have kx1_3:=cell_regrown x1_3;have x1_4:w1.cell? ⟨w.heap.size,4,none⟩=some (.int .i64 (d.shape 4)):=T1.b1.cell 4;have kx1_4:=cell_regrown x1_4;have x1_5:w1.cell? ⟨w.heap.size,5,none⟩=some (.int .i64 (d.shape 5)):=T1.b1.cell 5;have kx1_5:=cell_regrown x1_5;have x1_6:w1.cell? ⟨w.heap.size,6,none⟩=some (.int .i64 (d.shape 6)):=T1.b1.cell 6;have kx1_6:=cell_regrown x1_6;have x1_7:w1.cell? ⟨w.heap.size,7,none⟩=some (.int .i64 (d.shape 7)):=T1.b1.cell 7;have kx1_7:=cell_regrown x1_7;have x1_8:w1.cell? ⟨w.heap.size,8,none⟩=some (.int .i64 (d.shape 8)):=T1.b1.cell 8;have kx1_8:=cell_regrown x1_8;have x1_9:w1.cell? ⟨w.heap.size,9,none⟩=some (.slice ao1 d.groups.1 cap1):=T1.b1.cell 9;have kx1_9:=cell_regrown x1_9;have x1_10:w1.cell? ⟨w.heap.size,10,none⟩=some (.slice ao2 d.on.1 cap2):=T1.b1.cell 10;have kx1_10:=cell_regrown x1_10;have x1_11:w1.cell? ⟨w.heap.size,11,none⟩=some (.slice ao3 d.tapes.1 cap3):=T1.b1.cell 11;have kx1_11:=cell_regrown x1_11;have x1_12:w1.cell? ⟨w.heap.size,12,none⟩=some (.int .i64 d.writes):=T1.b1.cell 12;have kx1_12:=cell_regrown x1_12;have x1_13:w1.cell? ⟨w.heap.size,13,none⟩=some (.int .i64 d.stop):=T1.b1.cell 13;have kx1_13:=cell_regrown x1_13;have x1_14:w1.cell? ⟨w.heap.size,14,none⟩=some (.bool d.down):=T1.b1.cell 14;have kx1_14:=cell_regrown x1_14;clear T1
 rcases hx with ⟨rfl,hno⟩ | ⟨rfl,hok⟩
 ·go_wp2
  go_ret;exact wldP rfl (Stair.fall hno) HT1.out.bel
 have HOK:=hid hok
 have hsb:1≤d.shape 0∧d.shape 0≤4∧0≤d.shape 1∧d.shape 1≤2:=by
  obtain ⟨h1,_⟩:=hok;unfold Shp3 at h1;omega
 clear hok;obtain ⟨t1,h1⟩:=exB (zbU d);obtain ⟨t2,h2⟩:=exB (zbj d.on.1 d.on.2 (d.shape 0+d.shape 1-1));obtain ⟨b3',h3⟩:∃ b,decide (d.shape 5<(d.on.1:Int))=b:=⟨_,rfl⟩;obtain ⟨g',h4⟩:∃ b,decide (0<d.on.1)=b:=⟨_,rfl⟩;obtain ⟨b5',h5⟩:∃ b,((d.tapes.1:Int) != 2)=b:=⟨_,rfl⟩;have c1:=zap (W:=w1) (fun w' hw'=>za9 (zbQ d HOK.out _ hi w' (zae.rd_below (zae.rd_below HRD.out HT1.out.bel hhi) hw' (Nat.le_trans hhi HT1.out.bel.size)) (Nat.le_trans hhi (Nat.le_trans HT1.out.bel.size hw'.size))) h1);have c2:=zap (W:=w1) (fun w' hw'=>za9 (zby _ d.on.1 d.on.2 hi (d.shape 0+d.shape 1-1) w' ((H2.out.below HT1.out.bel hhi).below hw' (Nat.le_trans hhi HT1.out.bel.size)) HCP.out (Nat.le_trans hhi (Nat.le_trans HT1.out.bel.size hw'.size))) h2);have cA:=zap (W:=w1) (fun w' _=>za5 d.shape HOK.out w');unfold zac at cA
 have wsA:IntKind.i64.wrap (d.shape 0+d.shape 1-1)=d.shape 0+d.shape 1-1:=by rw [IntKind.wrap_i64];omega
 have h4':decide (0<(d.on.1:Int))=g':=by rw [← h4];simp
 obtain ⟨dn,hdn⟩:∃ x,x=d.down:=⟨_,rfl⟩
 have HE:Hid (zbL d↔(t1=true∧t2=true∧b3'=false∧(dn=true→g'=false)∧b5'=false)):=by
  show zbL d↔_
  have e3:(decide (d.shape 5<(d.on.1:Int))=false)↔(d.on.1:Int)≤d.shape 5:=by simp
  have e4:(decide (0<d.on.1)=false)↔d.on.1=0:=by simp
  have e5:(((d.tapes.1:Int) != 2)=false)↔d.tapes.1=2:=by simp;omega
  rw [h1,h2,← h3,← h4,← h5,hdn,e3,e4,e5];unfold zbL OnP
  constructor
  ·rintro ⟨a,⟨b,c,e⟩,f⟩
   exact ⟨a,b,c,e,f⟩
  ·rintro ⟨a,b,c,e,f⟩
   exact ⟨a,⟨b,c,e⟩,f⟩
 have hst:(t1=true∧t2=true∧b3'=true)∨(t1=true∧t2=true∧b3'=false∧dn=true∧g'=true):=by
  clear HE c1 c2;have e1:=h1.2 hsel.1;have e2:=h2.2 hsel.2.1
  cases b3' with
  | true=>exact .inl ⟨e1,e2,rfl⟩
  | false=>
   have hc:(d.on.1:Int)≤d.shape 5:=by simpa using h3
   have hd:dn=true:=by
    cases dn with
    | true=>rfl
    | false=>exact absurd ⟨hc,fun h=>by rw [← hdn] at h;cases h⟩ hsel.2.2
   have hg:g'=true:=by
    cases g' with
    | true=>rfl
    | false=>exact absurd ⟨hc,fun _=>by simpa using h4⟩ hsel.2.2
   exact .inr ⟨e1,e2,rfl,hd,hg⟩
 have HNF:Hid (¬ zbL d):=fun h=>by
  obtain ⟨a,⟨b,c,e⟩,f⟩:=h;exact hsel.2.2 ⟨c,e⟩
 rw [← hdn] at x1_14 kx1_14 c1;clear h1 h2 hsel hok'
 go_upto_region 4 with fail
 clear hdn
 rcases hst with ⟨rfl,rfl,rfl⟩ | ⟨rfl,rfl,rfl,rfl,rfl⟩
 all_goals
  refine WQ.region (by kernel_rfl) (by kernel_rfl) ?_
  repeat (first | (apply WQ.free;(case hw=>rfl);intro K hK;go_simp;first | (apply hK;clear hK K) | (apply Exists.intro;apply And.intro;(case left=>intro p;(first | (go_at_call 47;exact c1 _ _) | (go_at_call 48;exact c2 _ _) | (go_at_call 49;exact cA _ _)));apply hK;clear hK K)) | (apply WQ.skip;(case hw=>rfl);intro K hK;go_simp;apply hK;clear hK K) | (apply WQ.want;(case hw=>rfl);intro K hK;go_simp;first | (apply hK;clear hK K) | (apply Exists.intro;apply And.intro;(case left=>intro p;(first | (go_at_call 47;exact c1 _ _) | (go_at_call 48;exact c2 _ _) | (go_at_call 49;exact cA _ _)));apply hK;clear hK K)))
  refine WQ.nil ?_;intro w2 hw2;have HB2:Hid (Below w.heap.size w w2):=(HT1.out.call (zaw hw2)).bel;clear hw2;go_wp2;go_ret;exact wldP rfl (Stair.pass HOK.out (Stair.fall HNF.out)) HB2.out
set_option maxRecDepth 20000 in
theorem ze6 (d:WorldD) (cs:List Value) (hi:Nat) (w:World) (h:zae.rd w hi d cs) (hhi:hi≤w.heap.size) (hnm:∀ t,t<d.tapes.1→∀ i,i<(d.tapes.2 t).recs.1→((d.tapes.2 t).recs.2 i).name.size≤1048576) (hok':zaj d.shape) (hsel:zbU d∧zbj d.on.1 d.on.2 (d.shape 0+d.shape 1-1)∧((d.on.1:Int)≤d.shape 5∧(d.down=true→d.on.1=0))∧d.tapes.1≠2) :
 Calls Tryz.prog 34 #[.agg cs.toArray] w (zb5 d w):=by
 obtain ⟨ao1,cap1,ao2,cap2,ao3,cap3,rfl,g1,g2,g3,-⟩:=zaB h;have HRD:=hid h;obtain ⟨v2,e2,⟨h2,hcp2⟩,_⟩:=g2
 cases e2
 have H2:=hid h2;have HCP:=hid hcp2;have hm2:=h2.mx;obtain ⟨_,_,e3,hm3,hc3⟩:=g3
 cases e3
 unfold maxLen at hm2 hm3;have HC3:=hid hc3;have HNM:=hid hnm;clear h h2 hcp2 hc3 g1 hnm;have T0:=zav w (rwW d ao1 cap1 ao2 cap2 ao3 cap3).toArray 37;have CSh:=fun w'=>zaR d.shape w';unfold zac at CSh
 go_enter Tryz.func34,Tryz.ntmps34
 go_wp2_with fail
 refine (CSh _).mono ?_;rintro e w1 ⟨x,rfl,hx,b1⟩;have T1:One w w1 (rwW d ao1 cap1 ao2 cap2 ao3 cap3).toArray 37:=T0.call b1;have HT1:=hid T1;clear b1 T0 CSh;have x1_0:w1.cell? ⟨w.heap.size,0,none⟩=some (.int .i64 (d.shape 0)):=T1.b1.cell 0;have kx1_0:=cell_regrown x1_0;have x1_1:w1.cell? ⟨w.heap.size,1,none⟩=some (.int .i64 (d.shape 1)):=T1.b1.cell 1;have kx1_1:=cell_regrown x1_1;have x1_2:w1.cell? ⟨w.heap.size,2,none⟩=some (.int .i64 (d.shape 2)):=T1.b1.cell 2;have kx1_2:=cell_regrown x1_2;have x1_3:w1.cell? ⟨w.heap.size,3,none⟩=some (.int .i64 (d.shape 3)):=T1.b1.cell 3;have kx1_3:=cell_regrown x1_3;have x1_4:w1.cell? ⟨w.heap.size,4,none⟩=some (.int .i64 (d.shape 4)):=T1.b1.cell 4;have kx1_4:=cell_regrown x1_4;have x1_5:w1.cell? ⟨w.heap.size,5,none⟩=some (.int .i64 (d.shape 5)):=T1.b1.cell 5;have kx1_5:=cell_regrown x1_5;have x1_6:w1.cell? ⟨w.heap.size,6,none⟩=some (.int .i64 (d.shape 6)):=T1.b1.cell 6;have kx1_6:=cell_regrown x1_6;have x1_7:w1.cell? ⟨w.heap.size,7,none⟩=some (.int .i64 (d.shape 7)):=T1.b1.cell 7;have kx1_7:=cell_regrown x1_7;have x1_8:w1.cell? ⟨w.heap.size,8,none⟩=some (.int .i64 (d.shape 8)):=T1.b1.cell 8;have kx1_8:=cell_regrown x1_8;have x1_9:w1.cell? ⟨w.heap.size,9,none⟩=some (.slice ao1 d.groups.1 cap1):=T1.b1.cell 9;have kx1_9:=cell_regrown x1_9;have x1_10:w1.cell? ⟨w.heap.size,10,none⟩=some (.slice ao2 d.on.1 cap2):=T1.b1.cell 10;have kx1_10:=cell_regrown x1_10;have x1_11:w1.cell? ⟨w.heap.size,11,none⟩=some (.slice ao3 d.tapes.1 cap3):=T1.b1.cell 11;have kx1_11:=cell_regrown x1_11;have x1_12:w1.cell? ⟨w.heap.size,12,none⟩=some (.int .i64 d.writes):=T1.b1.cell 12;have kx1_12:=cell_regrown x1_12;have x1_13:w1.cell? ⟨w.heap.size,13,none⟩=some (.int .i64 d.stop):=T1.b1.cell 13;have kx1_13:=cell_regrown x1_13;have x1_14:w1.cell? ⟨w.heap.size,14,none⟩=some (.bool d.down):=T1.b1.cell 14;have kx1_14:=cell_regrown x1_14;clear T1
 rcases hx with ⟨rfl,hno⟩ | ⟨rfl,hok⟩
 ·go_wp2
  go_ret;exact wldP rfl (Stair.fall hno) HT1.out.bel
 have HOK:=hid hok
 have hsb:1≤d.shape 0∧d.shape 0≤4∧0≤d.shape 1∧d.shape 1≤2:=by
  obtain ⟨h1,_⟩:=hok;unfold Shp3 at h1;omega
 clear hok;obtain ⟨t1,h1⟩:=exB (zbU d);obtain ⟨t2,h2⟩:=exB (zbj d.on.1 d.on.2 (d.shape 0+d.shape 1-1));obtain ⟨b3',h3⟩:∃ b,decide (d.shape 5<(d.on.1:Int))=b:=⟨_,rfl⟩;obtain ⟨g',h4⟩:∃ b,decide (0<d.on.1)=b:=⟨_,rfl⟩;obtain ⟨b5',h5⟩:∃ b,((d.tapes.1:Int) != 2)=b:=⟨_,rfl⟩;have c1:=zap (W:=w1) (fun w' hw'=>za9 (zbQ d HOK.out _ hi w' (zae.rd_below (zae.rd_below HRD.out HT1.out.bel hhi) hw' (Nat.le_trans hhi HT1.out.bel.size)) (Nat.le_trans hhi (Nat.le_trans HT1.out.bel.size hw'.size))) h1);have c2:=zap (W:=w1) (fun w' hw'=>za9 (zby _ d.on.1 d.on.2 hi (d.shape 0+d.shape 1-1) w' ((H2.out.below HT1.out.bel hhi).below hw' (Nat.le_trans hhi HT1.out.bel.size)) HCP.out (Nat.le_trans hhi (Nat.le_trans HT1.out.bel.size hw'.size))) h2);have cA:=zap (W:=w1) (fun w' _=>za5 d.shape HOK.out w');unfold zac at cA
 have wsA:IntKind.i64.wrap (d.shape 0+d.shape 1-1)=d.shape 0+d.shape 1-1:=by rw [IntKind.wrap_i64];omega
 have h4':decide (0<(d.on.1:Int))=g':=by rw [← h4];simp
 obtain ⟨dn,hdn⟩:∃ x,x=d.down:=⟨_,rfl⟩
 have HE:Hid (zbL d↔(t1=true∧t2=true∧b3'=false∧(dn=true→g'=false)∧b5'=false)):=by
  show zbL d↔_
  have e3:(decide (d.shape 5<(d.on.1:Int))=false)↔(d.on.1:Int)≤d.shape 5:=by simp
  have e4:(decide (0<d.on.1)=false)↔d.on.1=0:=by simp
  have e5:(((d.tapes.1:Int) != 2)=false)↔d.tapes.1=2:=by simp;omega
  rw [h1,h2,← h3,← h4,← h5,hdn,e3,e4,e5];unfold zbL OnP
  constructor
  ·rintro ⟨a,⟨b,c,e⟩,f⟩
   exact ⟨a,b,c,e,f⟩
  ·rintro ⟨a,b,c,e,f⟩
   exact ⟨a,⟨b,c,e⟩,f⟩
 have hst:(t1=true∧t2=true∧b3'=false∧dn=true∧g'=false∧b5'=true)∨(t1=true∧t2=true∧b3'=false∧dn=false∧b5'=true):=by
  clear HE c1 c2;have e1:=h1.2 hsel.1;have e2:=h2.2 hsel.2.1
  have e3:b3'=false:=by rw [← h3];simpa using hsel.2.2.1.1
  have e5:b5'=true:=by rw [← h5];have:=hsel.2.2.2;simp;omega
  cases dn with
  | false=>exact .inr ⟨e1,e2,e3,rfl,e5⟩
  | true=>exact .inl ⟨e1,e2,e3,rfl,by rw [← h4];have:=hsel.2.2.1.2 hdn.symm;simp;omega,e5⟩
 have HNF:Hid (¬ zbL d):=fun h=>by
  obtain ⟨a,⟨b,c,e⟩,f⟩:=h;exact hsel.2.2.2 f
 rw [← hdn] at x1_14 kx1_14 c1;clear h1 h2 hsel hok'
 go_upto_region 4 with fail
 clear hdn
 rcases hst with ⟨rfl,rfl,rfl,rfl,rfl,rfl⟩ | ⟨rfl,rfl,rfl,rfl,rfl⟩
 all_goals
  refine WQ.region (by kernel_rfl) (by kernel_rfl) ?_
  repeat (first | (apply WQ.free;(case hw=>rfl);intro K hK;go_simp;first | (apply hK;clear hK K) | (apply Exists.intro;apply And.intro;(case left=>intro p;(first | (go_at_call 47;exact c1 _ _) | (go_at_call 48;exact c2 _ _) | (go_at_call 49;exact cA _ _)));apply hK;clear hK K)) | (apply WQ.skip;(case hw=>rfl);intro K hK;go_simp;apply hK;clear hK K) | (apply WQ.want;(case hw=>rfl);intro K hK;go_simp;first | (apply hK;clear hK K) | (apply Exists.intro;apply And.intro;(case left=>intro p;(first | (go_at_call 47;exact c1 _ _) | (go_at_call 48;exact c2 _ _) | (go_at_call 49;exact cA _ _)));apply hK;clear hK K)))
  refine WQ.nil ?_;intro w2 hw2;have HB2:Hid (Below w.heap.size w w2):=(HT1.out.call (zaw hw2)).bel;clear hw2;go_wp2;go_ret;exact wldP rfl (Stair.pass HOK.out (Stair.fall HNF.out)) HB2.out
set_option maxRecDepth 20000 in
theorem ze7 (d:WorldD) (cs:List Value) (hi:Nat) (w:World) (h:zae.rd w hi d cs) (hhi:hi≤w.heap.size) (hnm:∀ t,t<d.tapes.1→∀ i,i<(d.tapes.2 t).recs.1→((d.tapes.2 t).recs.2 i).name.size≤1048576) (hok':zaj d.shape) (hsel:zbL d) :
 Calls Tryz.prog 34 #[.agg cs.toArray] w (zb5 d w):=by
 obtain ⟨ao1,cap1,ao2,cap2,ao3,cap3,rfl,g1,g2,g3,-⟩:=zaB h;have HRD:=hid h;obtain ⟨v2,e2,⟨h2,hcp2⟩,_⟩:=g2
 cases e2
 have H2:=hid h2;have HCP:=hid hcp2;have hm2:=h2.mx;obtain ⟨_,_,e3,hm3,hc3⟩:=g3
 cases e3
 unfold maxLen at hm2 hm3;have HC3:=hid hc3;have HNM:=hid hnm;clear h h2 hcp2 hc3 g1 hnm;have T0:=zav w (rwW d ao1 cap1 ao2 cap2 ao3 cap3).toArray 37;have CSh:=fun w'=>zaR d.shape w';unfold zac at CSh
 go_enter Tryz.func34,Tryz.ntmps34
 go_wp2_with fail
 refine (CSh _).mono ?_;rintro e w1 ⟨x,rfl,hx,b1⟩;have T1:One w w1 (rwW d ao1 cap1 ao2 cap2 ao3 cap3).toArray 37:=T0.call b1;have HT1:=hid T1;clear b1 T0 CSh;have x1_0:w1.cell? ⟨w.heap.size,0,none⟩=some (.int .i64 (d.shape 0)):=T1.b1.cell 0;have kx1_0:=cell_regrown x1_0;have x1_1:w1.cell? ⟨w.heap.size,1,none⟩=some (.int .i64 (d.shape 1)):=T1.b1.cell 1;have kx1_1:=cell_regrown x1_1;have x1_2:w1.cell? ⟨w.heap.size,2,none⟩=some (.int .i64 (d.shape 2)):=T1.b1.cell 2;have kx1_2:=cell_regrown x1_2;have x1_3:w1.cell? ⟨w.heap.size,3,none⟩=some (.int .i64 (d.shape 3)):=T1.b1.cell 3;have kx1_3:=cell_regrown x1_3;have x1_4:w1.cell? ⟨w.heap.size,4,none⟩=some (.int .i64 (d.shape 4)):=T1.b1.cell 4;have kx1_4:=cell_regrown x1_4;have x1_5:w1.cell? ⟨w.heap.size,5,none⟩=some (.int .i64 (d.shape 5)):=T1.b1.cell 5;have kx1_5:=cell_regrown x1_5;have x1_6:w1.cell? ⟨w.heap.size,6,none⟩=some (.int .i64 (d.shape 6)):=T1.b1.cell 6;have kx1_6:=cell_regrown x1_6;have x1_7:w1.cell? ⟨w.heap.size,7,none⟩=some (.int .i64 (d.shape 7)):=T1.b1.cell 7;have kx1_7:=cell_regrown x1_7;have x1_8:w1.cell? ⟨w.heap.size,8,none⟩=some (.int .i64 (d.shape 8)):=T1.b1.cell 8;have kx1_8:=cell_regrown x1_8;have x1_9:w1.cell? ⟨w.heap.size,9,none⟩=some (.slice ao1 d.groups.1 cap1):=T1.b1.cell 9;have kx1_9:=cell_regrown x1_9;have x1_10:w1.cell? ⟨w.heap.size,10,none⟩=some (.slice ao2 d.on.1 cap2):=T1.b1.cell 10;have kx1_10:=cell_regrown x1_10;have x1_11:w1.cell? ⟨w.heap.size,11,none⟩=some (.slice ao3 d.tapes.1 cap3):=T1.b1.cell 11;have kx1_11:=cell_regrown x1_11;have x1_12:w1.cell? ⟨w.heap.size,12,none⟩=some (.int .i64 d.writes):=T1.b1.cell 12;have kx1_12:=cell_regrown x1_12;have x1_13:w1.cell? ⟨w.heap.size,13,none⟩=some (.int .i64 d.stop):=T1.b1.cell 13;have kx1_13:=cell_regrown x1_13;have x1_14:w1.cell? ⟨w.heap.size,14,none⟩=some (.bool d.down):=T1.b1.cell 14;have kx1_14:=cell_regrown x1_14;clear T1
 rcases hx with ⟨rfl,hno⟩ | ⟨rfl,hok⟩
 ·go_wp2
  go_ret;exact wldP rfl (Stair.fall hno) HT1.out.bel
 have HOK:=hid hok
 have hsb:1≤d.shape 0∧d.shape 0≤4∧0≤d.shape 1∧d.shape 1≤2:=by
  obtain ⟨h1,_⟩:=hok;unfold Shp3 at h1;omega
 clear hok;obtain ⟨t1,h1⟩:=exB (zbU d);obtain ⟨t2,h2⟩:=exB (zbj d.on.1 d.on.2 (d.shape 0+d.shape 1-1));obtain ⟨b3',h3⟩:∃ b,decide (d.shape 5<(d.on.1:Int))=b:=⟨_,rfl⟩;obtain ⟨g',h4⟩:∃ b,decide (0<d.on.1)=b:=⟨_,rfl⟩;obtain ⟨b5',h5⟩:∃ b,((d.tapes.1:Int) != 2)=b:=⟨_,rfl⟩;have c1:=zap (W:=w1) (fun w' hw'=>za9 (zbQ d HOK.out _ hi w' (zae.rd_below (zae.rd_below HRD.out HT1.out.bel hhi) hw' (Nat.le_trans hhi HT1.out.bel.size)) (Nat.le_trans hhi (Nat.le_trans HT1.out.bel.size hw'.size))) h1);have c2:=zap (W:=w1) (fun w' hw'=>za9 (zby _ d.on.1 d.on.2 hi (d.shape 0+d.shape 1-1) w' ((H2.out.below HT1.out.bel hhi).below hw' (Nat.le_trans hhi HT1.out.bel.size)) HCP.out (Nat.le_trans hhi (Nat.le_trans HT1.out.bel.size hw'.size))) h2);have cA:=zap (W:=w1) (fun w' _=>za5 d.shape HOK.out w');unfold zac at cA
 have wsA:IntKind.i64.wrap (d.shape 0+d.shape 1-1)=d.shape 0+d.shape 1-1:=by rw [IntKind.wrap_i64];omega
 have h4':decide (0<(d.on.1:Int))=g':=by rw [← h4];simp
 obtain ⟨dn,hdn⟩:∃ x,x=d.down:=⟨_,rfl⟩
 have HE:Hid (zbL d↔(t1=true∧t2=true∧b3'=false∧(dn=true→g'=false)∧b5'=false)):=by
  show zbL d↔_
  have e3:(decide (d.shape 5<(d.on.1:Int))=false)↔(d.on.1:Int)≤d.shape 5:=by simp
  have e4:(decide (0<d.on.1)=false)↔d.on.1=0:=by simp
  have e5:(((d.tapes.1:Int) != 2)=false)↔d.tapes.1=2:=by simp;omega
  rw [h1,h2,← h3,← h4,← h5,hdn,e3,e4,e5];unfold zbL OnP
  constructor
  ·rintro ⟨a,⟨b,c,e⟩,f⟩
   exact ⟨a,b,c,e,f⟩
  ·rintro ⟨a,b,c,e,f⟩
   exact ⟨a,⟨b,c,e⟩,f⟩
 have hst:(t1=true∧t2=true∧b3'=false∧dn=true∧g'=false∧b5'=false)∨(t1=true∧t2=true∧b3'=false∧dn=false∧b5'=false):=by
  obtain ⟨a1,a2,a3,a4,a5⟩:=HE.out.1 hsel
  cases dn with
  | true=>exact .inl ⟨a1,a2,a3,rfl,a4 rfl,a5⟩
  | false=>exact .inr ⟨a1,a2,a3,rfl,a5⟩
 have HFM:=hid hsel;have htp:d.tapes.1=2:=hsel.2.2;have HTP:=hid htp;rw [← hdn] at x1_14 kx1_14 c1;clear h1 h2 hsel hok' htp HE
 go_upto_region 4 with fail
 go_cut [51] (fun v wx=>v=.bool false∧Below w1.heap.size w1 wx)
 case first=>
  clear hdn
  rcases hst with ⟨rfl,rfl,rfl,rfl,rfl,rfl⟩ | ⟨rfl,rfl,rfl,rfl,rfl⟩
  all_goals
   refine WQ.region (by kernel_rfl) (by kernel_rfl) ?_
   repeat (first | (apply WQ.free;(case hw=>rfl);intro K hK;go_simp;first | (apply hK;clear hK K) | (apply Exists.intro;apply And.intro;(case left=>intro p;(first | (go_at_call 47;exact c1 _ _) | (go_at_call 48;exact c2 _ _) | (go_at_call 49;exact cA _ _)));apply hK;clear hK K)) | (apply WQ.skip;(case hw=>rfl);intro K hK;go_simp;apply hK;clear hK K) | (apply WQ.want;(case hw=>rfl);intro K hK;go_simp;first | (apply hK;clear hK K) | (apply Exists.intro;apply And.intro;(case left=>intro p;(first | (go_at_call 47;exact c1 _ _) | (go_at_call 48;exact c2 _ _) | (go_at_call 49;exact cA _ _)));apply hK;clear hK K)))
   refine WQ.nil ?_;intro w2 hw2;have HB2:=hid (zaw hw2);clear hw2;go_wp2
   go_meet
   exact ⟨rfl,HB2.out⟩
 case rest=>
  obtain ⟨rfl,b2⟩:=hcut;obtain ⟨w2,rfl⟩:∃ x,x=wc:=⟨_,rfl⟩;have T2:One w w2 (rwW d ao1 cap1 ao2 cap2 ao3 cap3).toArray 37:=HT1.out.call b2
  rw [hdn] at *
  clear x1_0 kx1_0 x1_1 kx1_1 x1_2 kx1_2 x1_3 kx1_3 x1_4 kx1_4 x1_5 kx1_5 x1_6 kx1_6 x1_7 kx1_7 x1_8 kx1_8 x1_9 kx1_9 x1_10 kx1_10 x1_11 kx1_11 x1_12 kx1_12 x1_13 kx1_13 x1_14 kx1_14 c1 c2 cA hst h3 h4 h4' h5 b2 HT1 wsA hdn;obtain ⟨b3,off3,he3,hb3,hel3⟩:=HC3.out (by have:=HTP.out;omega);subst he3;have HT2:=hid T2;have HEL:=hid hel3;obtain ⟨ce0,hr0,hce0⟩:=zar (t:=0) hel3 T2.bel hhi hb3 (show 0<d.tapes.1 by have:=HTP.out;omega);obtain ⟨ce1,hr1,hce1⟩:=zar (t:=0) hel3 T2.bel hhi hb3 (show 1<d.tapes.1 by have:=HTP.out;omega);obtain ⟨ap0,cp0,rfl,gt0⟩:=zaV hr0;obtain ⟨ap1,cp1,rfl,gt1⟩:=zaV hr1
  have hl0:(d.tapes.2 0).recs.1≤maxLen:=by obtain ⟨_,_,_,h,_⟩:=gt0;exact h
  have hl1:(d.tapes.2 1).recs.1≤maxLen:=by obtain ⟨_,_,_,h,_⟩:=gt1;exact h
  unfold maxLen at hl0 hl1
  have q0:w2.cell? ⟨b3,off3+1,none⟩=some (.slice ap0 (d.tapes.2 0).recs.1 cp0):=by
   have:=hce0 1 (by decide)
   simpa using this
  have q1:w2.cell? ⟨b3,off3+2+1,none⟩=some (.slice ap1 (d.tapes.2 1).recs.1 cp1):=hce1 1 (by decide);have q1':w2.cell? ⟨b3,off3+3,none⟩=some (.slice ap1 (d.tapes.2 1).recs.1 cp1):=hce1 1 (by decide);have x2_11:w2.cell? ⟨w.heap.size,11,none⟩=some (.slice (some ⟨b3,off3,none⟩) d.tapes.1 cap3):=T2.b1.cell 11;obtain ⟨f0,k0⟩:∃ b,decide (200<(d.tapes.2 0).recs.1)=b:=⟨_,rfl⟩;obtain ⟨f1,k1⟩:∃ b,decide (200<(d.tapes.2 1).recs.1)=b:=⟨_,rfl⟩
  have k0':decide (200<((d.tapes.2 0).recs.1:Int))=f0:=by rw [← k0];congr 1;apply propext;omega
  have k1':decide (200<((d.tapes.2 1).recs.1:Int))=f1:=by rw [← k1];congr 1;apply propext;omega
  clear hce0 hce1 hr0 hr1 gt0 gt1 hel3 T2
  have hge:2≤d.tapes.1:=by have:=HTP.out;omega
  have hle:d.tapes.1≤2:=by have:=HTP.out;omega
  have HF0:Hid (f0=false→(d.tapes.2 0).recs.1≤200):=fun e=>by rw [← k0] at e;simpa using e
  have HF1:Hid (f1=false→(d.tapes.2 1).recs.1≤200):=fun e=>by rw [← k1] at e;simpa using e
  have HG0:Hid (f0=true→¬ (d.tapes.2 0).recs.1≤200):=fun e=>by rw [← k0] at e;simpa using e
  have HG1:Hid (f1=true→¬ (d.tapes.2 1).recs.1≤200):=fun e=>by rw [← k1] at e;simpa using e
  cases f0 with
  | true=>
   go_wp2;go_ret;exact wldP rfl (Stair.pass HOK.out (Stair.pass HFM.out (Stair.fall (fun h=>HG0.out (by simp) (h 0 (by omega)))))) HT2.out.bel
  | false=>
  cases f1 with
  | true=>
   go_wp2;go_ret;exact wldP rfl (Stair.pass HOK.out (Stair.pass HFM.out (Stair.fall (fun h=>HG1.out (by simp) (h 1 (by omega)))))) HT2.out.bel
  | false=>
  have HFW:Hid (FewP d):=fun t ht=>by
   by_cases c:t=0
   ·subst c;exact HF0.out (by simp)
   ·obtain rfl:t=1:=by omega
    exact HF1.out (by simp)
  go_wp2;clear k0 k1 k0' k1' HF0 HF1 HG0 HG1 q0 q1 q1' x2_11 hl0 hl1
  go_loopw [4] (fun v wr=>∃ t:Nat,t≤d.tapes.1∧v=.int .i64 t∧(∀ u,u<t→∀ k,k<(d.tapes.2 u).recs.1→RecAns d.shape ((d.tapes.2 u).recs.2 k) 0)∧One w wr (rwW d ao1 cap1 ao2 cap2 (some ⟨b3,off3,none⟩) cap3).toArray 37) (fun v _=>d.tapes.1-(intOf v).toNat)
  case atStart=>exact ⟨0,Nat.zero_le _,rfl,fun i hi=>by omega,HT2.out⟩
  case round=>
   clear HT2;obtain ⟨t,ht,rfl,hal,T3⟩:=hrel;obtain ⟨wo,rfl⟩:∃ x,x=wr:=⟨_,rfl⟩;have HAL:=hid hal;have HT3:=hid T3;clear hal
   by_cases hlt:t<d.tapes.1
   ·have zo:w.heap.size<wo.heap.size:=T3.b1.lt
    have hd2:decide ((t:Int)<2)=true:=decide_eq_true (by omega);clear T3;go_wp2
    go_loopw [5] (fun v wx=>∃ i:Nat,i≤(d.tapes.2 t).recs.1∧v=.int .i64 i∧(∀ k,k<i→RecAns d.shape ((d.tapes.2 t).recs.2 k) 0)∧One w wx (rwW d ao1 cap1 ao2 cap2 (some ⟨b3,off3,none⟩) cap3).toArray 37) (fun v _=>(d.tapes.2 t).recs.1-(intOf v).toNat)
    case atStart=>exact ⟨0,Nat.zero_le _,rfl,fun i hi=>by omega,HT3.out⟩
    case round=>
     clear HT3;obtain ⟨i,hi',rfl,hal2,T4⟩:=hrel;obtain ⟨wx,rfl⟩:∃ x,x=wr:=⟨_,rfl⟩;have HAL2:=hid hal2;have HT4:=hid T4;have zx:w.heap.size<wx.heap.size:=T4.b1.lt;clear hal2;obtain ⟨ct,hrt,hct⟩:=zar (t:=0) HEL.out T4.bel hhi hb3 hlt;obtain ⟨ap,cp,rfl,gt⟩:=zaV hrt;have c1:wx.cell? ⟨b3,off3+t*2+1,none⟩=some (.slice ap (d.tapes.2 t).recs.1 cp):=hct 1 (by decide);obtain ⟨_,_,et,hmt,hct'⟩:=gt
     cases et
     unfold maxLen at hmt;have HCT:=hid hct';have x5_11:wx.cell? ⟨w.heap.size,11,none⟩=some (.slice (some ⟨b3,off3,none⟩) d.tapes.1 cap3):=T4.b1.cell 11;clear hct hrt hct'
     by_cases hli:i<(d.tapes.2 t).recs.1
     ·obtain ⟨b6,off6,he6,hb6,hel6⟩:=HCT.out (by omega)
      subst he6;obtain ⟨cr,hrr,hcr⟩:=hel6 i hli;obtain ⟨ro6,rc6,ro7,rc7,ro8,rc8,rfl,-⟩:=zbi hrr;have r0:wx.cell? ⟨b6,off6+i*9,none⟩=some (.int .i64 ((d.tapes.2 t).recs.2 i).kind):=hcr 0 (by decide);have kr0:=cell_regrown r0;have r1:wx.cell? ⟨b6,off6+i*9+1,none⟩=some (.int .i64 ((d.tapes.2 t).recs.2 i).seq):=hcr 1 (by decide);have kr1:=cell_regrown r1;have r2:wx.cell? ⟨b6,off6+i*9+2,none⟩=some (.string ((d.tapes.2 t).recs.2 i).name):=hcr 2 (by decide);have kr2:=cell_regrown r2;have r3:wx.cell? ⟨b6,off6+i*9+3,none⟩=some (.int .i64 ((d.tapes.2 t).recs.2 i).length):=hcr 3 (by decide);have kr3:=cell_regrown r3;have r4:wx.cell? ⟨b6,off6+i*9+4,none⟩=some (.int .i64 ((d.tapes.2 t).recs.2 i).group):=hcr 4 (by decide);have kr4:=cell_regrown r4;have r5:wx.cell? ⟨b6,off6+i*9+5,none⟩=some (.int .i64 ((d.tapes.2 t).recs.2 i).row):=hcr 5 (by decide);have kr5:=cell_regrown r5;have r6:wx.cell? ⟨b6,off6+i*9+6,none⟩=some (.slice ro6 ((d.tapes.2 t).recs.2 i).rows.1 rc6):=hcr 6 (by decide);have kr6:=cell_regrown r6;have r7:wx.cell? ⟨b6,off6+i*9+7,none⟩=some (.slice ro7 ((d.tapes.2 t).recs.2 i).data.1 rc7):=hcr 7 (by decide);have kr7:=cell_regrown r7;have r8:wx.cell? ⟨b6,off6+i*9+8,none⟩=some (.slice ro8 ((d.tapes.2 t).recs.2 i).delta.1 rc8):=hcr 8 (by decide);have kr8:=cell_regrown r8;have HRR:=hid hrr;obtain ⟨X,hX⟩:∃ X,RecAns d.shape ((d.tapes.2 t).recs.2 i) X:=zcf (K:=isZ) ⟨0,rfl⟩ _;have HX:=hid hX;have kx5_11:=cell_regrown x5_11;have kc1:=cell_regrown c1;have x5_0:wx.cell? ⟨w.heap.size,0,none⟩=some (.int .i64 (d.shape 0)):=T4.b1.cell 0;have kx5_0:=cell_regrown x5_0;have x5_1:wx.cell? ⟨w.heap.size,1,none⟩=some (.int .i64 (d.shape 1)):=T4.b1.cell 1;have kx5_1:=cell_regrown x5_1;have x5_2:wx.cell? ⟨w.heap.size,2,none⟩=some (.int .i64 (d.shape 2)):=T4.b1.cell 2;have kx5_2:=cell_regrown x5_2;have x5_3:wx.cell? ⟨w.heap.size,3,none⟩=some (.int .i64 (d.shape 3)):=T4.b1.cell 3;have kx5_3:=cell_regrown x5_3;have x5_4:wx.cell? ⟨w.heap.size,4,none⟩=some (.int .i64 (d.shape 4)):=T4.b1.cell 4;have kx5_4:=cell_regrown x5_4;have x5_5:wx.cell? ⟨w.heap.size,5,none⟩=some (.int .i64 (d.shape 5)):=T4.b1.cell 5;have kx5_5:=cell_regrown x5_5;have x5_6:wx.cell? ⟨w.heap.size,6,none⟩=some (.int .i64 (d.shape 6)):=T4.b1.cell 6;have kx5_6:=cell_regrown x5_6;have x5_7:wx.cell? ⟨w.heap.size,7,none⟩=some (.int .i64 (d.shape 7)):=T4.b1.cell 7
      have kx5_7:=cell_regrown x5_7;have x5_8:wx.cell? ⟨w.heap.size,8,none⟩=some (.int .i64 (d.shape 8)):=T4.b1.cell 8;have kx5_8:=cell_regrown x5_8;have CR:=zap (W:=wx) (fun w' hw'=>zgn HX.out (zeW d.shape ((d.tapes.2 t).recs.2 i) _ hi w' (zab.rd_below HRR.out hw' (by omega)) (Nat.le_trans (by omega) hw'.size) (HNM.out t hlt i hli)));unfold zac at CR;clear hel6 hcr hrr T4 hX
      go_upto_region 14 with fail
      refine WQ.region (by kernel_rfl) (by kernel_rfl) ?_
      repeat (first | (apply WQ.skip;(case hw=>rfl);intro K hK;go_simp;apply hK;clear hK K) | (apply WQ.want;(case hw=>rfl);intro K hK;go_simp;first | (apply hK;clear hK K) | (apply Exists.intro;apply And.intro;(case left=>intro p;(first | (go_at_call 50;exact CR _ _)));apply hK;clear hK K)))
      refine WQ.nil ?_;intro w6 hw6;have HT6:=hid (HT4.out.call (zaw hw6));clear hw6 CR r0 kr0 x5_0 kx5_0 r1 kr1 x5_1 kx5_1 r2 kr2 x5_2 kx5_2 r3 kr3 x5_3 kx5_3 r4 kr4 x5_4 kx5_4 r5 kr5 x5_5 kx5_5 r6 kr6 x5_6 kx5_6 r7 kr7 x5_7 kx5_7 r8 kr8 x5_8 kx5_8 x5_11 kx5_11 c1 kc1
      by_cases hx0:X=0
      ·subst hx0
       go_wp2
       go_roundw
       case rel=>exact ⟨i+1,by omega,by go_num,fun k hk=>by
        by_cases c:k=i
        ·subst c;exact HX.out
        ·exact HAL2.out k (by omega),HT6.out⟩
       case measure=>simp [intOf];omega
      ·have hne:(X != 0)=true:=by simp [hx0]
       go_wp2;go_ret;exact wldP rfl (Stair.pass HOK.out (Stair.pass HFM.out (Stair.pass HFW.out (Stair.last (.inl ⟨hx0,.inr ⟨hx0,t,i,hlt,hli,HX.out,HAL2.out,HAL.out⟩⟩))))) HT6.out.bel
     ·obtain rfl:i=(d.tapes.2 t).recs.1:=by omega
      clear T4;go_wp2
      go_roundw
      case rel=>exact ⟨t+1,by omega,by go_num,fun u hu=>by
       by_cases c:u=t
       ·subst c;exact HAL2.out
       ·exact HAL.out u (by omega),HT4.out⟩
      case measure=>simp [intOf];omega
   ·obtain rfl:t=d.tapes.1:=by omega
    clear T3;have HRA:Hid (RecsAns d.shape d.tapes.1 d.tapes.2 0):=.inl ⟨rfl,HAL.out⟩;go_wp2
    go_loop [7] (fun v=>∃ t:Nat,t≤d.tapes.1∧v=.int .i64 t∧∀ u,u<t→(d.tapes.2 u).wiped=true→(d.tapes.2 u).recs.1=0) (fun v=>d.tapes.1-(intOf v).toNat)
    case atStart=>exact ⟨0,Nat.zero_le _,rfl,fun i hi=>by omega⟩
    case round=>
     obtain ⟨t,ht,rfl,hal⟩:=hrel;have HAL3:=hid hal;clear hal
     by_cases hlt:t<d.tapes.1
     ·obtain ⟨ct,hrt,hct⟩:=zar (t:=0) HEL.out HT3.out.bel hhi hb3 hlt
      obtain ⟨ap,cp,rfl,gt⟩:=zaV hrt;have c0:wo.cell? ⟨b3,off3+t*2,none⟩=some (.bool (d.tapes.2 t).wiped):=hct 0 (by decide);have c1:wo.cell? ⟨b3,off3+t*2+1,none⟩=some (.slice ap (d.tapes.2 t).recs.1 cp):=hct 1 (by decide);have x5_11:wo.cell? ⟨w.heap.size,11,none⟩=some (.slice (some ⟨b3,off3,none⟩) d.tapes.1 cap3):=HT3.out.b1.cell 11;obtain ⟨u,hu⟩:∃ u,u=(d.tapes.2 t).wiped:=⟨_,rfl⟩;obtain ⟨g,hg⟩:∃ b,decide (0<(d.tapes.2 t).recs.1)=b:=⟨_,rfl⟩
      have hg':decide (0<((d.tapes.2 t).recs.1:Int))=g:=by rw [← hg];simp
      rw [← hu] at c0
      have HE3:Hid (((d.tapes.2 t).wiped=true→(d.tapes.2 t).recs.1=0)↔(u=true→g=false)):=by
       show _↔_
       rw [← hu,← hg]
       simp
      clear hct hrt gt hu
      cases u with
      | false=>
       go_wp2
       go_round
       case rel=>exact ⟨t+1,by omega,by go_num,fun u hu=>by
        by_cases c:u=t
        ·subst c;exact HE3.out.2 (by simp)
        ·exact HAL3.out u (by omega)⟩
       case measure=>simp [intOf];omega
      | true=>
       cases g with
       | false=>
        go_wp2
        go_round
        case rel=>exact ⟨t+1,by omega,by go_num,fun u hu=>by
         by_cases c:u=t
         ·subst c;exact HE3.out.2 (by simp)
         ·exact HAL3.out u (by omega)⟩
        case measure=>simp [intOf];omega
       | true=>
        go_wp2;go_ret;exact wldP rfl (Stair.pass HOK.out (Stair.pass HFM.out (Stair.pass HFW.out (Stair.last (.inr ⟨HRA.out,Stair.fall (fun h=>by have:=HE3.out.1 (h t hlt);simp at this)⟩))))) HT3.out.bel
     ·obtain rfl:t=d.tapes.1:=by omega
      have HCL:=hid HAL3.out;have x5_12:wo.cell? ⟨w.heap.size,12,none⟩=some (.int .i64 d.writes):=HT3.out.b1.cell 12;have x5_13:wo.cell? ⟨w.heap.size,13,none⟩=some (.int .i64 d.stop):=HT3.out.b1.cell 13;obtain ⟨t1,h1⟩:=exB (InP d.writes 0 1000000000);obtain ⟨t2,h2⟩:=exB (InP d.stop (-1) 1000000000);have C1:=fun w'=>zbl (w:=w') h1;have C2:=fun w'=>zbl (w:=w') h2
      have HE4:Hid (zek d↔(t1=true∧t2=true)):=by
       show zek d↔_
       rw [h1,h2];exact Iff.rfl
      clear h1 h2
      go_wp2_with fail
      refine (C1 _).mono ?_;rintro e w' ⟨rfl,hw'⟩;obtain rfl:=hw'.symm;clear C1
      cases t1 with
      | false=>
       go_wp2;go_ret;exact wldP rfl (Stair.pass HOK.out (Stair.pass HFM.out (Stair.pass HFW.out (Stair.last (.inr ⟨HRA.out,Stair.pass HCL.out (Stair.fall (fun h=>by have:=HE4.out.1 h;simp at this))⟩))))) HT3.out.bel
      | true=>
       go_wp2_with fail
       refine (C2 _).mono ?_;rintro e w' ⟨rfl,hw'⟩;obtain rfl:=hw'.symm;clear C2
       cases t2 with
       | false=>
        go_wp2;go_ret;exact wldP rfl (Stair.pass HOK.out (Stair.pass HFM.out (Stair.pass HFW.out (Stair.last (.inr ⟨HRA.out,Stair.pass HCL.out (Stair.fall (fun h=>by have:=HE4.out.1 h;simp at this))⟩))))) HT3.out.bel
       | true=>
        go_wp2;go_ret;exact wldP rfl (Stair.pass HOK.out (Stair.pass HFM.out (Stair.pass HFW.out (Stair.last (.inr ⟨HRA.out,Stair.pass HCL.out (Stair.pass (HE4.out.2 (by simp)) (Stair.last rfl))⟩))))) HT3.out.bel
set_option maxRecDepth 20000 in
theorem ze8 (d:WorldD) (cs:List Value) (hi:Nat) (w:World) (h:zae.rd w hi d cs) (hhi:hi≤w.heap.size) (hnm:∀ t,t<d.tapes.1→∀ i,i<(d.tapes.2 t).recs.1→((d.tapes.2 t).recs.2 i).name.size≤1048576) (hok':¬ zaj d.shape) :
 Calls Tryz.prog 34 #[.agg cs.toArray] w (zb5 d w):=by
 obtain ⟨ao1,cap1,ao2,cap2,ao3,cap3,rfl,g1,g2,g3,-⟩:=zaB h;have HRD:=hid h;obtain ⟨v2,e2,⟨h2,hcp2⟩,_⟩:=g2
 cases e2
 have H2:=hid h2;have HCP:=hid hcp2;have hm2:=h2.mx;obtain ⟨_,_,e3,hm3,hc3⟩:=g3
 cases e3
 unfold maxLen at hm2 hm3;have HC3:=hid hc3;have HNM:=hid hnm;clear h h2 hcp2 hc3 g1 hnm;have T0:=zav w (rwW d ao1 cap1 ao2 cap2 ao3 cap3).toArray 37;have CSh:=fun w'=>zaR d.shape w';unfold zac at CSh
 go_enter Tryz.func34,Tryz.ntmps34
 go_wp2_with fail
 refine (CSh _).mono ?_;rintro e w1 ⟨x,rfl,hx,b1⟩;have T1:One w w1 (rwW d ao1 cap1 ao2 cap2 ao3 cap3).toArray 37:=T0.call b1;have HT1:=hid T1;clear b1 T0 CSh;have x1_0:w1.cell? ⟨w.heap.size,0,none⟩=some (.int .i64 (d.shape 0)):=T1.b1.cell 0;have kx1_0:=cell_regrown x1_0;have x1_1:w1.cell? ⟨w.heap.size,1,none⟩=some (.int .i64 (d.shape 1)):=T1.b1.cell 1;have kx1_1:=cell_regrown x1_1;have x1_2:w1.cell? ⟨w.heap.size,2,none⟩=some (.int .i64 (d.shape 2)):=T1.b1.cell 2;have kx1_2:=cell_regrown x1_2;have x1_3:w1.cell? ⟨w.heap.size,3,none⟩=some (.int .i64 (d.shape 3)):=T1.b1.cell 3;have kx1_3:=cell_regrown x1_3;have x1_4:w1.cell? ⟨w.heap.size,4,none⟩=some (.int .i64 (d.shape 4)):=T1.b1.cell 4;have kx1_4:=cell_regrown x1_4;have x1_5:w1.cell? ⟨w.heap.size,5,none⟩=some (.int .i64 (d.shape 5)):=T1.b1.cell 5;have kx1_5:=cell_regrown x1_5;have x1_6:w1.cell? ⟨w.heap.size,6,none⟩=some (.int .i64 (d.shape 6)):=T1.b1.cell 6;have kx1_6:=cell_regrown x1_6;have x1_7:w1.cell? ⟨w.heap.size,7,none⟩=some (.int .i64 (d.shape 7)):=T1.b1.cell 7;have kx1_7:=cell_regrown x1_7;have x1_8:w1.cell? ⟨w.heap.size,8,none⟩=some (.int .i64 (d.shape 8)):=T1.b1.cell 8;have kx1_8:=cell_regrown x1_8;have x1_9:w1.cell? ⟨w.heap.size,9,none⟩=some (.slice ao1 d.groups.1 cap1):=T1.b1.cell 9;have kx1_9:=cell_regrown x1_9;have x1_10:w1.cell? ⟨w.heap.size,10,none⟩=some (.slice ao2 d.on.1 cap2):=T1.b1.cell 10;have kx1_10:=cell_regrown x1_10;have x1_11:w1.cell? ⟨w.heap.size,11,none⟩=some (.slice ao3 d.tapes.1 cap3):=T1.b1.cell 11;have kx1_11:=cell_regrown x1_11;have x1_12:w1.cell? ⟨w.heap.size,12,none⟩=some (.int .i64 d.writes):=T1.b1.cell 12;have kx1_12:=cell_regrown x1_12;have x1_13:w1.cell? ⟨w.heap.size,13,none⟩=some (.int .i64 d.stop):=T1.b1.cell 13;have kx1_13:=cell_regrown x1_13;have x1_14:w1.cell? ⟨w.heap.size,14,none⟩=some (.bool d.down):=T1.b1.cell 14;have kx1_14:=cell_regrown x1_14;clear T1
 rcases hx with ⟨rfl,hno⟩ | ⟨rfl,hok⟩
 ·go_wp2
  go_ret;exact wldP rfl (Stair.fall hno) HT1.out.bel
 exact absurd hok hok'
theorem zdN (d:WorldD) (cs:List Value) (hi:Nat) (w:World) (h:zae.rd w hi d cs) (hhi:hi≤w.heap.size) (hnm:∀ t,t<d.tapes.1→∀ i,i<(d.tapes.2 t).recs.1→((d.tapes.2 t).recs.2 i).name.size≤1048576) :
 Calls Tryz.prog 34 #[.agg cs.toArray] w (zb5 d w):=by
 by_cases h0:zaj d.shape
 ·by_cases h1:zbU d∧zbj d.on.1 d.on.2 (d.shape 0+d.shape 1-1)
  ·by_cases h2:(d.on.1:Int)≤d.shape 5∧(d.down=true→d.on.1=0)
   ·by_cases h3:d.tapes.1=2
    ·exact ze7 d cs hi w h hhi hnm h0 ⟨h1.1,⟨h1.2,h2.1,h2.2⟩,h3⟩
    ·exact ze6 d cs hi w h hhi hnm h0 ⟨h1.1,h1.2,h2,h3⟩
   ·exact ze5 d cs hi w h hhi hnm h0 ⟨h1.1,h1.2,h2⟩
  ·exact ze4 d cs hi w h hhi hnm h0 h1
 ·exact ze8 d cs hi w h hhi hnm h0
theorem zgw {w:World} {hi:Nat} {d:WorldD} {cs:List Value} (h:zae.rd w hi d cs):∃ v0 v1 v2 v3 v4 v5 v6 v7 v8 vp0 vl0 vq0 vp1 vl1 vq1 vp2 vl2 vq2 v9 v10 vb,cs=[.int .i64 v0,.int .i64 v1,.int .i64 v2,.int .i64 v3,.int .i64 v4,.int .i64 v5,.int .i64 v6,.int .i64 v7,.int .i64 v8,.slice vp0 vl0 vq0,.slice vp1 vl1 vq1,.slice vp2 vl2 vq2,.int .i64 v9,.int .i64 v10,.bool vb]:=by
 obtain ⟨p1,pc1,p2,pc2,p3,pc3,rfl,-⟩:=zaB h;exact ⟨_,_,_,_,_,_,_,_,_,_,_,_,_,_,_,_,_,_,_,_,_,rfl⟩
theorem zgU {w:World} {lo hi:Nat} {d:WorldD} {cs:List Value} (h:OwnT zae w lo hi d cs):∃ v0 v1 v2 v3 v4 v5 v6 v7 v8 vp0 vl0 vq0 vp1 vl1 vq1 vp2 vl2 vq2 v9 v10 vb,cs=[.int .i64 v0,.int .i64 v1,.int .i64 v2,.int .i64 v3,.int .i64 v4,.int .i64 v5,.int .i64 v6,.int .i64 v7,.int .i64 v8,.slice vp0 vl0 vq0,.slice vp1 vl1 vq1,.slice vp2 vl2 vq2,.int .i64 v9,.int .i64 v10,.bool vb]:=zgw h.rd
theorem zc0 {K:Int→Prop}:∀ (l:List (Prop×Int)) {x:Int},Stair l K x→K x∨∃ p,p∈l∧x=p.2
 | [],x,h=>.inl h
 | (p,c)::l,x,h=>by
  rcases h with ⟨_,h⟩ | ⟨_,h⟩
  ·exact .inr ⟨(p,c),List.mem_cons_self ..,h⟩
  ·rcases zc0 l h with k | ⟨q,hq,k⟩
   ·exact .inl k
   ·exact .inr ⟨q,List.mem_cons_of_mem _ hq,k⟩
theorem zgx {s:Nat→Int} {r:RecD} {x:Int} (h:RecAns s r x):0≤x∧x≤9:=by
 rcases zc0 _ h with k | ⟨p,hp,rfl⟩
 ·rw [show x=0 from k];decide
 ·simp at hp
  rcases hp with rfl | rfl | rfl | rfl | rfl | rfl<;>constructor<;>simp
theorem zgy {d:WorldD} {x:Int} (h:WldAns d x):(-9223372036854775808≤x∧x≤9223372036854775807):=by
 have key:0≤x∧x≤9:=by
  rcases zc0 _ h with k | ⟨p,hp,rfl⟩
  ·rcases k with ⟨_,k⟩ | ⟨_,k⟩
   ·rcases k with ⟨rfl,_⟩ | ⟨_,t,i,_,_,hr,_⟩
    ·decide
    ·exact zgx hr
   ·rcases zc0 _ k with k | ⟨p,hp,rfl⟩
    ·rw [show x=0 from k];decide
    ·simp at hp
     rcases hp with rfl | rfl<;>constructor<;>simp
  ·simp at hp
   rcases hp with rfl | rfl | rfl<;>constructor<;>simp
 omega
theorem zcU {d:WorldD} (h:zaQ d≤1048576):∀ t,t<d.tapes.1→∀ i,i<(d.tapes.2 t).recs.1→((d.tapes.2 t).recs.2 i).name.size≤1048576:=fun t ht i hi=>by
 have h1:szSl zaG d.tapes≤1048576:=by unfold zaQ at h;omega
 have h2:szSl zaN (d.tapes.2 t).recs≤1048576:=zcl h1 ht;have h3:zaN ((d.tapes.2 t).recs.2 i)≤1048576:=zcl h2 hi;unfold zaN at h3;omega
theorem zdO {p:Nat→Bool} {k:Nat} (hp:p k=true):∀ n,k<n→zcV p n (zaW p k).length=k∧(zaW p k).length<(zaW p n).length
 | 0,h=>by omega
 | n+1,h=>by
  by_cases c:k=n
  ·subst c
   exact ⟨zfU hp,by rw [zbz,if_pos hp];simp⟩
  ·obtain ⟨h1,h2⟩:=zdO hp n (by omega)
   exact ⟨(zfT h2).trans h1,by rw [zbz,List.length_append];omega⟩
theorem zgV (p:Nat→Bool) (n i:Nat):zcV p n i≤n:=by
 by_cases h:i<(zaW p n).length
 ·exact Nat.le_of_lt (zgP h)
 ·unfold zcV
  rw [List.getD_eq_getElem?_getD,List.getElem?_eq_none (by omega)];exact Nat.zero_le _
def zfr (s:Nat→Int) (g k r:Int):Prop:=InP g 0 (s 0+s 1-1)∧InP k 0 (s 2+s 3-1)∧InP r 0 (s 4-1)
theorem zhl:(Tryz.prog.info? 33).map (·.size)=some 9:=by kernel_rfl
set_option maxRecDepth 20000 in
theorem ze9 (s:Nat→Int) (hok:zaj s) (g k r:Int) (w:World):Calls Tryz.prog 35 #[zac s,.int .i64 g,.int .i64 k,.int .i64 r] w (za8 (zfr s g k r) w):=by
 have hb:=okB hok;obtain ⟨t1,h1⟩:=exB (InP g 0 (s 0+s 1-1));obtain ⟨t2,h2⟩:=exB (InP k 0 (s 2+s 3-1));obtain ⟨t3,h3⟩:=exB (InP r 0 (s 4-1));have CA:=fun w'=>za5 s hok w';have CD:=fun w'=>zcP s hok w';have C1:=fun w'=>zbl (w:=w') h1;have C2:=fun w'=>zbl (w:=w') h2;have C3:=fun w'=>zbl (w:=w') h3
 have HE:Hid (zfr s g k r↔(t1=true∧t2=true∧t3=true)):=by
  show zfr s g k r↔_
  rw [h1,h2,h3];exact Iff.rfl
 have T0:=zav w (rwS s).toArray 33;unfold zac at CA CD ⊢;clear h1 h2 h3 hok
 go_enter Tryz.func35,Tryz.ntmps35
 go_wp2_with (refine zaq 33 (.tmp 4) rfl rfl w.heap.size rfl T0.b1 Tryz.underlying33 zhl rfl ?_)
 refine (CA _).mono ?_;rintro e w1 ⟨rfl,b1⟩;have T1:=T0.call b1;have HT1:=hid T1
 have z1:IntKind.i64.wrap (s 0+s 1-1)=s 0+s 1-1:=by rw [IntKind.wrap_i64];omega
 have z2:IntKind.i64.wrap (s 2+s 3-1)=s 2+s 3-1:=by rw [IntKind.wrap_i64];omega
 have z3:IntKind.i64.wrap (s 4-1)=s 4-1:=by rw [IntKind.wrap_i64];omega
 have x_0:w1.cell? ⟨w.heap.size,0,none⟩=some (.int .i64 (s 0)):=T1.b1.cell 0;have x_1:w1.cell? ⟨w.heap.size,1,none⟩=some (.int .i64 (s 1)):=T1.b1.cell 1;have x_2:w1.cell? ⟨w.heap.size,2,none⟩=some (.int .i64 (s 2)):=T1.b1.cell 2;have x_3:w1.cell? ⟨w.heap.size,3,none⟩=some (.int .i64 (s 3)):=T1.b1.cell 3;have x_4:w1.cell? ⟨w.heap.size,4,none⟩=some (.int .i64 (s 4)):=T1.b1.cell 4;have x_5:w1.cell? ⟨w.heap.size,5,none⟩=some (.int .i64 (s 5)):=T1.b1.cell 5;have x_6:w1.cell? ⟨w.heap.size,6,none⟩=some (.int .i64 (s 6)):=T1.b1.cell 6;have x_7:w1.cell? ⟨w.heap.size,7,none⟩=some (.int .i64 (s 7)):=T1.b1.cell 7;have x_8:w1.cell? ⟨w.heap.size,8,none⟩=some (.int .i64 (s 8)):=T1.b1.cell 8;clear T0 b1 T1
 go_wp2_with fail
 refine (C1 _).mono ?_;rintro e w' ⟨rfl,hw'⟩;obtain rfl:=hw'.symm
 cases t1 with
 | false=>
  go_wp2;go_ret;exact zal rfl (fun h=>by have:=HE.out.1 h;simp at this) HT1.out.bel
 | true=>
 go_wp2_with fail
 refine (CD _).mono ?_;rintro e w2 ⟨rfl,b2⟩;have T2:=HT1.out.call b2;have HB2:=hid T2.bel;have y4:w2.cell? ⟨w.heap.size,4,none⟩=some (.int .i64 (s 4)):=T2.b1.cell 4;clear b2 T2 x_0 x_1 x_2 x_3 x_4 x_5 x_6 x_7 x_8
 go_wp2_with fail
 refine (C2 _).mono ?_;rintro e w' ⟨rfl,hw'⟩;obtain rfl:=hw'.symm
 cases t2 with
 | false=>
  go_wp2;go_ret;exact zal rfl (fun h=>by have:=HE.out.1 h;simp at this) HB2.out
 | true=>
 go_wp2_with fail
 refine (C3 _).mono ?_;rintro e w' ⟨rfl,hw'⟩;obtain rfl:=hw'.symm
 cases t3 with
 | false=>
  go_wp2;go_ret;exact zal rfl (fun h=>by have:=HE.out.1 h;simp at this) HB2.out
 | true=>
  go_wp2;go_ret;exact zas rfl (HE.out.2 (by simp)) HB2.out
end Go.Proofs.YtkmglpaaeogapaaGreat
