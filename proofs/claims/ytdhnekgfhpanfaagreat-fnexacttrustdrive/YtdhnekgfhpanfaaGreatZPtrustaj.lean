/- Walk of the specification's l5Copy. -/
import Derived.Deep.RegionHeld3
import Derived.Test.YtdhnekgfhpanfaaGreatZPtrustai
set_option linter.unusedVariables false
set_option linter.unusedSimpArgs false
set_option maxHeartbeats 16000000
namespace Go.Proofs.YtdhnekgfhpanfaaGreat
open Go.RowKit F256
theorem drive_of' {w:World} {lo hi:Nat} {d:DriveD} {ao:Option Addr} {cap:Nat} (h:OwnT (zag.slice 90) w lo hi d.blocks [.slice ao d.blocks.1 cap]):OwnT zaa w lo hi d [.bool d.wiped,.slice ao d.blocks.1 cap]:=
 OwnT.conv (OwnT.pre (A:=layB) (a:=d.wiped) (c:=[.bool d.wiped]) ⟨rfl,trivial,rfl⟩ h)
theorem tape_of' {w:World} {lo hi:Nat} {d:TapeD} {ao:Option Addr} {cap:Nat} (h:OwnT (zac.slice 94) w lo hi d.recs [.slice ao d.recs.1 cap]):OwnT zah w lo hi d [.bool d.wiped,.slice ao d.recs.1 cap]:=
 OwnT.conv (OwnT.pre (A:=layB) (a:=d.wiped) (c:=[.bool d.wiped]) ⟨rfl,trivial,rfl⟩ h)
theorem Three.chgl3 {w wc w':World} {c1 c2 c3:Array Value} {t1 t2 t3:TypeId} (h:Three w wc c1 c2 c3 t1 t2 t3) (c3':Array Value) (hb:Box w' (w.heap.size+1+1) c3' t3) (hc:ChgL [w.heap.size+1+1] wc w'):Three w w' c1 c2 c3' t1 t2 t3:=
 ⟨h.b1.chgl hc (by simp only [List.mem_singleton];omega),h.b2.chgl hc (by simp only [List.mem_singleton];omega),hb,h.bel.trans (hc.bel (fun b hb=>by simp only [List.mem_singleton] at hb;omega) h.bel.size)⟩
theorem OwnT.chgl {α:Type} {A:Lay α} {w w':World} {lo hi:Nat} {a:α} {cs:List Value} {K:List Nat} (h:OwnT A w lo hi a cs) (hc:ChgL K w w') (hK:∀ b,b∈K→b<lo):OwnT A w' lo hi a cs:=by
 obtain ⟨M,h1,h2,h3⟩:=h;exact ⟨M,A.own_kept h1 (fun b hb=>hc.block b (A.own_lt h1 b hb) (fun hh=>by have:=hK b hh;have:=(h3 b hb).1;omega)),h2,h3⟩
set_option maxRecDepth 20000 in
theorem zh0:ToV zab zaS 21:=fun cs d hi w r hhi hn=>by
 obtain ⟨ao1,cap1,ao2,cap2,ao3,cap3,rfl,g1,g2,g3,k0,k4,k5⟩:=zaI r;clear r;unfold zaS lenD at hn
 have hnG:szSl (szSl zam) d.groups≤1048576:=by omega
 have hnO:d.on.1≤1048576:=by omega
 have hnT:szSl zaN d.tapes≤1048576:=by omega
 clear hn;have Q0:=hid k0;have Q4:=hid k4;have Q5:=hid k5;have HG2:=hid g2;obtain ⟨_,_,e1,hm1,hc1⟩:=g1
 cases e1
 obtain ⟨_,_,e3,hm3,hc3⟩:=g3
 cases e3
 have HC1:=hid hc1;have HC3:=hid hc3;have hgn:=zbQ hnG;have htn:=zbQ hnT;have HNG:Hid (∀ i,i<d.groups.1→szSl zam (d.groups.2 i)≤1048576):=fun i hi=>za4 hnG hi;have HNT:Hid (∀ i,i<d.tapes.1→zaN (d.tapes.2 i)≤1048576):=fun i hi=>za4 hnT hi;clear k0 k4 k5 g2 hc1 hc3 hnG hnT hm1 hm3;have T0:=zbM w (rwW d ao1 cap1 ao2 cap2 ao3 cap3).toArray (rwV 0 0 0 0 0 0 0 0 0 none 0 0 none 0 0 none 0 0 0 0 false).toArray #[.int .i64 (d.shape 0),.int .i64 (d.shape 1),.int .i64 (d.shape 2),.int .i64 (d.shape 3),.int .i64 (d.shape 4),.int .i64 (d.shape 5),.int .i64 (d.shape 6),.int .i64 (d.shape 7),.int .i64 (d.shape 8),.slice none 0 0,.slice ao2 d.on.1 cap2,.slice ao3 d.tapes.1 cap3,.int .i64 d.writes,.int .i64 d.stop,.bool d.down] 34 34 34
 go_enter Tryz.func21,Tryz.ntmps21
 go_wp2
 go_loopw [4] (fun i wr=>∃ (g:Nat) (ga:Option Addr) (gc:Nat),g≤d.groups.1∧i=.int .i64 g∧Three w wr (rwW d ao1 cap1 ao2 cap2 ao3 cap3).toArray (rwV 0 0 0 0 0 0 0 0 0 none 0 0 none 0 0 none 0 0 0 0 false).toArray #[.int .i64 (d.shape 0),.int .i64 (d.shape 1),.int .i64 (d.shape 2),.int .i64 (d.shape 3),.int .i64 (d.shape 4),.int .i64 (d.shape 5),.int .i64 (d.shape 6),.int .i64 (d.shape 7),.int .i64 (d.shape 8),.slice ga g gc,.slice ao2 d.on.1 cap2,.slice ao3 d.tapes.1 cap3,.int .i64 d.writes,.int .i64 d.stop,.bool d.down] 34 34 34∧Gat (zaa.slice 77) 78 wr (w.heap.size+1+1+1) (.slice ga g gc) g d.groups.2) (fun i _=>d.groups.1-(intOf i).toNat)
 case atStart=>exact ⟨0,none,0,Nat.zero_le _,rfl,T0,Gat.nil _ _ _⟩
 case round=>
  clear T0;obtain ⟨g,ga,gc,hg,rfl,T1,G1⟩:=hrel;obtain ⟨wo,rfl⟩:∃ x,x=wr:=⟨_,rfl⟩;have HT1:=hid T1;have HG1:=hid G1;have zo:w.heap.size+1+1+1≤wo.heap.size:=T1.lt;have x9:wo.cell? ⟨w.heap.size,9,none⟩=some (.slice ao1 d.groups.1 cap1):=T1.b1.cell 9
  by_cases hlg:g<d.groups.1
  ·obtain ⟨b1,off1,he1,hb1,hel1⟩:=HC1.out (by omega)
   subst he1;obtain ⟨cg,hrg,hcg⟩:=zar (t:=0) hel1 T1.bel hhi hb1 hlg;obtain ⟨ao9,cap9,rfl⟩:=zbl hrg
   have c0:wo.cell? ⟨b1,off1+g,none⟩=some (.slice ao9 (d.groups.2 g).1 cap9):=by
    have:=hcg 0 (by decide)
    have e:off1+(g*(zaa.slice 77).sz+0)=off1+g:=by show off1+(g*1+0)=off1+g;omega
    rw [e] at this;exact this
   have HC0:=hid c0;have hnD:=HNG.out g hlg;have hdn:=zbQ hnD;have HND:Hid (∀ i,i<(d.groups.2 g).1→zam ((d.groups.2 g).2 i)≤1048576):=fun i hi=>za4 hnD hi;obtain ⟨_,_,e9,hm9,hc9⟩:=hrg
   cases e9
   have HC9:=hid hc9;clear hel1 hcg T1 G1 hc9 hnD hm9;go_wp2
   go_loopw [5,6] (fun v i wx=>∃ (k:Nat) (da:Option Addr) (dc:Nat),k≤(d.groups.2 g).1∧i=.int .i64 k∧v=.slice da k dc∧Gat zaa 77 wx wo.heap.size (.slice da k dc) k (d.groups.2 g).2∧Below wo.heap.size wo wx) (fun _ i _=>(d.groups.2 g).1-(intOf i).toNat)
   case atStart=>exact ⟨0,_,_,Nat.zero_le _,rfl,rfl,zgG _ _,(Below.refl _ _).alloc (Nat.le_refl _) _⟩
   case round=>
    clear x9 c0;obtain ⟨k,da,dc,hk,rfl,rfl,G2,B2⟩:=hrel;obtain ⟨wx,rfl⟩:∃ x,x=wr:=⟨_,rfl⟩;have HG2':=hid G2;have HB2:=hid B2;have zx:wo.heap.size≤wx.heap.size:=B2.size;have x9:wx.cell? ⟨w.heap.size,9,none⟩=some (.slice (some ⟨b1,off1,none⟩) d.groups.1 cap1):=(HT1.out.call B2).b1.cell 9;have c0:wx.cell? ⟨b1,off1+g,none⟩=some (.slice ao9 (d.groups.2 g).1 cap9):=(B2.cell (p:=⟨b1,off1+g,none⟩) (by show b1<wo.heap.size;omega)).trans HC0.out
    by_cases hlk:k<(d.groups.2 g).1
    ·obtain ⟨b9,off9,he9,hb9,hel9⟩:=HC9.out (by omega)
     subst he9;obtain ⟨cd,hrd,hcd⟩:=zar (t:=0) hel9 B2 (by omega) hb9 hlk;obtain ⟨ao5,cap5,rfl,g5⟩:=zbb hrd;obtain ⟨D,hD⟩:∃ x,x=(d.groups.2 g).2 k:=⟨_,rfl⟩;rw [← hD] at hcd g5;have HD:=hid hD
     have hnB:szSl zax D.blocks≤1048576:=by rw [hD];exact HND.out k hlk
     have hbn:=zbQ hnB;have HNB:Hid (∀ i,i<D.blocks.1→zax (D.blocks.2 i)≤1048576):=fun i hi=>za4 hnB hi;have c2:wx.cell? ⟨b9,off9+k*2,none⟩=some (.bool D.wiped):=hcd 0 (by decide);have c3:wx.cell? ⟨b9,off9+k*2+1,none⟩=some (.slice ao5 D.blocks.1 cap5):=hcd 1 (by decide);have HC3':=hid c3;have HC0':=hid c0;obtain ⟨_,_,e5,hm5,hc5⟩:=g5
     cases e5
     have HC5:=hid hc5;clear hel9 hcd hrd G2 B2 hD hnB hc5 hm5;go_wp2;have bA:=bAl wx (.cells #[.bool D.wiped,.slice none 0 0] 77);have XA:=zaC wx #[.bool D.wiped,.slice none 0 0] 77
     go_loopw [8] (fun i wz=>∃ (q:Nat) (ba:Option Addr) (bc:Nat),q≤D.blocks.1∧i=.int .i64 q∧Box wz wx.heap.size #[.bool D.wiped,.slice ba q bc] 77∧Gat zag 90 wz (wx.heap.size+1) (.slice ba q bc) q D.blocks.2∧Below wx.heap.size wx wz) (fun i _=>D.blocks.1-(intOf i).toNat)
     case atStart=>exact ⟨0,none,0,Nat.zero_le _,rfl,XA,Gat.nil _ _ _,bA⟩
     case round=>
      clear x9 c0 c2 c3 bA XA;obtain ⟨q,ba,bc,hq,rfl,X3,G3,B3⟩:=hrel;obtain ⟨wz,rfl⟩:∃ x,x=wr:=⟨_,rfl⟩;have HX3:=hid X3;have HG3:=hid G3;have HB3:=hid B3;have zz:wx.heap.size<wz.heap.size:=X3.lt;have x9:wz.cell? ⟨w.heap.size,9,none⟩=some (.slice (some ⟨b1,off1,none⟩) d.groups.1 cap1):=((HT1.out.call HB2.out).call B3).b1.cell 9;have c0:wz.cell? ⟨b1,off1+g,none⟩=some (.slice (some ⟨b9,off9,none⟩) (d.groups.2 g).1 cap9):=(B3.cell (p:=⟨b1,off1+g,none⟩) (by show b1<wx.heap.size;omega)).trans HC0'.out;have c3:wz.cell? ⟨b9,off9+k*2+1,none⟩=some (.slice ao5 D.blocks.1 cap5):=(B3.cell (p:=⟨b9,off9+k*2+1,none⟩) (by show b9<wx.heap.size;omega)).trans HC3'.out;have y0:wz.cell? ⟨wx.heap.size,0,none⟩=some (.bool D.wiped):=X3.cell 0;have y1:wz.cell? ⟨wx.heap.size,1,none⟩=some (.slice ba q bc):=X3.cell 1
      by_cases hlq:q<D.blocks.1
      ·obtain ⟨b5,off5,he5,hb5,hel5⟩:=HC5.out (by omega)
       subst he5;obtain ⟨cb,hrb,hcb⟩:=zar (t:=0) hel5 B3 (by omega) hb5 hlq;obtain ⟨ao0,cap0,rfl,-⟩:=za6 hrb;have s0:wz.cell? ⟨b5,off5+q*2,none⟩=some (.int .i64 (D.blocks.2 q).stamp):=hcb 0 (by decide);have s1:wz.cell? ⟨b5,off5+q*2+1,none⟩=some (.slice ao0 (D.blocks.2 q).bytes.1 cap0):=hcb 1 (by decide);have CC:=zea _ (D.blocks.2 q) hi wz.drew (zag.rd_below (B:=hi) hrb ⟨rfl,rfl,rfl,Nat.le_refl _,fun _ _=>rfl⟩ (Nat.le_refl _)) (show hi≤wz.heap.size by omega) (HNB.out q hlq)
       have CC:=CC.mono (R':=fun e w'=>∃ bo bcc,e=.returned (.agg #[.int .i64 (D.blocks.2 q).stamp,.slice bo (D.blocks.2 q).bytes.1 bcc])∧OwnT zag w' wz.drew.heap.size w'.heap.size (D.blocks.2 q) [.int .i64 (D.blocks.2 q).stamp,.slice bo (D.blocks.2 q).bytes.1 bcc]∧Below wz.drew.heap.size wz.drew w') (fun e w' ⟨c5,he,o5,b5'⟩=>by
        obtain ⟨bo,bcc,rfl⟩:=zcP o5
        exact ⟨bo,bcc,he,o5,b5'⟩)
       clear hel5 hcb hrb X3 G3 B3;have KS:∀ w',Below (wx.heap.size+1) wz w'→(w'.cell? ⟨w.heap.size,9,none⟩=some (.slice (some ⟨b1,off1,none⟩) d.groups.1 cap1)∧w'.cell? ⟨b1,off1+g,none⟩=some (.slice (some ⟨b9,off9,none⟩) (d.groups.2 g).1 cap9)∧w'.cell? ⟨b9,off9+k*2+1,none⟩=some (.slice (some ⟨b5,off5,none⟩) D.blocks.1 cap5)∧w'.cell? ⟨b5,off5+q*2,none⟩=some (.int .i64 (D.blocks.2 q).stamp)∧w'.cell? ⟨b5,off5+q*2+1,none⟩=some (.slice ao0 (D.blocks.2 q).bytes.1 cap0)∧w'.cell? ⟨wx.heap.size,1,none⟩=some (.slice ba q bc)):=fun w' hb=>⟨(hb.cell (p:=⟨w.heap.size,9,none⟩) (by show w.heap.size<wx.heap.size+1;omega)).trans x9,(hb.cell (p:=⟨b1,off1+g,none⟩) (by show b1<wx.heap.size+1;omega)).trans c0,(hb.cell (p:=⟨b9,off9+k*2+1,none⟩) (by show b9<wx.heap.size+1;omega)).trans c3,(hb.cell (p:=⟨b5,off5+q*2,none⟩) (by show b5<wx.heap.size+1;omega)).trans s0,(hb.cell (p:=⟨b5,off5+q*2+1,none⟩) (by show b5<wx.heap.size+1;omega)).trans s1,(hb.cell (p:=⟨wx.heap.size,1,none⟩) (Nat.lt_succ_self _)).trans y1⟩
       have i1:(0:Int)≤(g:Int):=by omega
       have i2:(g:Int)<(d.groups.1:Int):=by omega
       have i3:(0:Int)≤(k:Int):=by omega
       have i4:(k:Int)<((d.groups.2 g).1:Int):=by omega
       have i5:(0:Int)≤(q:Int):=by omega
       have i6:(q:Int)<(D.blocks.1:Int):=by omega
       go_upto_region 14 with fail
       refine zce 18 (fun w'=>w'.cell? ⟨w.heap.size,9,none⟩=some (.slice (some ⟨b1,off1,none⟩) d.groups.1 cap1)∧w'.cell? ⟨b1,off1+g,none⟩=some (.slice (some ⟨b9,off9,none⟩) (d.groups.2 g).1 cap9)∧w'.cell? ⟨b9,off9+k*2+1,none⟩=some (.slice (some ⟨b5,off5,none⟩) D.blocks.1 cap5)∧w'.cell? ⟨b5,off5+q*2,none⟩=some (.int .i64 (D.blocks.2 q).stamp)∧w'.cell? ⟨b5,off5+q*2+1,none⟩=some (.slice ao0 (D.blocks.2 q).bytes.1 cap0)∧w'.cell? ⟨wx.heap.size,1,none⟩=some (.slice ba q bc)) (by kernel_rfl) (KS _ ⟨rfl,rfl,rfl,Nat.le_refl _,fun _ _=>rfl⟩) (fun hHeld=>?_);refine ziV 0 rfl ?_
       try simp only [Act.put,SL]
       refine ziV 1 rfl ?_
       try simp only [Act.put,SL]
       refine ziV 2 rfl ?_
       try simp only [Act.put,SL]
       refine ziV 3 rfl ?_
       try simp only [Act.put,SL]
       refine ziV 4 rfl ?_
       try simp only [Act.put,SL]
       refine ziV 5 rfl ?_
       try simp only [Act.put,SL]
       refine ziV 6 rfl ?_
       try simp only [Act.put,SL]
       refine ziV 7 rfl ?_
       try simp only [Act.put,SL]
       refine ziV 8 rfl ?_
       try simp only [Act.put,SL]
       refine ziV 9 rfl ?_
       try simp only [Act.put,SL]
       refine ziV 10 rfl ?_
       try simp only [Act.put,SL]
       refine ziV 11 rfl ?_
       try simp only [Act.put,SL]
       refine ziV 12 rfl ?_
       try simp only [Act.put,SL]
       refine ziV 13 rfl ?_
       try simp only [Act.put,SL]
       refine zbh (i:=14) (o:=_) rfl (by kernel_rfl) (fun K hK=>?_)
       refine zdD rfl 50 _ _ rfl #[.agg #[.int .i64 (D.blocks.2 q).stamp,.slice ao0 (D.blocks.2 q).bytes.1 cap0]] ?_ Tryz.func50 (by kernel_rfl) (by kernel_rfl) CC ?_;(simp [Act.eval,Act.put]);rintro ee w5 ⟨bo,bcc,rfl,o5,b5'⟩;have b5w:Below wz.heap.size wz w5:=⟨b5'.os,b5'.tape,b5'.output,b5'.size,b5'.block⟩;have q1:w5.cell? ⟨wx.heap.size,1,none⟩=some (.slice ba q bc):=(HX3.out.call b5w).cell 1;have q3:=(zbX w5 (.cells #[.int .i64 (D.blocks.2 q).stamp,.slice bo (D.blocks.2 q).bytes.1 bcc] 90) wx.heap.size 1 (by have:=b5w.size;omega)).trans q1;refine ⟨_,rfl,?_⟩
       refine hK.out _ _ (KS _ (b5w.mono (Nat.succ_le_of_lt zz))) (fun hHeld=>?_);clear hK K
       try simp only [Act.put,SL]
       refine zbh (i:=15) (o:=_) rfl (by kernel_rfl) (fun K hK=>?_);go_simp;refine hK.out _ _ (KS _ ((b5w.mono (Nat.succ_le_of_lt zz)).alloc (by have:=b5w.size;omega) _)) (fun hHeld=>?_);clear hK K
       try simp only [Act.put,SL]
       refine zbh (i:=16) (o:=_) rfl (by kernel_rfl) (fun K hK=>?_)
       refine zdm zeA rfl (.tmp 55) (.tmp 69) rfl (lo:=wx.heap.size+1) (n:=q) (v:=.slice ba q bc) (x:=D.blocks.2) ?_ HG3.out b5w o5 ?_ w5.heap.size 1 ?_ (fun j _=>zcz w5 _ _ j) (by omega) (by omega) ?_;(simp [Act.eval,Act.put]);(exact (Below.refl _ _).alloc (Nat.le_refl _) _);(simp [Act.eval,Act.put]);intro v4 w4 g4 b4;obtain ⟨ba4,bc4,rfl⟩:=g4.form;have X4:=HX3.out.below b4 (Nat.lt_succ_self _);have p1:w4.cell? ⟨wx.heap.size,1,none⟩=some (.slice ba q bc):=X4.cell 1;have p2:w4.frozen? ⟨wx.heap.size,1,none⟩=false:=X4.frozen 1
       refine hK.out _ _ (KS _ b4) (fun hHeld=>?_);clear hK K
       try simp only [Act.put,SL]
       refine zbh (i:=17) (o:=_) rfl (by kernel_rfl) (fun K hK=>?_);go_simp;refine hK.out _ _ (KS _ b4) (fun hHeld=>?_);clear hK K
       try simp only [Act.put,SL]
       refine zcc (o:=_) rfl (by kernel_rfl) (fun K hK=>?_);go_simp;refine hK.out _ _ ?_;clear hK K
       try simp only [Act.put,SL]
       refine zcd (by kernel_rfl) ?_ _;go_wp2
       go_roundw
       case rel=>exact ⟨q+1,ba4,bc4,by omega,by go_num,X4.setc 1 (.slice ba4 (q+1) bc4),(g4.set _ _ _ (Nat.lt_succ_self _)).congr (fun i _=>by rw [zbU]),(HB3.out.trans (b4.mono (Nat.le_succ _))).setCell (Nat.le_refl _) _⟩
       case measure=>simp [intOf];omega
      ·obtain rfl:q=D.blocks.1:=by omega
       have OD:OwnT zaa wz wx.heap.size wz.heap.size D [.bool D.wiped,.slice ba D.blocks.1 bc]:=drive_of' (HG3.out.own.weaken (Nat.le_succ _) (Nat.le_refl _));clear X3 G3 B3
       go_wp2_with (at_builtin;refine zde zeB rfl (.tmp 72) (.tmp 74) rfl (lo:=wo.heap.size) (n:=k) (v:=.slice da k dc) (x:=(d.groups.2 g).2) ?_ HG2'.out HB3.out OD ?_ wz.heap.size 1 ?_ (fun j _=>zcz wz _ _ j) (by omega) (by omega) ?_;(simp [Act.eval]);(exact (Below.refl _ _).alloc (Nat.le_refl _) _);(simp [Act.eval]);intro v4 w4 g4 b4;obtain ⟨da4,dc4,rfl⟩:=g4.form)
       go_roundw
       case rel=>exact ⟨k+1,da4,dc4,by omega,by go_num,rfl,g4.congr (fun i _=>by rw [HD.out,zbU]),HB2.out.trans b4⟩
       case measure=>simp [intOf];omega
    ·obtain rfl:k=(d.groups.2 g).1:=by omega
     have OG:OwnT (zaa.slice 77) wx wo.heap.size wx.heap.size (d.groups.2 g) [.slice da (d.groups.2 g).1 dc]:=HG2'.out.own;have T2:=HT1.out.call B2;have e9:wx.cell? ⟨w.heap.size+1+1,9,none⟩=some (.slice ga g gc):=T2.b3.cell 9;have e9':=(zbX wx (.cells #[.slice da (d.groups.2 g).1 dc] 78) (w.heap.size+1+1) 9 (by omega)).trans e9;clear T2 G2 B2
     go_wp2_with (at_builtin;refine zde zdP rfl (.tmp 77) (.tmp 79) rfl (lo:=w.heap.size+1+1+1) (n:=g) (v:=.slice ga g gc) (x:=d.groups.2) ?_ HG1.out HB2.out OG ?_ wx.heap.size 1 ?_ (fun j _=>zcz wx _ _ j) (by omega) (by omega) ?_;(simp [Act.eval]);(exact (Below.refl _ _).alloc (Nat.le_refl _) _);(simp [Act.eval]);intro v4 w4 g4 b4;obtain ⟨ga4,gc4,rfl⟩:=g4.form;have T4:=HT1.out.low b4;have p1:w4.cell? ⟨w.heap.size+1+1,9,none⟩=some (.slice ga g gc):=T4.b3.cell 9;have p2:w4.frozen? ⟨w.heap.size+1+1,9,none⟩=false:=T4.b3.frozen 9)
     go_roundw
     case rel=>exact ⟨g+1,ga4,gc4,by omega,by go_num,T4.st3 9 [.slice ga4 (g+1) gc4] rfl,(g4.set _ _ _ (by omega)).congr (fun i _=>by rw [zbU])⟩
     case measure=>simp [intOf];omega
  ·obtain rfl:g=d.groups.1:=by omega
   have bA:=bAl wo (.cells #[] 2);have TA:=T1.call bA;obtain ⟨v',w2,hrun,o2,b2⟩:=zds 25 (wo.alloc (.cells #[] 2)) wo.heap.size (zdX wo 2) (zaj.rd_below HG2.out TA.bel hhi) (show d.on.1≤10000000 by omega);obtain ⟨oa,oc,hv⟩:=zbL o2;obtain rfl:=zaH hv;clear hv;have T2:Three w w2 (rwW d ao1 cap1 ao2 cap2 ao3 cap3).toArray (rwV 0 0 0 0 0 0 0 0 0 none 0 0 none 0 0 none 0 0 0 0 false).toArray (rwW d ga gc ao2 cap2 ao3 cap3).toArray 34 34 34:=TA.low (b2.mono zo)
   have G2:Gat (zaa.slice 77) 78 w2 (w.heap.size+1+1+1) (.slice ga d.groups.1 gc) d.groups.1 d.groups.2:=by
    have h1:Below wo.heap.size wo w2:=bA.trans b2;exact G1.below h1
   have xa:(wo.alloc (.cells #[] 2)).cell? ⟨w.heap.size,10,none⟩=some (.slice ao2 d.on.1 cap2):=TA.b1.cell 10;have xb:w2.cell? ⟨w.heap.size+1+1,10,none⟩=some (.slice ao2 d.on.1 cap2):=T2.b3.cell 10;have xf:w2.frozen? ⟨w.heap.size+1+1,10,none⟩=false:=T2.b3.frozen 10;have T3:=T2.st3 10 [.slice oa d.on.1 oc] (c3':=(rwW d ga gc oa oc ao3 cap3)) rfl;have T4:Three w (stN (stN w2 (w.heap.size+1+1) 10 [.slice oa d.on.1 oc]) (w.heap.size+1+1) 11 [.slice none 0 0]) (rwW d ao1 cap1 ao2 cap2 ao3 cap3).toArray (rwV 0 0 0 0 0 0 0 0 0 none 0 0 none 0 0 none 0 0 0 0 false).toArray #[.int .i64 (d.shape 0),.int .i64 (d.shape 1),.int .i64 (d.shape 2),.int .i64 (d.shape 3),.int .i64 (d.shape 4),.int .i64 (d.shape 5),.int .i64 (d.shape 6),.int .i64 (d.shape 7),.int .i64 (d.shape 8),.slice ga d.groups.1 gc,.slice oa d.on.1 oc,.slice none 0 0,.int .i64 d.writes,.int .i64 d.stop,.bool d.down] 34 34 34:=T3.st3 11 [.slice none 0 0] (c3':=[.int .i64 (d.shape 0),.int .i64 (d.shape 1),.int .i64 (d.shape 2),.int .i64 (d.shape 3),.int .i64 (d.shape 4),.int .i64 (d.shape 5),.int .i64 (d.shape 6),.int .i64 (d.shape 7),.int .i64 (d.shape 8),.slice ga d.groups.1 gc,.slice oa d.on.1 oc,.slice none 0 0,.int .i64 d.writes,.int .i64 d.stop,.bool d.down]) rfl;have O4:=(o2.stN (w.heap.size+1+1) 10 [.slice oa d.on.1 oc] (by omega)).stN (w.heap.size+1+1) 11 [.slice none 0 0] (by omega);have G4:Gat (zaa.slice 77) 78 (stN (stN w2 (w.heap.size+1+1) 10 [.slice oa d.on.1 oc]) (w.heap.size+1+1) 11 [.slice none 0 0]) (w.heap.size+1+1+1) (.slice ga d.groups.1 gc) d.groups.1 d.groups.2:=(G2.set _ 10 _ (by omega)).set _ 11 _ (by omega);have xc:(w2.setCell ⟨w.heap.size+1+1,10,none⟩ (.slice oa d.on.1 oc)).cell? ⟨w.heap.size+1+1,11,none⟩=some (.slice ao3 d.tapes.1 cap3):=T3.b3.cell 11;have xg:(w2.setCell ⟨w.heap.size+1+1,10,none⟩ (.slice oa d.on.1 oc)).frozen? ⟨w.heap.size+1+1,11,none⟩=false:=T3.b3.frozen 11;have z2:wo.heap.size≤w2.heap.size:=Nat.le_trans bA.size b2.size
   have ez:(stN (stN w2 (w.heap.size+1+1) 10 [.slice oa d.on.1 oc]) (w.heap.size+1+1) 11 [.slice none 0 0]).heap.size=w2.heap.size:=by rw [zbA,zbA]
   have GO:OwnT ((zaa.slice 77).slice 78) wo (w.heap.size+1+1+1) wo.heap.size d.groups [.slice ga d.groups.1 gc]:=G1.own;have GO4:=((GO.call (bA.trans b2)).stN (w.heap.size+1+1) 10 [.slice oa d.on.1 oc] (by omega)).stN (w.heap.size+1+1) 11 [.slice none 0 0] (by omega);clear T1 TA T2 T3 G1 G2 G4 o2 b2 bA GO
   go_upto_region 19 with (at_builtin;refine zeN rfl (.tmp 82) (.tmp 84) rfl ?_ ?_ hrun ?_;(simp [Act.eval]);(simp [Act.eval]))
   obtain ⟨W4,hW4⟩:∃ x,x=stN (stN w2 (w.heap.size+1+1) 10 [.slice oa d.on.1 oc]) (w.heap.size+1+1) 11 [.slice none 0 0]:=⟨_,rfl⟩
   change Code.wp Tryz.prog _ _ _ (stN (stN w2 (w.heap.size+1+1) 10 [.slice oa d.on.1 oc]) (w.heap.size+1+1) 11 [.slice none 0 0])
   rw [← hW4] at T4 O4 GO4 ez ⊢;have HT4:=hid T4;have HO4:=hid O4;have HGO:=hid GO4;clear T4 O4 GO4 hW4 xa xb xf xc xg hrun x9;go_wp2
   go_loopw [9] (fun i wr=>∃ (t:Nat) (ta:Option Addr) (tc:Nat),t≤d.tapes.1∧i=.int .i64 t∧Box wr (w.heap.size+1+1) #[.int .i64 (d.shape 0),.int .i64 (d.shape 1),.int .i64 (d.shape 2),.int .i64 (d.shape 3),.int .i64 (d.shape 4),.int .i64 (d.shape 5),.int .i64 (d.shape 6),.int .i64 (d.shape 7),.int .i64 (d.shape 8),.slice ga d.groups.1 gc,.slice oa d.on.1 oc,.slice ta t tc,.int .i64 d.writes,.int .i64 d.stop,.bool d.down] 34∧Gat zah 57 wr W4.heap.size (.slice ta t tc) t d.tapes.2∧ChgL [w.heap.size+1+1] W4 wr) (fun i _=>d.tapes.1-(intOf i).toNat)
   case atStart=>exact ⟨0,none,0,Nat.zero_le _,rfl,HT4.out.b3,Gat.nil _ _ _,ChgL.refl _ _⟩
   case round=>
    obtain ⟨t,ta,tc,ht,rfl,X5,G5,C5⟩:=hrel;obtain ⟨wx,rfl⟩:∃ x,x=wr:=⟨_,rfl⟩;have T5:Three w wx (rwW d ao1 cap1 ao2 cap2 ao3 cap3).toArray (rwV 0 0 0 0 0 0 0 0 0 none 0 0 none 0 0 none 0 0 0 0 false).toArray #[.int .i64 (d.shape 0),.int .i64 (d.shape 1),.int .i64 (d.shape 2),.int .i64 (d.shape 3),.int .i64 (d.shape 4),.int .i64 (d.shape 5),.int .i64 (d.shape 6),.int .i64 (d.shape 7),.int .i64 (d.shape 8),.slice ga d.groups.1 gc,.slice oa d.on.1 oc,.slice ta t tc,.int .i64 d.writes,.int .i64 d.stop,.bool d.down] 34 34 34:=HT4.out.chgl3 _ X5 C5;have HT5:=hid T5;have HG5:=hid G5;have HC5:=hid C5;have zx:W4.heap.size≤wx.heap.size:=C5.size;have x11:wx.cell? ⟨w.heap.size,11,none⟩=some (.slice ao3 d.tapes.1 cap3):=T5.b1.cell 11;have e11:wx.cell? ⟨w.heap.size+1+1,11,none⟩=some (.slice ta t tc):=T5.b3.cell 11
    by_cases hlt:t<d.tapes.1
    ·obtain ⟨b3,off3,he3,hb3,hel3⟩:=HC3.out (by omega)
     subst he3;obtain ⟨ct,hrt,hct⟩:=zar (t:=0) hel3 T5.bel hhi hb3 hlt;obtain ⟨ao7,cap7,rfl,g7⟩:=za7 hrt;have c0:wx.cell? ⟨b3,off3+t*2,none⟩=some (.bool (d.tapes.2 t).wiped):=hct 0 (by decide);have c1:wx.cell? ⟨b3,off3+t*2+1,none⟩=some (.slice ao7 (d.tapes.2 t).recs.1 cap7):=hct 1 (by decide);have HCA:=hid c0;have CC:=zeS _ (d.tapes.2 t).recs hi wx.drew ((zac.slice 94).rd_below (B:=hi) g7 ⟨rfl,rfl,rfl,Nat.le_refl _,fun _ _=>rfl⟩ (Nat.le_refl _)) (show hi≤wx.heap.size by omega) (HNT.out t hlt)
     have CC:=CC.mono (R':=fun e w'=>∃ ra rc,e=.returned (.slice ra (d.tapes.2 t).recs.1 rc)∧OwnT (zac.slice 94) w' wx.drew.heap.size w'.heap.size (d.tapes.2 t).recs [.slice ra (d.tapes.2 t).recs.1 rc]∧Below wx.drew.heap.size wx.drew w') (fun e w' ⟨v5,he,o5,b5'⟩=>by
      obtain ⟨ra,rc,hv5⟩:=zbr o5;obtain rfl:=zaH hv5
      exact ⟨ra,rc,he,o5,b5'⟩)
     clear hel3 hct hrt g7 X5 G5 C5 T5;have KS:∀ w',Below (w.heap.size+1+1+1) wx w'→(w'.cell? ⟨w.heap.size,11,none⟩=some (.slice (some ⟨b3,off3,none⟩) d.tapes.1 cap3)∧w'.cell? ⟨b3,off3+t*2,none⟩=some (.bool (d.tapes.2 t).wiped)∧w'.cell? ⟨b3,off3+t*2+1,none⟩=some (.slice ao7 (d.tapes.2 t).recs.1 cap7)∧w'.cell? ⟨w.heap.size+1+1,11,none⟩=some (.slice ta t tc)):=fun w' hb=>⟨(hb.cell (p:=⟨w.heap.size,11,none⟩) (by show w.heap.size<w.heap.size+1+1+1;omega)).trans x11,(hb.cell (p:=⟨b3,off3+t*2,none⟩) (by show b3<w.heap.size+1+1+1;omega)).trans c0,(hb.cell (p:=⟨b3,off3+t*2+1,none⟩) (by show b3<w.heap.size+1+1+1;omega)).trans c1,(hb.cell (p:=⟨w.heap.size+1+1,11,none⟩) (Nat.lt_succ_self _)).trans e11⟩
     have i1:(0:Int)≤(t:Int):=by omega
     have i2:(t:Int)<(d.tapes.1:Int):=by omega
     go_upto_region 22 with fail
     refine zce 19 (fun w'=>w'.cell? ⟨w.heap.size,11,none⟩=some (.slice (some ⟨b3,off3,none⟩) d.tapes.1 cap3)∧w'.cell? ⟨b3,off3+t*2,none⟩=some (.bool (d.tapes.2 t).wiped)∧w'.cell? ⟨b3,off3+t*2+1,none⟩=some (.slice ao7 (d.tapes.2 t).recs.1 cap7)∧w'.cell? ⟨w.heap.size+1+1,11,none⟩=some (.slice ta t tc)) (by kernel_rfl) (KS _ ⟨rfl,rfl,rfl,Nat.le_refl _,fun _ _=>rfl⟩) (fun hHeld=>?_);refine ziV 0 rfl ?_
     try simp only [Act.put,SL]
     refine ziV 1 rfl ?_
     try simp only [Act.put,SL]
     refine ziV 2 rfl ?_
     try simp only [Act.put,SL]
     refine ziV 3 rfl ?_
     try simp only [Act.put,SL]
     refine ziV 4 rfl ?_
     try simp only [Act.put,SL]
     refine ziV 5 rfl ?_
     try simp only [Act.put,SL]
     refine ziV 6 rfl ?_
     try simp only [Act.put,SL]
     refine ziV 7 rfl ?_
     try simp only [Act.put,SL]
     refine ziV 8 rfl ?_
     try simp only [Act.put,SL]
     refine ziV 9 rfl ?_
     try simp only [Act.put,SL]
     refine ziV 10 rfl ?_
     try simp only [Act.put,SL]
     refine ziV 11 rfl ?_
     try simp only [Act.put,SL]
     refine ziV 12 rfl ?_
     try simp only [Act.put,SL]
     refine ziV 13 rfl ?_
     try simp only [Act.put,SL]
     refine zbh (i:=14) (o:=_) rfl (by kernel_rfl) (fun K hK=>?_)
     refine zdD rfl 51 _ _ rfl #[.slice ao7 (d.tapes.2 t).recs.1 cap7] ?_ Tryz.func51 (by kernel_rfl) (by kernel_rfl) CC ?_;(simp [Act.eval,Act.put]);rintro ee w5 ⟨ra,rc,rfl,o5,b5'⟩;have b5w:Below wx.heap.size wx w5:=⟨b5'.os,b5'.tape,b5'.output,b5'.size,b5'.block⟩;have T6:=HT5.out.call b5w;have q1:w5.cell? ⟨w.heap.size+1+1,11,none⟩=some (.slice ta t tc):=T6.b3.cell 11;have q3:=(zbX w5 (.cells #[.bool (d.tapes.2 t).wiped,.slice ra (d.tapes.2 t).recs.1 rc] 57) (w.heap.size+1+1) 11 (by have:=b5w.size;omega)).trans q1;clear T6;refine ⟨_,rfl,?_⟩
     refine hK.out _ _ (KS _ (b5w.mono (by omega))) (fun hHeld=>?_);clear hK K
     try simp only [Act.put,SL]
     refine ziV 15 rfl ?_
     try simp only [Act.put,SL]
     refine zbh (i:=16) (o:=_) rfl (by kernel_rfl) (fun K hK=>?_);go_simp;refine hK.out _ _ (KS _ ((b5w.mono (by omega)).alloc (by have:=b5w.size;omega) _)) (fun hHeld=>?_);clear hK K
     try simp only [Act.put,SL]
     refine zbh (i:=17) (o:=_) rfl (by kernel_rfl) (fun K hK=>?_)
     refine zdm zf5 rfl (.tmp 96) (.tmp 111) rfl (lo:=W4.heap.size) (n:=t) (v:=.slice ta t tc) (x:=d.tapes.2) ?_ HG5.out b5w (tape_of' o5) ?_ w5.heap.size 1 ?_ (fun j _=>zcz w5 _ _ j) (by omega) (by omega) ?_;(simp [Act.eval,Act.put]);(exact (Below.refl _ _).alloc (Nat.le_refl _) _);(simp [Act.eval,Act.put]);intro v4 w4 g4 b4;obtain ⟨ta4,tc4,rfl⟩:=g4.form;have X4:=HT5.out.b3.below b4 (by omega);have p1:w4.cell? ⟨w.heap.size+1+1,11,none⟩=some (.slice ta t tc):=X4.cell 11;have p2:w4.frozen? ⟨w.heap.size+1+1,11,none⟩=false:=X4.frozen 11
     refine hK.out _ _ (KS _ (b4.mono (by omega))) (fun hHeld=>?_);clear hK K
     try simp only [Act.put,SL]
     refine zbh (i:=18) (o:=_) rfl (by kernel_rfl) (fun K hK=>?_);go_simp;refine hK.out _ _ (KS _ (b4.mono (by omega))) (fun hHeld=>?_);clear hK K
     try simp only [Act.put,SL]
     refine zcc (o:=_) rfl (by kernel_rfl) (fun K hK=>?_);go_simp;refine hK.out _ _ ?_;clear hK K
     try simp only [Act.put,SL]
     refine zcd (by kernel_rfl) ?_ _;go_wp2
     go_roundw
     case rel=>exact ⟨t+1,ta4,tc4,by omega,by go_num,X4.stL [.slice ta4 (t+1) tc4] 11,(g4.set _ _ _ (by omega)).congr (fun i _=>by rw [zbU]),(HC5.out.after b4).st (w.heap.size+1+1) 11 _ (by simp)⟩
     case measure=>simp [intOf];omega
    ·obtain rfl:t=d.tapes.1:=by omega
     clear X5 e11
     have F0:OwnT zab wx (w.heap.size+1+1+1) wx.heap.size d (rwW d ga gc oa oc ta tc):=by
      have C5':=C5;clear T5 G5 C5;have F:OwnT zab wx (w.heap.size+1+1+1) wx.heap.size d ((rwS d.shape)++([.slice ga d.groups.1 gc]++([.slice oa d.on.1 oc]++([.slice ta d.tapes.1 tc]++([.int .i64 d.writes]++([.int .i64 d.stop]++[.bool d.down])))))):=OwnT.conv (OwnT.pre (A:=(zda 9)) (a:=d.shape) (c:=(rwS d.shape)) ⟨rfl,Q0.out,rfl⟩ (OwnT.two (HGO.out.chgl HC5.out (fun b hb=>by simp at hb;omega)) (OwnT.two (HO4.out.chgl HC5.out (fun b hb=>by simp at hb;omega)) (OwnT.two (HG5.out.own.weaken (show w2.heap.size≤W4.heap.size by omega) (Nat.le_refl _)) (OwnT.pre (A:=layI) (a:=d.writes) (c:=[.int .i64 d.writes]) ⟨rfl,Q4.out,rfl⟩ (OwnT.pre (A:=layI) (a:=d.stop) (c:=[.int .i64 d.stop]) ⟨rfl,Q5.out,rfl⟩ (OwnT.nil (A:=layB) (a:=d.down) (c:=[.bool d.down]) ⟨rfl,trivial,rfl⟩ wx.heap.size wx.heap.size))) (Nat.le_refl _) (by omega) (Nat.le_refl _)) (by omega) (by omega) (by omega)) (by omega) (by omega) (by omega)));exact F
     have HF:=hid F0;clear G5 C5
     go_wp2_with (first | (refine zaq 34 (.tmp 3) rfl rfl (w.heap.size+1+1) rfl T5.b3 Tryz.underlying34 zbz rfl ?_) | (refine zaR 34 _ _ rfl rfl (w.heap.size+1) rfl (cs:=(rwW d ga gc oa oc ta tc)) rfl T5.b2 zbz rfl rfl F0.one ?_;intro w9 X9 C9 z9))
     refine zbT Tryz.results21 rfl X9 Tryz.underlying34 zbz rfl rfl ?_;refine ⟨(rwW d ga gc oa oc ta tc),rfl,?_,?_⟩
     ·exact (HF.out.chgk C9 (fun b hb=>by simp at hb;omega)).weaken (by omega) C9.size
     ·exact T5.bel.trans (C9.bel (fun b hb=>by simp at hb;omega) T5.bel.size)
set_option maxRecDepth 20000 in
theorem zeT (d:WorldD) (g:Int) (k:Int) (cs:List Value) (hi:Nat) (w:World) (h:zab.rd w hi d cs) (hhi:hi≤w.heap.size) (hsz:zaS d≤1048576) (hg:-9223372036854775808≤g∧g≤9223372036854775807) (hk:-9223372036854775808≤k∧k≤9223372036854775807) :
 Calls Tryz.prog 14 #[.agg cs.toArray,.int .i64 g,.int .i64 k] w (zb7 (TrustAns d g k) w):=by
 have h':=h;obtain ⟨ao1,cap1,ao2,cap2,ao3,cap3,rfl,g1,g2,g3,k0,k4,k5⟩:=zaI h';have HRD:=hid h;have HSZ:=hid hsz
 have HG2:Hid (RdI w hi (.slice ao2 d.on.1 cap2) d.on.1 d.on.2):=by
  obtain ⟨_,e2,⟨h2,_⟩,_⟩:=g2
  cases e2
  exact h2
 have Hg:=hid hg;have Hk:=hid hk;clear h h' hsz g1 g2 g3 k0 k4 k5 hg hk;have T0:=zau w (rwW d ao1 cap1 ao2 cap2 ao3 cap3).toArray rwZ.toArray 34 36
 go_enter Tryz.func14,Tryz.ntmps14
 go_wp2_with (refine zaq 34 (.tmp 3) rfl rfl (w.heap.size) rfl (T0.b1) Tryz.underlying34 zbz rfl ?_)
 refine (zgj d _ hi _ (zab.rd_below HRD.out T0.bel hhi) (Nat.le_trans hhi T0.bel.size) HSZ.out).mono ?_;rintro e w1 ⟨x,rfl,hx,b1⟩;have HT1:=hid (T0.call b1);have HX:=hid hx;have z1:w.heap.size+1<w1.heap.size:=HT1.out.b2.lt;clear b1 T0 hx
 by_cases hx0:x=0
 case neg=>
  have hne:(x != 0)=true:=by simp [hx0]
  go_wp2_with (refine zaR 36 _ _ rfl rfl (w.heap.size+1) rfl (cs:=(.int .i64 x::rwY)) rfl (HT1.out.b2) zaK rfl rfl (zb8 _ (zc6 HX.out) w) ?_;intro w9 X9 C9 z9)
  refine zbT Tryz.results14 rfl X9 Tryz.underlying36 zaK rfl rfl ?_;exact zdR (zc6 HX.out) HT1.out.bel C9 (.inl ⟨x,hx0,HX.out,rfl⟩)
 subst hx0;have HOK:=hid (zhR HX.out);have x_0:w1.cell? ⟨w.heap.size,0,none⟩=some (.int .i64 (d.shape 0)):=HT1.out.b1.cell 0;have x_1:w1.cell? ⟨w.heap.size,1,none⟩=some (.int .i64 (d.shape 1)):=HT1.out.b1.cell 1;have x_2:w1.cell? ⟨w.heap.size,2,none⟩=some (.int .i64 (d.shape 2)):=HT1.out.b1.cell 2;have x_3:w1.cell? ⟨w.heap.size,3,none⟩=some (.int .i64 (d.shape 3)):=HT1.out.b1.cell 3;have x_4:w1.cell? ⟨w.heap.size,4,none⟩=some (.int .i64 (d.shape 4)):=HT1.out.b1.cell 4;have x_5:w1.cell? ⟨w.heap.size,5,none⟩=some (.int .i64 (d.shape 5)):=HT1.out.b1.cell 5;have x_6:w1.cell? ⟨w.heap.size,6,none⟩=some (.int .i64 (d.shape 6)):=HT1.out.b1.cell 6;have x_7:w1.cell? ⟨w.heap.size,7,none⟩=some (.int .i64 (d.shape 7)):=HT1.out.b1.cell 7;have x_8:w1.cell? ⟨w.heap.size,8,none⟩=some (.int .i64 (d.shape 8)):=HT1.out.b1.cell 8;have CP:=fun w'=>zgl d.shape HOK.out.shape g k 0 w';unfold zai at CP
 go_wp2_with fail
 refine (CP _).mono ?_;rintro e wA ⟨b,rfl,hb,bA⟩;have HTA:=hid (HT1.out.call bA);have zA:w1.heap.size≤wA.heap.size:=bA.size;have Hb:=hid hb;clear bA CP hb x_0 x_1 x_2 x_3 x_4 x_5 x_6 x_7 x_8
 cases b with
 | false=>
  go_wp2_with (refine zaR 36 _ _ rfl rfl (w.heap.size+1) rfl (cs:=(.int .i64 3::rwY)) rfl (HTA.out.b2) zaK rfl rfl (zb8 _ (by decide) w) ?_;intro w9 X9 C9 z9)
  refine zbT Tryz.results14 rfl X9 Tryz.underlying36 zaK rfl rfl ?_;exact zdR (by decide) HTA.out.bel C9 (.inr ⟨HX.out,.inl ⟨fun h=>(by have:=Hb.out.2 ((ziv HOK.out.shape g k).2 h);cases this),rfl⟩⟩)
 | true=>
 have HD:Hid (zcB d.shape g k):=(ziv HOK.out.shape g k).1 (Hb.out.1 (by simp));have x10:wA.cell? ⟨w.heap.size,10,none⟩=some (.slice ao2 d.on.1 cap2):=HTA.out.b1.cell 10;have CH:=zfm _ _ _ hi g wA (HG2.out.below HTA.out.bel hhi)
 go_wp2_with fail
 refine CH.mono ?_;rintro e w4 ⟨t,rfl,ht,b4⟩;have HT4:=hid (HTA.out.call b4);have z4:wA.heap.size≤w4.heap.size:=b4.size;have HH:=hid ht;clear CH b4 x10 ht
 cases t with
 | false=>
  go_wp2_with (refine zaR 36 _ _ rfl rfl (w.heap.size+1) rfl (cs:=(.int .i64 8::rwY)) rfl (HT4.out.b2) zaK rfl rfl (zb8 _ (by decide) w) ?_;intro w9 X9 C9 z9)
  refine zbT Tryz.results14 rfl X9 Tryz.underlying36 zaK rfl rfl ?_;exact zdR (by decide) HT4.out.bel C9 (.inr ⟨HX.out,.inr ⟨HD.out,.inl ⟨fun h=>(by have:=HH.out.2 h;cases this),rfl⟩⟩⟩)
 | true=>
 have HON:Hid (HasP d.on.1 d.on.2 g):=HH.out.1 (by simp)
 go_wp2_with (refine zaq 34 (.tmp 3) rfl rfl (w.heap.size) rfl (HT4.out.b1) Tryz.underlying34 zbz rfl ?_)
 refine (zh0 _ d hi _ (zab.rd_below HRD.out HT4.out.bel hhi) (Nat.le_trans hhi HT4.out.bel.size) HSZ.out).mono ?_;rintro e w2 ⟨c2,rfl,o2,b2⟩;obtain ⟨p1,c1,p2,c2,p3,c3,K1,K2,K3,rfl,WO2⟩:=zhf o2;have z2:w4.heap.size≤w2.heap.size:=b2.size
 go_upto_region 9 with (refine zbv 34 8 (.tmp 29) _ _ 15 rfl rfl rfl rfl rfl rfl rfl rfl zit rfl rfl o2.one ?_)
 have bA:=bAl w2 (.cells (rwW d p1 c1 p2 c2 p3 c3).toArray 34);have X3:=zaC w2 (rwW d p1 c1 p2 c2 p3 c3).toArray 34;obtain ⟨W3,hW3⟩:∃ x,x=w2.alloc (.cells (rwW d p1 c1 p2 c2 p3 c3).toArray 34):=⟨_,rfl⟩;rw [← hW3] at bA X3 ⊢;have T3:=(HT4.out.call b2).call bA;have WO:=WO2.below bA (Nat.le_refl _);have z3:w2.heap.size<W3.heap.size:=X3.lt;clear bA hW3 o2 b2 WO2;have hup:=ziW HX.out
 by_cases hf:zgL d
 ·have HF:=hid hf
  have CR:=zhh w2.heap.size _ _ _ _ _ _ _ _ _ _ _ _ _ _ _ _ _ _ _ _ _ W3 X3 hup hf.1 hf.2;have O3:=ziH WO.own;clear hf hup
  go_wp2_with fail
  refine CR.mono ?_;rintro e w5 ⟨rfl,X5,C5⟩;have T5:=T3.chgK C5 (fun b hb=>by simp at hb;omega);have O5:=O3.chgk C5 (fun b hb=>by simp at hb;omega);have z5:=C5.size;clear X3 T3 WO O3 C5 CR
  go_wp2_with (first | (refine zaq 34 (.tmp 8) rfl rfl (w2.heap.size) rfl (X5) Tryz.underlying34 zbz rfl ?_) | (refine zaR 36 _ _ rfl rfl (w.heap.size+1) rfl (cs:=[.int .i64 9,.int .i64 (d.shape 0),.int .i64 (d.shape 1),.int .i64 (d.shape 2),.int .i64 (d.shape 3),.int .i64 (d.shape 4),.int .i64 (d.shape 5),.int .i64 (d.shape 6),.int .i64 (d.shape 7),.int .i64 (d.shape 8),.slice p1 d.groups.1 c1,.slice none 0 0,.slice p3 d.tapes.1 c3,.int .i64 d.writes,.int .i64 d.stop,.bool true]) rfl (T5.b2) zaK rfl rfl ((zb0 9 (by decide) O5).one) ?_;intro w9 X9 C9 z9))
  refine zbT Tryz.results14 rfl X9 Tryz.underlying36 zaK rfl rfl ?_;exact zem (by decide) T5.bel C9 O5 (by omega) (by omega) (.inr ⟨HX.out,.inr ⟨HD.out,.inr ⟨HON.out,.inl ⟨HF.out,rfl⟩⟩⟩⟩)
 have HF:=hid hf;have CR:=zij w2.heap.size _ _ _ _ _ _ _ _ _ _ _ _ _ _ _ _ _ _ _ _ _ W3 X3 hup hf (zeR HOK.out);clear hf hup
 go_wp2_with fail
 refine CR.mono ?_;rintro e w5 ⟨rfl,X5,C5⟩;have T5:=T3.chgK C5 (fun b hb=>by simp at hb;omega);have WO5:=WO.chgn C5 (fun b hb hm=>by simp at hb;have:=WO.inn b hm;omega);have z5:=C5.size;clear X3 T3 WO C5 CR;obtain ⟨G,K,rfl,rfl,hG,hK⟩:=zeM HOK.out HD.out;obtain ⟨g1,cc1,gg,cap,ce,Ls,e1,c0,S2,nd2,in2,in1,ng1,back⟩:=WO5.drives (by omega) (by omega) hG (by omega)
 simp only [Value.slice.injEq,true_and] at e1
 obtain ⟨rfl,rfl⟩:=e1;obtain ⟨ao9,cap9,K9,e9,eK9,o9⟩:=zcZ (S2.each K hK);have y0:w5.cell? ⟨gg,K*2,none⟩=some (.bool ((d.groups.2 G).2 K).wiped):=(S2.cell hK (j:=0) (by decide)).trans (by rw [e9];rfl);have f0:w5.frozen? ⟨gg,K*2,none⟩=false:=S2.frozen _;have xg:w5.cell? ⟨w2.heap.size,9,none⟩=some (.slice (some ⟨g1,0,none⟩) d.groups.1 c1):=X5.cell 9
 have i1:(0:Int)≤(G:Int):=by omega
 have i2:(G:Int)<(d.groups.1:Int):=by omega
 have i3:(0:Int)≤(K:Int):=by omega
 have i4:(K:Int)<((d.groups.2 G).1:Int):=by omega
 have TK:Turn zaa w5 (Ls K) w5 (zc8 ((d.groups.2 G).2 K)) ((ce K).set 0 (.bool false)) (Ls K):=by
  rw [e9,eK9];exact ⟨zdy (zc8 ((d.groups.2 G).2 K)) o9,by rw [← eK9];exact zcA (List.nodup_cons.1 nd2).2 hK,fun b hb=>.inl hb,ChgL.refl _ _⟩
 obtain ⟨TT,-⟩:=S2.turn_cell nd2 hK (j:=0) (by decide) (.bool false) TK (w':=w5.setCell ⟨gg,K*zaa.sz+0,none⟩ (.bool false)) rfl;obtain ⟨K1',WO7⟩:=back _ _ _ TT;have X7:=X5.chgl TT.chg (fun hb=>by have:=in2 _ hb;omega);have T7:=T5.chgK TT.chg (fun b hb=>by have:=in2 _ hb;omega);have O7:OwnT zab (w5.setCell ⟨gg,K*zaa.sz+0,none⟩ (.bool false)) w4.heap.size (w5.setCell ⟨gg,K*zaa.sz+0,none⟩ (.bool false)).heap.size (zeQ d G K) [.int .i64 (d.shape 0),.int .i64 (d.shape 1),.int .i64 (d.shape 2),.int .i64 (d.shape 3),.int .i64 (d.shape 4),.int .i64 (d.shape 5),.int .i64 (d.shape 6),.int .i64 (d.shape 7),.int .i64 (d.shape 8),.slice (some ⟨g1,0,none⟩) d.groups.1 c1,.slice p2 d.on.1 c2,.slice p3 d.tapes.1 c3,.int .i64 (d.writes+1),.int .i64 d.stop,.bool d.down]:=(WO7.writes (d.writes+1) (by have:=zeR HOK.out;omega)).own;clear WO7 TT back WO5 S2 nd2 e9 eK9 o9 TK X5 T5
 go_upto_region 12 with fail
 obtain ⟨W7,hW7⟩:∃ x,x=w5.setCell ⟨gg,K*zaa.sz+0,none⟩ (.bool false):=⟨_,rfl⟩
 change Code.wp Tryz.prog _ _ _ (w5.setCell ⟨gg,K*zaa.sz+0,none⟩ (.bool false))
 have z7:W7.heap.size=w5.heap.size:=by rw [hW7];simp
 rw [← hW7] at X7 T7 O7 ⊢;clear hW7 y0 f0 xg c0
 go_wp2_with (first | (refine zaq 34 (.tmp 8) rfl rfl (w2.heap.size) rfl (X7) Tryz.underlying34 zbz rfl ?_) | (refine zaR 36 _ _ rfl rfl (w.heap.size+1) rfl (cs:=[.int .i64 0,.int .i64 (d.shape 0),.int .i64 (d.shape 1),.int .i64 (d.shape 2),.int .i64 (d.shape 3),.int .i64 (d.shape 4),.int .i64 (d.shape 5),.int .i64 (d.shape 6),.int .i64 (d.shape 7),.int .i64 (d.shape 8),.slice (some ⟨g1,0,none⟩) d.groups.1 c1,.slice p2 d.on.1 c2,.slice p3 d.tapes.1 c3,.int .i64 (d.writes+1),.int .i64 d.stop,.bool d.down]) rfl (T7.b2) zaK rfl rfl ((zb0 0 (by decide) O7).one) ?_;intro w9 X9 C9 z9))
 refine zbT Tryz.results14 rfl X9 Tryz.underlying36 zaK rfl rfl ?_;exact zem (by decide) T7.bel C9 O7 (by omega) (by omega) (.inr ⟨HX.out,.inr ⟨HD.out,.inr ⟨HON.out,.inr ⟨HF.out,rfl⟩⟩⟩⟩)
set_option maxRecDepth 20000 in
theorem zh1 (R pv E:Nat) (l o m:Int) (y0 y1 y2 y3 y4 y5 y6 y7 y8 yp0 yl0 yq0 yp1 yl1 yq1 yp2 yl2 yq2 y9 y10 yb:_) (w:World) (hR:Box w R #[.int .i64 0,.int .i64 0,.int .i64 0,.int .i64 0,.int .i64 0,.int .i64 0,.int .i64 0,.int .i64 0,.int .i64 0,.int .i64 0,.slice none 0 0,.slice none 0 0,.slice none 0 0,.int .i64 0,.int .i64 0,.bool false] 36) (hp:w.cell? ⟨pv,0,none⟩=some (.pointer (some ⟨E,0,none⟩))) (hX:Box w E #[.int .i32 l,.int .u32 0,.int .u32 o,.int .i32 m,.int .u32 0,.int .i64 y0,.int .i64 y1,.int .i64 y2,.int .i64 y3,.int .i64 y4,.int .i64 y5,.int .i64 y6,.int .i64 y7,.int .i64 y8,.slice yp0 yl0 yq0,.slice yp1 yl1 yq1,.slice yp2 yl2 yq2,.int .i64 y9,.int .i64 y10,.bool yb] 110) (hRE:R≠E) (hRp:R≠pv) :
 CallsD Tryz.prog 57 #[.pointer (some ⟨R,0,none⟩),.pointer (some ⟨pv,0,none⟩)] .returning w fun e u' w'=>e=.returned (.tuple #[])∧u'=.returning∧Box w' R #[.int .i64 0,.int .i64 y0,.int .i64 y1,.int .i64 y2,.int .i64 y3,.int .i64 y4,.int .i64 y5,.int .i64 y6,.int .i64 y7,.int .i64 y8,.slice yp0 yl0 yq0,.slice yp1 yl1 yq1,.slice yp2 yl2 yq2,.int .i64 y9,.int .i64 y10,.bool yb] 36∧ChgL [R] w w':=by
 have x_5:w.cell? ⟨E,5,none⟩=some (.int .i64 y0):=hX.cell 5;have x_6:w.cell? ⟨E,6,none⟩=some (.int .i64 y1):=hX.cell 6;have x_7:w.cell? ⟨E,7,none⟩=some (.int .i64 y2):=hX.cell 7;have x_8:w.cell? ⟨E,8,none⟩=some (.int .i64 y3):=hX.cell 8;have x_9:w.cell? ⟨E,9,none⟩=some (.int .i64 y4):=hX.cell 9;have x_10:w.cell? ⟨E,10,none⟩=some (.int .i64 y5):=hX.cell 10;have x_11:w.cell? ⟨E,11,none⟩=some (.int .i64 y6):=hX.cell 11;have x_12:w.cell? ⟨E,12,none⟩=some (.int .i64 y7):=hX.cell 12;have x_13:w.cell? ⟨E,13,none⟩=some (.int .i64 y8):=hX.cell 13;have x_14:w.cell? ⟨E,14,none⟩=some (.slice yp0 yl0 yq0):=hX.cell 14;have x_15:w.cell? ⟨E,15,none⟩=some (.slice yp1 yl1 yq1):=hX.cell 15;have x_16:w.cell? ⟨E,16,none⟩=some (.slice yp2 yl2 yq2):=hX.cell 16;have x_17:w.cell? ⟨E,17,none⟩=some (.int .i64 y9):=hX.cell 17;have x_18:w.cell? ⟨E,18,none⟩=some (.int .i64 y10):=hX.cell 18;have x_19:w.cell? ⟨E,19,none⟩=some (.bool yb):=hX.cell 19;have R1:=hR;have X1:=hX;have hp1:=hp;have C1:ChgL [R] w w:=ChgL.refl _ _;refine callsD_of_wpS Tryz.func57 rfl fun c₀ cs hu=>?_
 apply wpS_seq
 apply wpS_seq
 apply wpS_region
 simp [wpOpsS,go_sem,recoverD,hu,Tryz.ntmps57,Exit.thenS]
 refine wpS_cond (t:=false) (by simp [Act.eval,Array.replicate]) ?_
 simp only [Bool.false_eq_true,if_false]
 refine wpS_of_wp (wp_skip ?_)
 simp only [Exit.thenS]
 clear hR hX hp;refine wpS_of_wp ?_;have e_5:w.cell? ⟨E,5,none⟩=some (.int .i64 y0):=X1.cell 5;have e_6:w.cell? ⟨E,6,none⟩=some (.int .i64 y1):=X1.cell 6;have e_7:w.cell? ⟨E,7,none⟩=some (.int .i64 y2):=X1.cell 7;have e_8:w.cell? ⟨E,8,none⟩=some (.int .i64 y3):=X1.cell 8;have e_9:w.cell? ⟨E,9,none⟩=some (.int .i64 y4):=X1.cell 9;have e_10:w.cell? ⟨E,10,none⟩=some (.int .i64 y5):=X1.cell 10;have e_11:w.cell? ⟨E,11,none⟩=some (.int .i64 y6):=X1.cell 11;have e_12:w.cell? ⟨E,12,none⟩=some (.int .i64 y7):=X1.cell 12;have e_13:w.cell? ⟨E,13,none⟩=some (.int .i64 y8):=X1.cell 13;have e_14:w.cell? ⟨E,14,none⟩=some (.slice yp0 yl0 yq0):=X1.cell 14;have e_15:w.cell? ⟨E,15,none⟩=some (.slice yp1 yl1 yq1):=X1.cell 15;have e_16:w.cell? ⟨E,16,none⟩=some (.slice yp2 yl2 yq2):=X1.cell 16;have e_17:w.cell? ⟨E,17,none⟩=some (.int .i64 y9):=X1.cell 17;have e_18:w.cell? ⟨E,18,none⟩=some (.int .i64 y10):=X1.cell 18;have e_19:w.cell? ⟨E,19,none⟩=some (.bool yb):=X1.cell 19;have r_1:w.cell? ⟨R,1,none⟩=some (.int .i64 0):=R1.cell 1;have rf_1:w.frozen? ⟨R,1,none⟩=false:=R1.frozen 1;have r_2:w.cell? ⟨R,2,none⟩=some (.int .i64 0):=R1.cell 2;have rf_2:w.frozen? ⟨R,2,none⟩=false:=R1.frozen 2;have r_3:w.cell? ⟨R,3,none⟩=some (.int .i64 0):=R1.cell 3;have rf_3:w.frozen? ⟨R,3,none⟩=false:=R1.frozen 3;have r_4:w.cell? ⟨R,4,none⟩=some (.int .i64 0):=R1.cell 4;have rf_4:w.frozen? ⟨R,4,none⟩=false:=R1.frozen 4;have r_5:w.cell? ⟨R,5,none⟩=some (.int .i64 0):=R1.cell 5;have rf_5:w.frozen? ⟨R,5,none⟩=false:=R1.frozen 5;have r_6:w.cell? ⟨R,6,none⟩=some (.int .i64 0):=R1.cell 6;have rf_6:w.frozen? ⟨R,6,none⟩=false:=R1.frozen 6;have r_7:w.cell? ⟨R,7,none⟩=some (.int .i64 0):=R1.cell 7;have rf_7:w.frozen? ⟨R,7,none⟩=false:=R1.frozen 7;have r_8:w.cell? ⟨R,8,none⟩=some (.int .i64 0):=R1.cell 8;have rf_8:w.frozen? ⟨R,8,none⟩=false:=R1.frozen 8;have r_9:w.cell? ⟨R,9,none⟩=some (.int .i64 0):=R1.cell 9;have rf_9:w.frozen? ⟨R,9,none⟩=false:=R1.frozen 9;have r_10:w.cell? ⟨R,10,none⟩=some (.slice none 0 0):=R1.cell 10;have rf_10:w.frozen? ⟨R,10,none⟩=false:=R1.frozen 10;have r_11:w.cell? ⟨R,11,none⟩=some (.slice none 0 0):=R1.cell 11;have rf_11:w.frozen? ⟨R,11,none⟩=false:=R1.frozen 11;have r_12:w.cell? ⟨R,12,none⟩=some (.slice none 0 0):=R1.cell 12;have rf_12:w.frozen? ⟨R,12,none⟩=false:=R1.frozen 12;have r_13:w.cell? ⟨R,13,none⟩=some (.int .i64 0):=R1.cell 13;have rf_13:w.frozen? ⟨R,13,none⟩=false:=R1.frozen 13;have r_14:w.cell? ⟨R,14,none⟩=some (.int .i64 0):=R1.cell 14;have rf_14:w.frozen? ⟨R,14,none⟩=false:=R1.frozen 14;have r_15:w.cell? ⟨R,15,none⟩=some (.bool false):=R1.cell 15;have rf_15:w.frozen? ⟨R,15,none⟩=false:=R1.frozen 15;have R2:Box (stN w R 1 (rwV y0 y1 y2 y3 y4 y5 y6 y7 y8 yp0 yl0 yq0 yp1 yl1 yq1 yp2 yl2 yq2 y9 y10 yb)) R (.int .i64 0::rwV y0 y1 y2 y3 y4 y5 y6 y7 y8 yp0 yl0 yq0 yp1 yl1 yq1 yp2 yl2 yq2 y9 y10 yb).toArray 36:=R1.stL (rwV y0 y1 y2 y3 y4 y5 y6 y7 y8 yp0 yl0 yq0 yp1 yl1 yq1 yp2 yl2 yq2 y9 y10 yb) 1
 have C2':ChgL [R] w (stN w R 1 (rwV y0 y1 y2 y3 y4 y5 y6 y7 y8 yp0 yl0 yq0 yp1 yl1 yq1 yp2 yl2 yq2 y9 y10 yb)):=C1.trans ⟨(zbf R _ w 1).1,(zbf R _ w 1).2.1,(zbf R _ w 1).2.2,Nat.le_of_eq (zbA R _ w 1).symm,fun b _ hb=>zbJ R b (fun hh=>hb (by simp [hh])) _ w 1⟩;clear R1 X1 C1  x_5 x_6 x_7 x_8 x_9 x_10 x_11 x_12 x_13 x_14 x_15 x_16 x_17 x_18 x_19;go_wp2;exact ⟨rfl,_,by cases c₀;simp_all,_,results_none rfl _ _ _,rfl,rfl,R2,C2'⟩
set_option maxRecDepth 20000 in
theorem zhj (u:TypeId) (pvv:Value) (R pv E:Nat) (l o m:Int) (y0 y1 y2 y3 y4 y5 y6 y7 y8 yp0 yl0 yq0 yp1 yl1 yq1 yp2 yl2 yq2 y9 y10 yb:_) (w:World) (hR:Box w R #[.int .i64 0,.int .i64 0,.int .i64 0,.int .i64 0,.int .i64 0,.int .i64 0,.int .i64 0,.int .i64 0,.int .i64 0,.int .i64 0,.slice none 0 0,.slice none 0 0,.slice none 0 0,.int .i64 0,.int .i64 0,.bool false] 36) (hp:w.cell? ⟨pv,0,none⟩=some (.pointer (some ⟨E,0,none⟩))) (hX:Box w E #[.int .i32 l,.int .u32 0,.int .u32 o,.int .i32 m,.int .u32 0,.int .i64 y0,.int .i64 y1,.int .i64 y2,.int .i64 y3,.int .i64 y4,.int .i64 y5,.int .i64 y6,.int .i64 y7,.int .i64 y8,.slice yp0 yl0 yq0,.slice yp1 yl1 yq1,.slice yp2 yl2 yq2,.int .i64 y9,.int .i64 y10,.bool yb] 110) (hRE:R≠E) (hRp:R≠pv) :
 CallsD Tryz.prog 57 #[.pointer (some ⟨R,0,none⟩),.pointer (some ⟨pv,0,none⟩)] (.panicking [{ v:=.iface u pvv,recovered:=false }]) w fun e u' w'=>e=.returned (.tuple #[])∧u'=(.panicking [{ v:=.iface u pvv,recovered:=true }])∧Box w' R #[.int .i64 9,.int .i64 y0,.int .i64 y1,.int .i64 y2,.int .i64 y3,.int .i64 y4,.int .i64 y5,.int .i64 y6,.int .i64 y7,.int .i64 y8,.slice yp0 yl0 yq0,.slice yp1 yl1 yq1,.slice yp2 yl2 yq2,.int .i64 y9,.int .i64 y10,.bool yb] 36∧ChgL [R] w w':=by
 have x_5:w.cell? ⟨E,5,none⟩=some (.int .i64 y0):=hX.cell 5;have x_6:w.cell? ⟨E,6,none⟩=some (.int .i64 y1):=hX.cell 6;have x_7:w.cell? ⟨E,7,none⟩=some (.int .i64 y2):=hX.cell 7;have x_8:w.cell? ⟨E,8,none⟩=some (.int .i64 y3):=hX.cell 8;have x_9:w.cell? ⟨E,9,none⟩=some (.int .i64 y4):=hX.cell 9;have x_10:w.cell? ⟨E,10,none⟩=some (.int .i64 y5):=hX.cell 10;have x_11:w.cell? ⟨E,11,none⟩=some (.int .i64 y6):=hX.cell 11;have x_12:w.cell? ⟨E,12,none⟩=some (.int .i64 y7):=hX.cell 12;have x_13:w.cell? ⟨E,13,none⟩=some (.int .i64 y8):=hX.cell 13;have x_14:w.cell? ⟨E,14,none⟩=some (.slice yp0 yl0 yq0):=hX.cell 14;have x_15:w.cell? ⟨E,15,none⟩=some (.slice yp1 yl1 yq1):=hX.cell 15;have x_16:w.cell? ⟨E,16,none⟩=some (.slice yp2 yl2 yq2):=hX.cell 16;have x_17:w.cell? ⟨E,17,none⟩=some (.int .i64 y9):=hX.cell 17;have x_18:w.cell? ⟨E,18,none⟩=some (.int .i64 y10):=hX.cell 18;have x_19:w.cell? ⟨E,19,none⟩=some (.bool yb):=hX.cell 19;have R1:Box (w.setCell ⟨R,0,none⟩ (.int .i64 9)) R (.int .i64 9::rwY).toArray 36:=hR.setc 0 _;have C1:ChgL [R] w (w.setCell ⟨R,0,none⟩ (.int .i64 9)):=(ChgL.refl _ _).st _ 0 _ (by simp);have X1:Box (w.setCell ⟨R,0,none⟩ (.int .i64 9)) E #[.int .i32 l,.int .u32 0,.int .u32 o,.int .i32 m,.int .u32 0,.int .i64 y0,.int .i64 y1,.int .i64 y2,.int .i64 y3,.int .i64 y4,.int .i64 y5,.int .i64 y6,.int .i64 y7,.int .i64 y8,.slice yp0 yl0 yq0,.slice yp1 yl1 yq1,.slice yp2 yl2 yq2,.int .i64 y9,.int .i64 y10,.bool yb] 110:=hX.seto 0 _ (fun h=>hRE h.symm);have hp1:(w.setCell ⟨R,0,none⟩ (.int .i64 9)).cell? ⟨pv,0,none⟩=some (.pointer (some ⟨E,0,none⟩)):=(World.cell?_setCell_other _ ⟨R,0,none⟩ ⟨pv,0,none⟩ _ (by simp [hRp])).trans hp;have r0:w.cell? ⟨R,0,none⟩=some (.int .i64 0):=hR.cell 0;have rf0:w.frozen? ⟨R,0,none⟩=false:=hR.frozen 0;refine callsD_of_wpS Tryz.func57 rfl fun c₀ cs hu=>?_
 apply wpS_seq
 apply wpS_seq
 apply wpS_region
 simp [wpOpsS,go_sem,recoverD,hu,Tryz.ntmps57,Exit.thenS]
 refine wpS_cond (t:=true) (by simp [Act.eval,Array.replicate]) ?_
 simp only [if_true]
 apply wpS_region
 simp [wpOpsS,go_sem,r0,rf0,Exit.thenS]
 clear r0 rf0 hR hX hp;refine wpS_of_wp ?_;obtain ⟨W,hW⟩:∃ x,x=(w.setCell ⟨R,0,none⟩ (.int .i64 9)):=⟨_,rfl⟩;rw [← hW] at R1 X1 hp1 C1 ⊢;have e_5:W.cell? ⟨E,5,none⟩=some (.int .i64 y0):=X1.cell 5;have e_6:W.cell? ⟨E,6,none⟩=some (.int .i64 y1):=X1.cell 6;have e_7:W.cell? ⟨E,7,none⟩=some (.int .i64 y2):=X1.cell 7;have e_8:W.cell? ⟨E,8,none⟩=some (.int .i64 y3):=X1.cell 8;have e_9:W.cell? ⟨E,9,none⟩=some (.int .i64 y4):=X1.cell 9;have e_10:W.cell? ⟨E,10,none⟩=some (.int .i64 y5):=X1.cell 10;have e_11:W.cell? ⟨E,11,none⟩=some (.int .i64 y6):=X1.cell 11;have e_12:W.cell? ⟨E,12,none⟩=some (.int .i64 y7):=X1.cell 12;have e_13:W.cell? ⟨E,13,none⟩=some (.int .i64 y8):=X1.cell 13;have e_14:W.cell? ⟨E,14,none⟩=some (.slice yp0 yl0 yq0):=X1.cell 14;have e_15:W.cell? ⟨E,15,none⟩=some (.slice yp1 yl1 yq1):=X1.cell 15;have e_16:W.cell? ⟨E,16,none⟩=some (.slice yp2 yl2 yq2):=X1.cell 16;have e_17:W.cell? ⟨E,17,none⟩=some (.int .i64 y9):=X1.cell 17;have e_18:W.cell? ⟨E,18,none⟩=some (.int .i64 y10):=X1.cell 18;have e_19:W.cell? ⟨E,19,none⟩=some (.bool yb):=X1.cell 19;have r_1:W.cell? ⟨R,1,none⟩=some (.int .i64 0):=R1.cell 1;have rf_1:W.frozen? ⟨R,1,none⟩=false:=R1.frozen 1;have r_2:W.cell? ⟨R,2,none⟩=some (.int .i64 0):=R1.cell 2;have rf_2:W.frozen? ⟨R,2,none⟩=false:=R1.frozen 2;have r_3:W.cell? ⟨R,3,none⟩=some (.int .i64 0):=R1.cell 3;have rf_3:W.frozen? ⟨R,3,none⟩=false:=R1.frozen 3;have r_4:W.cell? ⟨R,4,none⟩=some (.int .i64 0):=R1.cell 4;have rf_4:W.frozen? ⟨R,4,none⟩=false:=R1.frozen 4;have r_5:W.cell? ⟨R,5,none⟩=some (.int .i64 0):=R1.cell 5;have rf_5:W.frozen? ⟨R,5,none⟩=false:=R1.frozen 5;have r_6:W.cell? ⟨R,6,none⟩=some (.int .i64 0):=R1.cell 6;have rf_6:W.frozen? ⟨R,6,none⟩=false:=R1.frozen 6;have r_7:W.cell? ⟨R,7,none⟩=some (.int .i64 0):=R1.cell 7;have rf_7:W.frozen? ⟨R,7,none⟩=false:=R1.frozen 7;have r_8:W.cell? ⟨R,8,none⟩=some (.int .i64 0):=R1.cell 8;have rf_8:W.frozen? ⟨R,8,none⟩=false:=R1.frozen 8;have r_9:W.cell? ⟨R,9,none⟩=some (.int .i64 0):=R1.cell 9;have rf_9:W.frozen? ⟨R,9,none⟩=false:=R1.frozen 9;have r_10:W.cell? ⟨R,10,none⟩=some (.slice none 0 0):=R1.cell 10;have rf_10:W.frozen? ⟨R,10,none⟩=false:=R1.frozen 10;have r_11:W.cell? ⟨R,11,none⟩=some (.slice none 0 0):=R1.cell 11;have rf_11:W.frozen? ⟨R,11,none⟩=false:=R1.frozen 11;have r_12:W.cell? ⟨R,12,none⟩=some (.slice none 0 0):=R1.cell 12;have rf_12:W.frozen? ⟨R,12,none⟩=false:=R1.frozen 12;have r_13:W.cell? ⟨R,13,none⟩=some (.int .i64 0):=R1.cell 13;have rf_13:W.frozen? ⟨R,13,none⟩=false:=R1.frozen 13;have r_14:W.cell? ⟨R,14,none⟩=some (.int .i64 0):=R1.cell 14;have rf_14:W.frozen? ⟨R,14,none⟩=false:=R1.frozen 14;have r_15:W.cell? ⟨R,15,none⟩=some (.bool false):=R1.cell 15
 have rf_15:W.frozen? ⟨R,15,none⟩=false:=R1.frozen 15;have R2:Box (stN W R 1 (rwV y0 y1 y2 y3 y4 y5 y6 y7 y8 yp0 yl0 yq0 yp1 yl1 yq1 yp2 yl2 yq2 y9 y10 yb)) R (.int .i64 9::rwV y0 y1 y2 y3 y4 y5 y6 y7 y8 yp0 yl0 yq0 yp1 yl1 yq1 yp2 yl2 yq2 y9 y10 yb).toArray 36:=R1.stL (rwV y0 y1 y2 y3 y4 y5 y6 y7 y8 yp0 yl0 yq0 yp1 yl1 yq1 yp2 yl2 yq2 y9 y10 yb) 1;have C2':ChgL [R] w (stN W R 1 (rwV y0 y1 y2 y3 y4 y5 y6 y7 y8 yp0 yl0 yq0 yp1 yl1 yq1 yp2 yl2 yq2 y9 y10 yb)):=C1.trans ⟨(zbf R _ W 1).1,(zbf R _ W 1).2.1,(zbf R _ W 1).2.2,Nat.le_of_eq (zbA R _ W 1).symm,fun b _ hb=>zbJ R b (fun hh=>hb (by simp [hh])) _ W 1⟩;clear R1 X1 C1 hW x_5 x_6 x_7 x_8 x_9 x_10 x_11 x_12 x_13 x_14 x_15 x_16 x_17 x_18 x_19;go_wp2;exact ⟨rfl,_,rfl,_,results_none rfl _ _ _,rfl,rfl,R2,C2'⟩
set_option maxRecDepth 100000 in
theorem zeb (E:Nat) (v0 v1 v2 v3 v4 v5 v6 v7 v8 vp0 vl0 vq0 vp1 vl1 vq1 vp2 vl2 vq2 v9 v10 vb:_) (d d':WorldD) (K:List Nat) (q0 q1:Nat) (w:World) (hX:Box w E #[.int .i32 0,.int .u32 0,.int .u32 0,.int .i32 0,.int .u32 0,.int .i64 v0,.int .i64 v1,.int .i64 v2,.int .i64 v3,.int .i64 v4,.int .i64 v5,.int .i64 v6,.int .i64 v7,.int .i64 v8,.slice vp0 vl0 vq0,.slice vp1 vl1 vq1,.slice vp2 vl2 vq2,.int .i64 v9,.int .i64 v10,.bool vb] 110) (hO:EncO w E d [.int .i64 v0,.int .i64 v1,.int .i64 v2,.int .i64 v3,.int .i64 v4,.int .i64 v5,.int .i64 v6,.int .i64 v7,.int .i64 v8,.slice vp0 vl0 vq0,.slice vp1 vl1 vq1,.slice vp2 vl2 vq2,.int .i64 v9,.int .i64 v10,.bool vb] K) (hpw:¬ (v10≠-1∧v10≤v9)) (hwr:-9223372036854775808≤d'.writes∧d'.writes+1≤9223372036854775807)
 (hch:∀ W,Box W E #[.int .i32 1,.int .u32 0,.int .u32 0,.int .i32 0,.int .u32 0,.int .i64 v0,.int .i64 v1,.int .i64 v2,.int .i64 v3,.int .i64 v4,.int .i64 v5,.int .i64 v6,.int .i64 v7,.int .i64 v8,.slice vp0 vl0 vq0,.slice vp1 vl1 vq1,.slice vp2 vl2 vq2,.int .i64 v9,.int .i64 v10,.bool vb] 110→EncO W E d [.int .i64 v0,.int .i64 v1,.int .i64 v2,.int .i64 v3,.int .i64 v4,.int .i64 v5,.int .i64 v6,.int .i64 v7,.int .i64 v8,.slice vp0 vl0 vq0,.slice vp1 vl1 vq1,.slice vp2 vl2 vq2,.int .i64 v9,.int .i64 v10,.bool vb] K→ChgL [E] w W→Calls Tryz.prog 74 #[.pointer (some ⟨E,5,none⟩),.pointer (some ⟨q0,0,none⟩),.pointer (some ⟨q1,0,none⟩)] W fun e w'=>e=.returned (.tuple #[])∧∃ cs' K',Box w' E ([.int .i32 1,.int .u32 0,.int .u32 0,.int .i32 0,.int .u32 0]++cs').toArray 110∧EncO w' E d' cs' K'∧(∀ b,b∈K'→b∈K∨W.heap.size≤b)∧ChgL (E::K) W w') :
 Calls Tryz.prog 58 #[.pointer (some ⟨E,0,none⟩),.func (.func 74) #[] #[.pointer (some ⟨q0,0,none⟩),.pointer (some ⟨q1,0,none⟩)]] w fun e w'=>e=.returned (.tuple #[])∧∃ cs' K',Box w' E ([.int .i32 0,.int .u32 0,.int .u32 0,.int .i32 0,.int .u32 0]++cs').toArray 110∧EncO w' E { d' with writes:=d'.writes+1 } cs' K'∧(∀ b,b∈K'→b∈K∨w.heap.size≤b)∧ChgL (E::K) w w':=by
 have HWR:=hid hwr;have CH:=hid hch;have hO':=hid hO
 by_cases hs:v10=-1
 ·have d1:(v10 != -1)=false:=by simpa using hs
  clear hpw hwr hch hO hs;have hE:E<w.heap.size:=hX.lt;have hmf:∀ (fn:Fn) (first cap:Array Value) (w:World),(Instr.makeFunc fn first cap).run Tryz.prog w=.ok (.func fn first cap) w:=fun _ _ _ _=>rfl;have bA:=bAl w (.cells #[.pointer (some ⟨E,0,none⟩)] 64);have P1:=zaC w #[.pointer (some ⟨E,0,none⟩)] 64;have X1:=hX.below bA hE
  go_enter_defers Tryz.func58,Tryz.ntmps58
  go_upto_region 1 with fail
  obtain ⟨W1,hW1⟩:∃ x,x=w.alloc (.cells #[.pointer (some ⟨E,0,none⟩)] 64):=⟨_,rfl⟩;rw [← hW1] at bA P1 X1 ⊢
  have zW:W1.heap.size=w.heap.size+1:=by rw [hW1];simp
  clear hW1;have hp1:W1.cell? ⟨w.heap.size,0,none⟩=some (.pointer (some ⟨E,0,none⟩)):=P1.cell 0;have c0:W1.cell? ⟨E,0,none⟩=some (.int .i32 0):=X1.cell 0;have f0:W1.frozen? ⟨E,0,none⟩=false:=X1.frozen 0;have X2:Box (W1.setCell ⟨E,0,none⟩ (.int .i32 1)) E #[.int .i32 1,.int .u32 0,.int .u32 0,.int .i32 0,.int .u32 0,.int .i64 v0,.int .i64 v1,.int .i64 v2,.int .i64 v3,.int .i64 v4,.int .i64 v5,.int .i64 v6,.int .i64 v7,.int .i64 v8,.slice vp0 vl0 vq0,.slice vp1 vl1 vq1,.slice vp2 vl2 vq2,.int .i64 v9,.int .i64 v10,.bool vb] 110:=X1.setc 0 _;have P2:Box (W1.setCell ⟨E,0,none⟩ (.int .i32 1)) w.heap.size #[.pointer (some ⟨E,0,none⟩)] 64:=P1.seto 0 _ (by omega);have C2':ChgL [E] w (W1.setCell ⟨E,0,none⟩ (.int .i32 1)):=(ChgL.of_below bA).st _ 0 _ (by simp)
  go_upto_region 2 with (go_at_call 96;refine (zdA ⟨E,0,none⟩ _ c0 f0).mono ?_;rintro e w' ⟨rfl,rfl⟩)
  obtain ⟨W2,hW2⟩:∃ x,x=W1.setCell ⟨E,0,none⟩ (.int .i32 1):=⟨_,rfl⟩;rw [← hW2] at X2 P2 C2' ⊢
  have z2:W2.heap.size=w.heap.size+1:=by rw [hW2];simpa using zW
  clear hW2 hp1 c0 f0 X1 P1 bA hX;have hp2:W2.cell? ⟨w.heap.size,0,none⟩=some (.pointer (some ⟨E,0,none⟩)):=P2.cell 0;have x17:W2.cell? ⟨E,17,none⟩=some (.int .i64 v9):=X2.cell 17;have x18:W2.cell? ⟨E,18,none⟩=some (.int .i64 v10):=X2.cell 18
  go_upto_region 3 with fail
  go_quiet (fail)
  go_upto_region 6 with fail
  obtain ⟨W3,hW3⟩:∃ x,x=W2.drewN nq:=⟨_,rfl⟩;rw [← hW3]
  have X3:Box W3 E #[.int .i32 1,.int .u32 0,.int .u32 0,.int .i32 0,.int .u32 0,.int .i64 v0,.int .i64 v1,.int .i64 v2,.int .i64 v3,.int .i64 v4,.int .i64 v5,.int .i64 v6,.int .i64 v7,.int .i64 v8,.slice vp0 vl0 vq0,.slice vp1 vl1 vq1,.slice vp2 vl2 vq2,.int .i64 v9,.int .i64 v10,.bool vb] 110:=by rw [hW3];exact X2
  have P3:Box W3 w.heap.size #[.pointer (some ⟨E,0,none⟩)] 64:=by rw [hW3];exact P2
  have C3':ChgL [E] w W3:=by rw [hW3];exact ⟨C2'.os,C2'.tape,C2'.output,C2'.size,C2'.block⟩
  have z3:W3.heap.size=w.heap.size+1:=by rw [hW3];exact z2
  have hp3:W3.cell? ⟨w.heap.size,0,none⟩=some (.pointer (some ⟨E,0,none⟩)):=P3.cell 0;clear hW3 X2 P2 C2' z2 hp2 x17 x18;have O3:=hO'.out.chg C3'
  have CC:=(CH.out W3 X3 O3 C3').mono (R':=fun e w'=>e=.returned (.tuple #[])∧∃ y0 y1 y2 y3 y4 y5 y6 y7 y8 yp0 yl0 yq0 yp1 yl1 yq1 yp2 yl2 yq2 y9 y10 yb K',Box w' E #[.int .i32 1,.int .u32 0,.int .u32 0,.int .i32 0,.int .u32 0,.int .i64 y0,.int .i64 y1,.int .i64 y2,.int .i64 y3,.int .i64 y4,.int .i64 y5,.int .i64 y6,.int .i64 y7,.int .i64 y8,.slice yp0 yl0 yq0,.slice yp1 yl1 yq1,.slice yp2 yl2 yq2,.int .i64 y9,.int .i64 y10,.bool yb] 110∧EncO w' E d' (rwV y0 y1 y2 y3 y4 y5 y6 y7 y8 yp0 yl0 yq0 yp1 yl1 yq1 yp2 yl2 yq2 y9 y10 yb) K'∧(∀ b,b∈K'→b∈K∨W3.heap.size≤b)∧ChgL (E::K) W3 w') (fun e w' ⟨he,cs',K',hX',hO',hs',hC'⟩=>by
   obtain ⟨y0,y1,y2,y3,y4,y5,y6,y7,y8,yp0,yl0,yq0,yp1,yl1,yq1,yp2,yl2,yq2,y9,y10,yb,rfl⟩:=zeO hO'.own
   exact ⟨he,y0,y1,y2,y3,y4,y5,y6,y7,y8,yp0,yl0,yq0,yp1,yl1,yq1,yp2,yl2,yq2,y9,y10,yb,K',hX',hO',hs',hC'⟩)
  have hKl:∀ b,b∈K→b<w.heap.size:=fun b hb=>zab.own_lt hO'.out.own b hb
  go_wp2_with (go_at_call 74;refine CC.mono ?_;rintro e w5 ⟨rfl,y0,y1,y2,y3,y4,y5,y6,y7,y8,yp0,yl0,yq0,yp1,yl1,yq1,yp2,yl2,yq2,y9,y10,yb,K5,X5,O5,s5,C5⟩;have P5:=P3.chgl C5 (by intro hm;rcases List.mem_cons.1 hm with h | h;omega;have:=hKl _ h;omega);have hp5:w5.cell? ⟨w.heap.size,0,none⟩=some (.pointer (some ⟨E,0,none⟩)):=P5.cell 0;have x17:w5.cell? ⟨E,17,none⟩=some (.int .i64 y9):=X5.cell 17;have f17:w5.frozen? ⟨E,17,none⟩=false:=X5.frozen 17;have HY9:=hid (zd2 O5.own);have zz:IntKind.i64.wrap (y9+1)=y9+1:=by rw [IntKind.wrap_i64];have:=HWR.out;have:=HY9.out;omega)
  refine leaves_cons (f:=97) (args:=#[.pointer (some ⟨E,0,none⟩)]) (by simp) (by simp [go_sem]) ?_;have X6:Box (w5.setCell ⟨E,17,none⟩ (.int .i64 (y9+1))) E #[.int .i32 1,.int .u32 0,.int .u32 0,.int .i32 0,.int .u32 0,.int .i64 y0,.int .i64 y1,.int .i64 y2,.int .i64 y3,.int .i64 y4,.int .i64 y5,.int .i64 y6,.int .i64 y7,.int .i64 y8,.slice yp0 yl0 yq0,.slice yp1 yl1 yq1,.slice yp2 yl2 yq2,.int .i64 (y9+1),.int .i64 y10,.bool yb] 110:=X5.setc 17 _;refine (zcf ⟨E,0,none⟩ _ _ (X6.cell 0) (X6.frozen 0)).mono ?_;rintro e u' w'' ⟨rfl,rfl,rfl⟩;have X7:Box ((w5.setCell ⟨E,17,none⟩ (.int .i64 (y9+1))).setCell ⟨E,0,none⟩ (.int .i32 0)) E #[.int .i32 0,.int .u32 0,.int .u32 0,.int .i32 0,.int .u32 0,.int .i64 y0,.int .i64 y1,.int .i64 y2,.int .i64 y3,.int .i64 y4,.int .i64 y5,.int .i64 y6,.int .i64 y7,.int .i64 y8,.slice yp0 yl0 yq0,.slice yp1 yl1 yq1,.slice yp2 yl2 yq2,.int .i64 (y9+1),.int .i64 y10,.bool yb] 110:=X6.setc 0 _;have C7:ChgL [E] w5 ((w5.setCell ⟨E,17,none⟩ (.int .i64 (y9+1))).setCell ⟨E,0,none⟩ (.int .i32 0)):=((ChgL.refl _ _).st _ 17 _ (by simp)).st _ 0 _ (by simp)
  have O7:EncO w5 E { d' with writes:=d'.writes+1 } [.int .i64 y0,.int .i64 y1,.int .i64 y2,.int .i64 y3,.int .i64 y4,.int .i64 y5,.int .i64 y6,.int .i64 y7,.int .i64 y8,.slice yp0 yl0 yq0,.slice yp1 yl1 yq1,.slice yp2 yl2 yq2,.int .i64 (y9+1),.int .i64 y10,.bool yb] K5:=by
   rw [← HY9.out];exact ⟨zd1 (y9+1) (by have:=HWR.out;have:=HY9.out;omega) O5.own,O5.nd,O5.ne⟩
  simp only [Leaves,settle]
  refine ⟨_,results_none rfl _ _ _,rfl,_,K5,X7,O7.chg C7,fun b hb=>?_,?_⟩
  ·rcases s5 b hb with h | h
   ·exact .inl h
   ·exact .inr (by omega)
  ·exact (C3'.mono (fun b hb=>by simp at hb;simp [hb])).trans (C5.trans (C7.mono (fun b hb=>by simp at hb;simp [hb])))
 ·have d1:(v10 != -1)=true:=by simpa using hs
  have d2:decide (v10≤v9)=false:=by
   simp only [decide_eq_false_iff_not]
   exact fun h=>hpw ⟨hs,h⟩
  clear hpw hwr hch hO hs;have hE:E<w.heap.size:=hX.lt;have hmf:∀ (fn:Fn) (first cap:Array Value) (w:World),(Instr.makeFunc fn first cap).run Tryz.prog w=.ok (.func fn first cap) w:=fun _ _ _ _=>rfl;have bA:=bAl w (.cells #[.pointer (some ⟨E,0,none⟩)] 64);have P1:=zaC w #[.pointer (some ⟨E,0,none⟩)] 64;have X1:=hX.below bA hE
  go_enter_defers Tryz.func58,Tryz.ntmps58
  go_upto_region 1 with fail
  obtain ⟨W1,hW1⟩:∃ x,x=w.alloc (.cells #[.pointer (some ⟨E,0,none⟩)] 64):=⟨_,rfl⟩;rw [← hW1] at bA P1 X1 ⊢
  have zW:W1.heap.size=w.heap.size+1:=by rw [hW1];simp
  clear hW1;have hp1:W1.cell? ⟨w.heap.size,0,none⟩=some (.pointer (some ⟨E,0,none⟩)):=P1.cell 0;have c0:W1.cell? ⟨E,0,none⟩=some (.int .i32 0):=X1.cell 0;have f0:W1.frozen? ⟨E,0,none⟩=false:=X1.frozen 0;have X2:Box (W1.setCell ⟨E,0,none⟩ (.int .i32 1)) E #[.int .i32 1,.int .u32 0,.int .u32 0,.int .i32 0,.int .u32 0,.int .i64 v0,.int .i64 v1,.int .i64 v2,.int .i64 v3,.int .i64 v4,.int .i64 v5,.int .i64 v6,.int .i64 v7,.int .i64 v8,.slice vp0 vl0 vq0,.slice vp1 vl1 vq1,.slice vp2 vl2 vq2,.int .i64 v9,.int .i64 v10,.bool vb] 110:=X1.setc 0 _;have P2:Box (W1.setCell ⟨E,0,none⟩ (.int .i32 1)) w.heap.size #[.pointer (some ⟨E,0,none⟩)] 64:=P1.seto 0 _ (by omega);have C2':ChgL [E] w (W1.setCell ⟨E,0,none⟩ (.int .i32 1)):=(ChgL.of_below bA).st _ 0 _ (by simp)
  go_upto_region 2 with (go_at_call 96;refine (zdA ⟨E,0,none⟩ _ c0 f0).mono ?_;rintro e w' ⟨rfl,rfl⟩)
  obtain ⟨W2,hW2⟩:∃ x,x=W1.setCell ⟨E,0,none⟩ (.int .i32 1):=⟨_,rfl⟩;rw [← hW2] at X2 P2 C2' ⊢
  have z2:W2.heap.size=w.heap.size+1:=by rw [hW2];simpa using zW
  clear hW2 hp1 c0 f0 X1 P1 bA hX;have hp2:W2.cell? ⟨w.heap.size,0,none⟩=some (.pointer (some ⟨E,0,none⟩)):=P2.cell 0;have x17:W2.cell? ⟨E,17,none⟩=some (.int .i64 v9):=X2.cell 17;have x18:W2.cell? ⟨E,18,none⟩=some (.int .i64 v10):=X2.cell 18
  go_upto_region 3 with fail
  go_quiet (fail)
  go_upto_region 6 with fail
  obtain ⟨W3,hW3⟩:∃ x,x=W2.drewN nq:=⟨_,rfl⟩;rw [← hW3]
  have X3:Box W3 E #[.int .i32 1,.int .u32 0,.int .u32 0,.int .i32 0,.int .u32 0,.int .i64 v0,.int .i64 v1,.int .i64 v2,.int .i64 v3,.int .i64 v4,.int .i64 v5,.int .i64 v6,.int .i64 v7,.int .i64 v8,.slice vp0 vl0 vq0,.slice vp1 vl1 vq1,.slice vp2 vl2 vq2,.int .i64 v9,.int .i64 v10,.bool vb] 110:=by rw [hW3];exact X2
  have P3:Box W3 w.heap.size #[.pointer (some ⟨E,0,none⟩)] 64:=by rw [hW3];exact P2
  have C3':ChgL [E] w W3:=by rw [hW3];exact ⟨C2'.os,C2'.tape,C2'.output,C2'.size,C2'.block⟩
  have z3:W3.heap.size=w.heap.size+1:=by rw [hW3];exact z2
  have hp3:W3.cell? ⟨w.heap.size,0,none⟩=some (.pointer (some ⟨E,0,none⟩)):=P3.cell 0;clear hW3 X2 P2 C2' z2 hp2 x17 x18;have O3:=hO'.out.chg C3'
  have CC:=(CH.out W3 X3 O3 C3').mono (R':=fun e w'=>e=.returned (.tuple #[])∧∃ y0 y1 y2 y3 y4 y5 y6 y7 y8 yp0 yl0 yq0 yp1 yl1 yq1 yp2 yl2 yq2 y9 y10 yb K',Box w' E #[.int .i32 1,.int .u32 0,.int .u32 0,.int .i32 0,.int .u32 0,.int .i64 y0,.int .i64 y1,.int .i64 y2,.int .i64 y3,.int .i64 y4,.int .i64 y5,.int .i64 y6,.int .i64 y7,.int .i64 y8,.slice yp0 yl0 yq0,.slice yp1 yl1 yq1,.slice yp2 yl2 yq2,.int .i64 y9,.int .i64 y10,.bool yb] 110∧EncO w' E d' (rwV y0 y1 y2 y3 y4 y5 y6 y7 y8 yp0 yl0 yq0 yp1 yl1 yq1 yp2 yl2 yq2 y9 y10 yb) K'∧(∀ b,b∈K'→b∈K∨W3.heap.size≤b)∧ChgL (E::K) W3 w') (fun e w' ⟨he,cs',K',hX',hO',hs',hC'⟩=>by
   obtain ⟨y0,y1,y2,y3,y4,y5,y6,y7,y8,yp0,yl0,yq0,yp1,yl1,yq1,yp2,yl2,yq2,y9,y10,yb,rfl⟩:=zeO hO'.own
   exact ⟨he,y0,y1,y2,y3,y4,y5,y6,y7,y8,yp0,yl0,yq0,yp1,yl1,yq1,yp2,yl2,yq2,y9,y10,yb,K',hX',hO',hs',hC'⟩)
  have hKl:∀ b,b∈K→b<w.heap.size:=fun b hb=>zab.own_lt hO'.out.own b hb
  go_wp2_with (go_at_call 74;refine CC.mono ?_;rintro e w5 ⟨rfl,y0,y1,y2,y3,y4,y5,y6,y7,y8,yp0,yl0,yq0,yp1,yl1,yq1,yp2,yl2,yq2,y9,y10,yb,K5,X5,O5,s5,C5⟩;have P5:=P3.chgl C5 (by intro hm;rcases List.mem_cons.1 hm with h | h;omega;have:=hKl _ h;omega);have hp5:w5.cell? ⟨w.heap.size,0,none⟩=some (.pointer (some ⟨E,0,none⟩)):=P5.cell 0;have x17:w5.cell? ⟨E,17,none⟩=some (.int .i64 y9):=X5.cell 17;have f17:w5.frozen? ⟨E,17,none⟩=false:=X5.frozen 17;have HY9:=hid (zd2 O5.own);have zz:IntKind.i64.wrap (y9+1)=y9+1:=by rw [IntKind.wrap_i64];have:=HWR.out;have:=HY9.out;omega)
  refine leaves_cons (f:=97) (args:=#[.pointer (some ⟨E,0,none⟩)]) (by simp) (by simp [go_sem]) ?_;have X6:Box (w5.setCell ⟨E,17,none⟩ (.int .i64 (y9+1))) E #[.int .i32 1,.int .u32 0,.int .u32 0,.int .i32 0,.int .u32 0,.int .i64 y0,.int .i64 y1,.int .i64 y2,.int .i64 y3,.int .i64 y4,.int .i64 y5,.int .i64 y6,.int .i64 y7,.int .i64 y8,.slice yp0 yl0 yq0,.slice yp1 yl1 yq1,.slice yp2 yl2 yq2,.int .i64 (y9+1),.int .i64 y10,.bool yb] 110:=X5.setc 17 _;refine (zcf ⟨E,0,none⟩ _ _ (X6.cell 0) (X6.frozen 0)).mono ?_;rintro e u' w'' ⟨rfl,rfl,rfl⟩;have X7:Box ((w5.setCell ⟨E,17,none⟩ (.int .i64 (y9+1))).setCell ⟨E,0,none⟩ (.int .i32 0)) E #[.int .i32 0,.int .u32 0,.int .u32 0,.int .i32 0,.int .u32 0,.int .i64 y0,.int .i64 y1,.int .i64 y2,.int .i64 y3,.int .i64 y4,.int .i64 y5,.int .i64 y6,.int .i64 y7,.int .i64 y8,.slice yp0 yl0 yq0,.slice yp1 yl1 yq1,.slice yp2 yl2 yq2,.int .i64 (y9+1),.int .i64 y10,.bool yb] 110:=X6.setc 0 _;have C7:ChgL [E] w5 ((w5.setCell ⟨E,17,none⟩ (.int .i64 (y9+1))).setCell ⟨E,0,none⟩ (.int .i32 0)):=((ChgL.refl _ _).st _ 17 _ (by simp)).st _ 0 _ (by simp)
  have O7:EncO w5 E { d' with writes:=d'.writes+1 } [.int .i64 y0,.int .i64 y1,.int .i64 y2,.int .i64 y3,.int .i64 y4,.int .i64 y5,.int .i64 y6,.int .i64 y7,.int .i64 y8,.slice yp0 yl0 yq0,.slice yp1 yl1 yq1,.slice yp2 yl2 yq2,.int .i64 (y9+1),.int .i64 y10,.bool yb] K5:=by
   rw [← HY9.out];exact ⟨zd1 (y9+1) (by have:=HWR.out;have:=HY9.out;omega) O5.own,O5.nd,O5.ne⟩
  simp only [Leaves,settle]
  refine ⟨_,results_none rfl _ _ _,rfl,_,K5,X7,O7.chg C7,fun b hb=>?_,?_⟩
  ·rcases s5 b hb with h | h
   ·exact .inl h
   ·exact .inr (by omega)
  ·exact (C3'.mono (fun b hb=>by simp at hb;simp [hb])).trans (C5.trans (C7.mono (fun b hb=>by simp at hb;simp [hb])))
set_option maxRecDepth 20000 in
theorem zik (E:Nat) (v0 v1 v2 v3 v4 v5 v6 v7 v8 vp0 vl0 vq0 vp1 vl1 vq1 vp2 vl2 vq2 v9 v10 vb:_) (d:WorldD) (K:List Nat) (G k:Nat) (w:World) (hX:Box w E #[.int .i32 0,.int .u32 0,.int .u32 0,.int .i32 0,.int .u32 0,.int .i64 v0,.int .i64 v1,.int .i64 v2,.int .i64 v3,.int .i64 v4,.int .i64 v5,.int .i64 v6,.int .i64 v7,.int .i64 v8,.slice vp0 vl0 vq0,.slice vp1 vl1 vq1,.slice vp2 vl2 vq2,.int .i64 v9,.int .i64 v10,.bool vb] 110) (hO:EncO w E d [.int .i64 v0,.int .i64 v1,.int .i64 v2,.int .i64 v3,.int .i64 v4,.int .i64 v5,.int .i64 v6,.int .i64 v7,.int .i64 v8,.slice vp0 vl0 vq0,.slice vp1 vl1 vq1,.slice vp2 vl2 vq2,.int .i64 v9,.int .i64 v10,.bool vb] K) (hG:G<d.groups.1) (hk:k<(d.groups.2 G).1) (hpw:¬ (v10≠-1∧v10≤v9)) (hwr:-9223372036854775808≤d.writes∧d.writes+1≤9223372036854775807) :
 Calls Tryz.prog 46 #[.pointer (some ⟨E,0,none⟩),.int .i64 (G:Int),.int .i64 (k:Int)] w fun e w'=>e=.returned (.tuple #[])∧∃ cs' K',Box w' E (([.int .i32 0,.int .u32 0,.int .u32 0,.int .i32 0,.int .u32 0]:List Value)++cs').toArray 110∧EncO w' E { zcN d G k with writes:=d.writes+1 } cs' K'∧(∀ b,b∈K'→b∈K∨w.heap.size≤b)∧ChgL (E::K) w w':=by
 have hmf:∀ (fn:Fn) (first cap:Array Value) (w:World),(Instr.makeFunc fn first cap).run Tryz.prog w=.ok (.func fn first cap) w:=fun _ _ _ _=>rfl;have hE:E<w.heap.size:=hX.lt;have TB:=zau w #[.int .i64 (G:Int)] #[.int .i64 (k:Int)] 2 2;have X1:=hX.below TB.bel hE
 go_enter Tryz.func46,Tryz.ntmps46
 go_upto_region 1 with fail
 obtain ⟨W,hW⟩:∃ x,x=((w.alloc (.cells #[.int .i64 (G:Int)] 2)).alloc (.cells #[.int .i64 (k:Int)] 2)):=⟨_,rfl⟩;rw [← hW] at TB X1 ⊢;have zW:w.heap.size≤W.heap.size:=TB.bel.size;clear hW hX;have O1:EncO W E d (rwV v0 v1 v2 v3 v4 v5 v6 v7 v8 vp0 vl0 vq0 vp1 vl1 vq1 vp2 vl2 vq2 v9 v10 vb) K:=⟨Lay.own_kept _ hO.own (fun b hb=>TB.bel.block b (zab.own_lt hO.own b hb)),hO.nd,hO.ne⟩;have CR:=zeb E v0 v1 v2 v3 v4 v5 v6 v7 v8 vp0 vl0 vq0 vp1 vl1 vq1 vp2 vl2 vq2 v9 v10 vb d (zcN d G k) K w.heap.size (w.heap.size+1) W X1 O1 hpw hwr (fun W' hX' hO' hC'=>zgp E d _ K _ _ G k hG hk W' hX' hO' ((World.cell?_of_block (hC'.block w.heap.size TB.b1.lt (by simp;omega))).trans (TB.b1.cell 0)) ((World.cell?_of_block (hC'.block (w.heap.size+1) TB.b2.lt (by simp;omega))).trans (TB.b2.cell 0)));have HCR:=CR;clear CR hO hpw hwr O1 X1
 go_wp2_with (go_at_call 58;refine HCR.mono ?_;rintro e w5 ⟨rfl,cs',K',X5,O5,s5,C5⟩)
 go_end0
 exact ⟨rfl,cs',K',X5,O5,fun b hb=>(s5 b hb).imp id (fun h=>by omega),(ChgL.of_below TB.bel).trans C5⟩
set_option maxRecDepth 20000 in
theorem zhk (E:Nat) (v0 v1 v2 v3 v4 v5 v6 v7 v8 vp0 vl0 vq0 vp1 vl1 vq1 vp2 vl2 vq2 v9 v10 vb:_) (d:WorldD) (K:List Nat) (G k:Nat) (w:World) (hX:Box w E #[.int .i32 0,.int .u32 0,.int .u32 0,.int .i32 0,.int .u32 0,.int .i64 v0,.int .i64 v1,.int .i64 v2,.int .i64 v3,.int .i64 v4,.int .i64 v5,.int .i64 v6,.int .i64 v7,.int .i64 v8,.slice vp0 vl0 vq0,.slice vp1 vl1 vq1,.slice vp2 vl2 vq2,.int .i64 v9,.int .i64 v10,.bool vb] 110) (h1:∀ x,x∈([.int .i64 v0,.int .i64 v1,.int .i64 v2,.int .i64 v3,.int .i64 v4,.int .i64 v5,.int .i64 v6,.int .i64 v7,.int .i64 v8,.slice vp0 vl0 vq0,.slice none 0 0,.slice vp2 vl2 vq2,.int .i64 v9,.int .i64 v10,.bool true]:List Value)→x.oneCell'=true) (hs:v10≠-1) (hw:v10≤v9) :
 Calls Tryz.prog 46 #[.pointer (some ⟨E,0,none⟩),.int .i64 (G:Int),.int .i64 (k:Int)] w fun e w'=>e=.panicked [{ v:=.iface 139 (.agg #[]),recovered:=false }]∧Box w' E #[.int .i32 0,.int .u32 0,.int .u32 1,.int .i32 0,.int .u32 0,.int .i64 v0,.int .i64 v1,.int .i64 v2,.int .i64 v3,.int .i64 v4,.int .i64 v5,.int .i64 v6,.int .i64 v7,.int .i64 v8,.slice vp0 vl0 vq0,.slice none 0 0,.slice vp2 vl2 vq2,.int .i64 v9,.int .i64 v10,.bool true] 110∧ChgL [E] w w':=by
 have hmf:∀ (fn:Fn) (first cap:Array Value) (w:World),(Instr.makeFunc fn first cap).run Tryz.prog w=.ok (.func fn first cap) w:=fun _ _ _ _=>rfl;have hE:E<w.heap.size:=hX.lt;have TB:=zau w #[.int .i64 (G:Int)] #[.int .i64 (k:Int)] 2 2;have X1:=hX.below TB.bel hE
 go_enter Tryz.func46,Tryz.ntmps46
 go_upto_region 1 with fail
 obtain ⟨W,hW⟩:∃ x,x=((w.alloc (.cells #[.int .i64 (G:Int)] 2)).alloc (.cells #[.int .i64 (k:Int)] 2)):=⟨_,rfl⟩;rw [← hW] at TB X1 ⊢;have zW:w.heap.size≤W.heap.size:=TB.bel.size;clear hW hX;have CR:=fun fv=>zeP E v0 v1 v2 v3 v4 v5 v6 v7 v8 vp0 vl0 vq0 vp1 vl1 vq1 vp2 vl2 vq2 v9 v10 vb fv W X1 h1 hs hw;clear h1 hs hw X1
 go_wp2_with (go_at_call 58;refine (CR _).mono ?_;rintro e w5 ⟨rfl,X5,C5⟩)
 exact ⟨rfl,rfl,X5,(ChgL.of_below TB.bel).trans C5⟩
theorem zfA (E:Nat) (v0 v1 v2 v3 v4 v5 v6 v7 v8 vp0 vl0 vq0 vp1 vl1 vq1 vp2 vl2 vq2 v9 v10 vb:_) (d:WorldD) (K:List Nat) (G k:Nat) (w:World) (hX:Box w E #[.int .i32 0,.int .u32 0,.int .u32 0,.int .i32 0,.int .u32 0,.int .i64 v0,.int .i64 v1,.int .i64 v2,.int .i64 v3,.int .i64 v4,.int .i64 v5,.int .i64 v6,.int .i64 v7,.int .i64 v8,.slice vp0 vl0 vq0,.slice vp1 vl1 vq1,.slice vp2 vl2 vq2,.int .i64 v9,.int .i64 v10,.bool vb] 110) (a0 a1:Nat) (h0:w.cell? ⟨a0,0,none⟩=some (.int .i64 (G:Int))) (h01:w.cell? ⟨a1,0,none⟩=some (.int .i64 (k:Int))) (hO:EncO w E d [.int .i64 v0,.int .i64 v1,.int .i64 v2,.int .i64 v3,.int .i64 v4,.int .i64 v5,.int .i64 v6,.int .i64 v7,.int .i64 v8,.slice vp0 vl0 vq0,.slice vp1 vl1 vq1,.slice vp2 vl2 vq2,.int .i64 v9,.int .i64 v10,.bool vb] K) (hG:G<d.groups.1) (hk:k<(d.groups.2 G).1) (hpw:¬ (v10≠-1∧v10≤v9)) (hwr:-9223372036854775808≤d.writes∧d.writes+1≤9223372036854775807) :
 Calls Tryz.prog 45 #[.pointer (some ⟨E,0,none⟩),.pointer (some ⟨a0,0,none⟩),.pointer (some ⟨a1,0,none⟩)] w fun e w'=>e=.returned (.tuple #[])∧∃ cs' K',Box w' E (([.int .i32 0,.int .u32 0,.int .u32 0,.int .i32 0,.int .u32 0]:List Value)++cs').toArray 110∧EncO w' E { zcN d G k with writes:=d.writes+1 } cs' K'∧(∀ b,b∈K'→b∈K∨w.heap.size≤b)∧ChgL (E::K) w w':=by
 have CR:=zik E v0 v1 v2 v3 v4 v5 v6 v7 v8 vp0 vl0 vq0 vp1 vl1 vq1 vp2 vl2 vq2 v9 v10 vb d K G k w hX hO hG hk hpw hwr;clear hX hO hG hk hpw hwr
 go_enter Tryz.func45,Tryz.ntmps45
 go_wp2_with (go_at_call 46;refine CR.mono ?_;rintro e w5 ⟨rfl,cs',K',X5,O5,s5,C5⟩)
 go_end0
 exact ⟨rfl,cs',K',X5,O5,s5,C5⟩
theorem zec (E:Nat) (v0 v1 v2 v3 v4 v5 v6 v7 v8 vp0 vl0 vq0 vp1 vl1 vq1 vp2 vl2 vq2 v9 v10 vb:_) (d:WorldD) (K:List Nat) (G k:Nat) (w:World) (hX:Box w E #[.int .i32 0,.int .u32 0,.int .u32 0,.int .i32 0,.int .u32 0,.int .i64 v0,.int .i64 v1,.int .i64 v2,.int .i64 v3,.int .i64 v4,.int .i64 v5,.int .i64 v6,.int .i64 v7,.int .i64 v8,.slice vp0 vl0 vq0,.slice vp1 vl1 vq1,.slice vp2 vl2 vq2,.int .i64 v9,.int .i64 v10,.bool vb] 110) (a0 a1:Nat) (h0:w.cell? ⟨a0,0,none⟩=some (.int .i64 (G:Int))) (h01:w.cell? ⟨a1,0,none⟩=some (.int .i64 (k:Int))) (h1:∀ x,x∈([.int .i64 v0,.int .i64 v1,.int .i64 v2,.int .i64 v3,.int .i64 v4,.int .i64 v5,.int .i64 v6,.int .i64 v7,.int .i64 v8,.slice vp0 vl0 vq0,.slice none 0 0,.slice vp2 vl2 vq2,.int .i64 v9,.int .i64 v10,.bool true]:List Value)→x.oneCell'=true) (hs:v10≠-1) (hw:v10≤v9) :
 Calls Tryz.prog 45 #[.pointer (some ⟨E,0,none⟩),.pointer (some ⟨a0,0,none⟩),.pointer (some ⟨a1,0,none⟩)] w fun e w'=>e=.panicked [{ v:=.iface 139 (.agg #[]),recovered:=false }]∧Box w' E #[.int .i32 0,.int .u32 0,.int .u32 1,.int .i32 0,.int .u32 0,.int .i64 v0,.int .i64 v1,.int .i64 v2,.int .i64 v3,.int .i64 v4,.int .i64 v5,.int .i64 v6,.int .i64 v7,.int .i64 v8,.slice vp0 vl0 vq0,.slice none 0 0,.slice vp2 vl2 vq2,.int .i64 v9,.int .i64 v10,.bool true] 110∧ChgL [E] w w':=by
 have CR:=zhk E v0 v1 v2 v3 v4 v5 v6 v7 v8 vp0 vl0 vq0 vp1 vl1 vq1 vp2 vl2 vq2 v9 v10 vb d K G k w hX h1 hs hw;clear hX h1 hs hw
 go_enter Tryz.func45,Tryz.ntmps45
 go_wp2_with (go_at_call 46;refine CR.mono ?_;rintro e w5 ⟨rfl,X5,C5⟩)
 exact ⟨rfl,rfl,X5,C5⟩
set_option maxRecDepth 20000 in
theorem zfB:ToV zag zax 153:=fun cs d hi w r hhi hn=>by
 obtain ⟨ao1,cap1,rfl,h1,k0⟩:=za6 r;clear r;unfold zax at hn;have R1:=hid h1;clear h1;have Q0:=hid k0;clear k0;have T0:=zau w #[.int .i64 d.stamp,.slice ao1 d.bytes.1 cap1] #[.int .i64 0,.slice none 0 0] 90 90
 go_enter Tryz.func153,Tryz.ntmps153
 go_wp2_with fail
 refine (zcC _ d.bytes hi _ (zae.rd_below R1.out T0.bel hhi) (Nat.le_trans hhi T0.bel.size) (by omega)).mono ?_;rintro e w1 ⟨v0,rfl,o0,b0⟩;obtain ⟨bo1,bcap1,hv⟩:=za5 o0;obtain rfl:=zaH hv;clear hv;have T0c:=T0.call b0;have z0:=T0.b2.lt;have y0:=b0.size;have c0_1:w1.cell? ⟨w.heap.size,1,none⟩=some (.slice ao1 d.bytes.1 cap1):=T0c.b1.cell 1;have c0f_1:w1.frozen? ⟨w.heap.size,1,none⟩=false:=T0c.b1.frozen 1;have T1x:Two w (w1.setCell ⟨w.heap.size,1,none⟩ (.slice bo1 d.bytes.1 bcap1)) #[.int .i64 d.stamp,.slice bo1 d.bytes.1 bcap1] #[.int .i64 0,.slice none 0 0] 90 90:=⟨T0c.b1.stL [.slice bo1 d.bytes.1 bcap1] 1,T0c.b2.seto _ _ (by omega),T0c.bel.setCell (Nat.le_refl _) _⟩;have O1_0:=(o0.stN w.heap.size 1 [.slice bo1 d.bytes.1 bcap1] (by omega))
 have e1:(w1.setCell ⟨w.heap.size,1,none⟩ (.slice bo1 d.bytes.1 bcap1)).heap.size=w1.heap.size:=by simp
 clear o0 b0
 go_upto_region 2 with fail
 obtain ⟨W1,hW1⟩:∃ x,x=w1.setCell ⟨w.heap.size,1,none⟩ (.slice bo1 d.bytes.1 bcap1):=⟨_,rfl⟩
 have O1:Hid (OwnT zae W1 (w.heap.size+1+1) (w1.heap.size) d.bytes [.slice bo1 d.bytes.1 bcap1]):=by rw [hW1];exact OwnT.weaken O1_0 (by simp) (Nat.le_refl _)
 rw [← hW1] at T1x e1 ⊢;clear hW1 O1_0 T0c c0_1 c0f_1;have y_0:W1.cell? ⟨w.heap.size,0,none⟩=some (.int .i64 d.stamp):=T1x.b1.cell 0;have y_1:W1.cell? ⟨w.heap.size,1,none⟩=some (.slice bo1 d.bytes.1 bcap1):=T1x.b1.cell 1;have r_0:W1.cell? ⟨w.heap.size+1,0,none⟩=some (.int .i64 0):=T1x.b2.cell 0;have rf_0:W1.frozen? ⟨w.heap.size+1,0,none⟩=false:=T1x.b2.frozen 0;have r_1:W1.cell? ⟨w.heap.size+1,1,none⟩=some (.slice none 0 0):=T1x.b2.cell 1;have rf_1:W1.frozen? ⟨w.heap.size+1,1,none⟩=false:=T1x.b2.frozen 1;have HB:=hid T1x.bel;have zz:=T1x.b2.lt;clear T1x;go_wp2;refine bodyPost_ret (v:=.agg #[.int .i64 d.stamp,.slice bo1 d.bytes.1 bcap1]) (by simp [results,Tryz.results153,go_sem,r_0,y_0,r_1,y_1]) rfl ?_;have F:OwnT zag W1 (w.heap.size+1+1) w1.heap.size d ([.int .i64 d.stamp]++[.slice bo1 d.bytes.1 bcap1]):=OwnT.conv (OwnT.pre (A:=layI) (a:=d.stamp) (c:=[.int .i64 d.stamp]) ⟨rfl,Q0.out,rfl⟩ O1.out);refine ⟨[.int .i64 d.stamp,.slice bo1 d.bytes.1 bcap1],rfl,?_,?_⟩
 ·exact OwnT.finb (F.weaken (Nat.le_refl _) (by omega)) (b:=w.heap.size+1) (by omega) (by omega) 0 [.int .i64 d.stamp,.slice bo1 d.bytes.1 bcap1] _ rfl
 ·exact HB.out.trans (zaG (by omega) [.int .i64 d.stamp,.slice bo1 d.bytes.1 bcap1] 0)
set_option maxRecDepth 20000 in
theorem zeU:ToF (zag.slice 90) (szSl zax) 152 153:=fun v d hi w h hhi hn=>by
 obtain ⟨n,x⟩:=d;obtain ⟨ao,cap,hv,hm,hc⟩:=h
 cases hv
 have hn1:=zbQ hn;have hn2:∀ i,i<n→zax (x i)≤1048576:=fun i hi=>za4 hn hi
 simp only at hn1 hm hc
 clear hn
 go_enter Tryz.func152,Tryz.ntmps152
 go_wp2_with (at_make;refine zbB zag [.int .i64 0,.slice none 0 0] _ 90 32 (zeA).hs rfl Tryz.underlying75 (zeA).hi x (fun _=>[]) _ rfl _ _ rfl _ _ n rfl rfl rfl rfl (by omega) (by omega) ?_;intro w1 sp1 hb1)
 go_loopw [12] (fun i wr=>∃ k:Nat,k≤n∧i=.int .i64 k∧∃ ce Ls,SlP zag 90 wr w.heap.size w.heap.size n n k x ce Ls∧Below w.heap.size w wr) (fun i _=>n-(intOf i).toNat)
 case atStart=>exact ⟨0,Nat.zero_le _,rfl,_,_,sp1,hb1⟩
 case round=>
  clear sp1 hb1;obtain ⟨k,hk,rfl,ce,Ls,sp,hb⟩:=hrel
  by_cases hlt:k<n
  ·obtain ⟨b,off,rfl,hblt,hel⟩:=hc (by omega)
   obtain ⟨ck,hrk,hcell⟩:=zar (t:=0) hel hb hhi hblt hlt;obtain ⟨ao1,cap1,rfl,-⟩:=za6 hrk;have c0:wr.cell? ⟨b,off+k*2,none⟩=some (.int .i64 (x k).stamp):=hcell 0 (by decide);have c1:wr.cell? ⟨b,off+k*2+1,none⟩=some (.slice ao1 (x k).bytes.1 cap1):=hcell 1 (by decide);clear hc hel hcell
   go_wp2_with fail
   refine (zfB _ (x k) hi wr hrk (Nat.le_trans hhi hb.size) (hn2 k hlt)).mono ?_;rintro e w2 ⟨cs',rfl,o2,hb2⟩;obtain ⟨bao1,bcap1,rfl⟩:=zcP o2;obtain ⟨z0,s0⟩:=sp.some hb2 hlt (show 0<zag.sz by decide);have s0:w2.cell? ⟨w.heap.size,k*2,none⟩=some z0:=s0;have sf0:=(sp.below hb2).frozen (k*2);obtain ⟨z1,s1⟩:=sp.some hb2 hlt (show 1<zag.sz by decide);have s1:w2.cell? ⟨w.heap.size,k*2+1,none⟩=some z1:=s1;have sf1:=(sp.below hb2).frozen (k*2+1);have N:=sp.next hb2 hlt o2 hb.size;have N2:Below w.heap.size w (stN w2 w.heap.size (k*zag.sz) [.int .i64 (x k).stamp,.slice bao1 (x k).bytes.1 bcap1]):=(hb.trans (hb2.mono hb.size)).trans (zaG (Nat.le_refl _) _ _);clear o2 hb2 sp hb
   go_wp2_with fail
   go_roundw
   case rel=>
    obtain ⟨ce',Ls',N⟩:=N;exact ⟨k+1,by omega,by go_num,ce',Ls',N,N2⟩
   case measure=>simp [intOf];omega
  ·obtain rfl:k=n:=by omega
   go_wp2;go_ret;exact ⟨_,rfl,sp.done (Nat.le_refl _),hb⟩
set_option maxRecDepth 20000 in
theorem zfC:ToV zaa zam 129:=fun cs d hi w r hhi hn=>by
 obtain ⟨ao1,cap1,rfl,h1⟩:=zbb r;clear r;unfold zam at hn;have R1:=hid h1;clear h1;have T0:=zau w #[.bool d.wiped,.slice ao1 d.blocks.1 cap1] #[.bool false,.slice none 0 0] 77 77
 go_enter Tryz.func129,Tryz.ntmps129
 go_wp2_with fail
 refine (zeU _ d.blocks hi _ ((zag.slice 90).rd_below R1.out T0.bel hhi) (Nat.le_trans hhi T0.bel.size) (by omega)).mono ?_;rintro e w1 ⟨v0,rfl,o0,b0⟩;obtain ⟨bo1,bcap1,hv⟩:=zbr o0;obtain rfl:=zaH hv;clear hv;have T0c:=T0.call b0;have z0:=T0.b2.lt;have y0:=b0.size;have c0_1:w1.cell? ⟨w.heap.size,1,none⟩=some (.slice ao1 d.blocks.1 cap1):=T0c.b1.cell 1;have c0f_1:w1.frozen? ⟨w.heap.size,1,none⟩=false:=T0c.b1.frozen 1;have T1x:Two w (w1.setCell ⟨w.heap.size,1,none⟩ (.slice bo1 d.blocks.1 bcap1)) #[.bool d.wiped,.slice bo1 d.blocks.1 bcap1] #[.bool false,.slice none 0 0] 77 77:=⟨T0c.b1.stL [.slice bo1 d.blocks.1 bcap1] 1,T0c.b2.seto _ _ (by omega),T0c.bel.setCell (Nat.le_refl _) _⟩;have O1_0:=(o0.stN w.heap.size 1 [.slice bo1 d.blocks.1 bcap1] (by omega))
 have e1:(w1.setCell ⟨w.heap.size,1,none⟩ (.slice bo1 d.blocks.1 bcap1)).heap.size=w1.heap.size:=by simp
 clear o0 b0
 go_upto_region 2 with fail
 obtain ⟨W1,hW1⟩:∃ x,x=w1.setCell ⟨w.heap.size,1,none⟩ (.slice bo1 d.blocks.1 bcap1):=⟨_,rfl⟩
 have O1:Hid (OwnT (zag.slice 90) W1 (w.heap.size+1+1) (w1.heap.size) d.blocks [.slice bo1 d.blocks.1 bcap1]):=by rw [hW1];exact OwnT.weaken O1_0 (by simp) (Nat.le_refl _)
 rw [← hW1] at T1x e1 ⊢;clear hW1 O1_0 T0c c0_1 c0f_1;have y_0:W1.cell? ⟨w.heap.size,0,none⟩=some (.bool d.wiped):=T1x.b1.cell 0;have y_1:W1.cell? ⟨w.heap.size,1,none⟩=some (.slice bo1 d.blocks.1 bcap1):=T1x.b1.cell 1;have r_0:W1.cell? ⟨w.heap.size+1,0,none⟩=some (.bool false):=T1x.b2.cell 0;have rf_0:W1.frozen? ⟨w.heap.size+1,0,none⟩=false:=T1x.b2.frozen 0;have r_1:W1.cell? ⟨w.heap.size+1,1,none⟩=some (.slice none 0 0):=T1x.b2.cell 1;have rf_1:W1.frozen? ⟨w.heap.size+1,1,none⟩=false:=T1x.b2.frozen 1;have HB:=hid T1x.bel;have zz:=T1x.b2.lt;clear T1x;go_wp2;refine bodyPost_ret (v:=.agg #[.bool d.wiped,.slice bo1 d.blocks.1 bcap1]) (by simp [results,Tryz.results129,go_sem,r_0,y_0,r_1,y_1]) rfl ?_;have F:OwnT zaa W1 (w.heap.size+1+1) w1.heap.size d ([.bool d.wiped]++[.slice bo1 d.blocks.1 bcap1]):=OwnT.conv (OwnT.pre (A:=layB) (a:=d.wiped) (c:=[.bool d.wiped]) ⟨rfl,trivial,rfl⟩ O1.out);refine ⟨[.bool d.wiped,.slice bo1 d.blocks.1 bcap1],rfl,?_,?_⟩
 ·exact OwnT.finb (F.weaken (Nat.le_refl _) (by omega)) (b:=w.heap.size+1) (by omega) (by omega) 0 [.bool d.wiped,.slice bo1 d.blocks.1 bcap1] _ rfl
 ·exact HB.out.trans (zaG (by omega) [.bool d.wiped,.slice bo1 d.blocks.1 bcap1] 0)
set_option maxRecDepth 20000 in
theorem zeV:ToF (zaa.slice 77) (szSl zam) 128 129:=fun v d hi w h hhi hn=>by
 obtain ⟨n,x⟩:=d;obtain ⟨ao,cap,hv,hm,hc⟩:=h
 cases hv
 have hn1:=zbQ hn;have hn2:∀ i,i<n→zam (x i)≤1048576:=fun i hi=>za4 hn hi
 simp only at hn1 hm hc
 clear hn
 go_enter Tryz.func128,Tryz.ntmps128
 go_wp2_with (at_make;refine zbB zaa [.bool false,.slice none 0 0] _ 77 32 (zeB).hs rfl Tryz.underlying78 (zeB).hi x (fun _=>[]) _ rfl _ _ rfl _ _ n rfl rfl rfl rfl (by omega) (by omega) ?_;intro w1 sp1 hb1)
 go_loopw [12] (fun i wr=>∃ k:Nat,k≤n∧i=.int .i64 k∧∃ ce Ls,SlP zaa 77 wr w.heap.size w.heap.size n n k x ce Ls∧Below w.heap.size w wr) (fun i _=>n-(intOf i).toNat)
 case atStart=>exact ⟨0,Nat.zero_le _,rfl,_,_,sp1,hb1⟩
 case round=>
  clear sp1 hb1;obtain ⟨k,hk,rfl,ce,Ls,sp,hb⟩:=hrel
  by_cases hlt:k<n
  ·obtain ⟨b,off,rfl,hblt,hel⟩:=hc (by omega)
   obtain ⟨ck,hrk,hcell⟩:=zar (t:=0) hel hb hhi hblt hlt;obtain ⟨ao1,cap1,rfl,-⟩:=zbb hrk;have c0:wr.cell? ⟨b,off+k*2,none⟩=some (.bool (x k).wiped):=hcell 0 (by decide);have c1:wr.cell? ⟨b,off+k*2+1,none⟩=some (.slice ao1 (x k).blocks.1 cap1):=hcell 1 (by decide);clear hc hel hcell
   go_wp2_with fail
   refine (zfC _ (x k) hi wr hrk (Nat.le_trans hhi hb.size) (hn2 k hlt)).mono ?_;rintro e w2 ⟨cs',rfl,o2,hb2⟩;obtain ⟨bao1,bcap1,rfl⟩:=zdJ o2;obtain ⟨z0,s0⟩:=sp.some hb2 hlt (show 0<zaa.sz by decide);have s0:w2.cell? ⟨w.heap.size,k*2,none⟩=some z0:=s0;have sf0:=(sp.below hb2).frozen (k*2);obtain ⟨z1,s1⟩:=sp.some hb2 hlt (show 1<zaa.sz by decide);have s1:w2.cell? ⟨w.heap.size,k*2+1,none⟩=some z1:=s1;have sf1:=(sp.below hb2).frozen (k*2+1);have N:=sp.next hb2 hlt o2 hb.size;have N2:Below w.heap.size w (stN w2 w.heap.size (k*zaa.sz) [.bool (x k).wiped,.slice bao1 (x k).blocks.1 bcap1]):=(hb.trans (hb2.mono hb.size)).trans (zaG (Nat.le_refl _) _ _);clear o2 hb2 sp hb
   go_wp2_with fail
   go_roundw
   case rel=>
    obtain ⟨ce',Ls',N⟩:=N;exact ⟨k+1,by omega,by go_num,ce',Ls',N,N2⟩
   case measure=>simp [intOf];omega
  ·obtain rfl:k=n:=by omega
   go_wp2;go_ret;exact ⟨_,rfl,sp.done (Nat.le_refl _),hb⟩
theorem zfD:ToS (zaa.slice 77) (szSl zam) 92:=fun v d hi w h hhi hn=>by
 have C:=zeV v d hi w h hhi hn;obtain ⟨ao,cap,hv,hm,hc⟩:=h
 cases hv
 clear hm hc
 go_enter Tryz.func92,Tryz.ntmps92
 go_wp2_with fail
 refine C.mono ?_;rintro e w1 ⟨v1,rfl,o1,b1⟩;have HO:=hid o1;have HB:=hid b1;clear o1 b1 C;go_wp2;go_ret;exact ⟨v1,rfl,HO.out,HB.out⟩
theorem zed:ToF ((zaa.slice 77).slice 78) (szSl (szSl zam)) 91 92:=fun v d hi w h hhi hn=>by
 obtain ⟨n,x⟩:=d;obtain ⟨ao,cap,hv,hm,hc⟩:=h
 cases hv
 have hn1:=zbQ hn;have hn2:∀ i,i<n→szSl zam (x i)≤1048576:=fun i hi=>za4 hn hi
 simp only at hn1 hm hc
 clear hn
 go_enter Tryz.func91,Tryz.ntmps91
 go_wp2_with (at_make;refine zbB (zaa.slice 77) [.slice none 0 0] _ 78 24 zdP.hs rfl Tryz.underlying31 zdP.hi x (fun _=>[]) _ rfl _ _ rfl _ _ n rfl rfl rfl rfl (by omega) (by omega) ?_;intro w1 sp1 hb1)
 go_loopw [12] (fun i wr=>∃ k:Nat,k≤n∧i=.int .i64 k∧∃ ce Ls,SlP (zaa.slice 77) 78 wr w.heap.size w.heap.size n n k x ce Ls∧Below w.heap.size w wr) (fun i _=>n-(intOf i).toNat)
 case atStart=>exact ⟨0,Nat.zero_le _,rfl,_,_,sp1,hb1⟩
 case round=>
  clear sp1 hb1;obtain ⟨k,hk,rfl,ce,Ls,sp,hb⟩:=hrel
  by_cases hlt:k<n
  ·obtain ⟨b,off,rfl,hblt,hel⟩:=hc (by omega)
   obtain ⟨ck,hrk,hcell⟩:=zar (t:=0) hel hb hhi hblt hlt;obtain ⟨ao1,cap1,rfl⟩:=zbl hrk
   have c0:wr.cell? ⟨b,off+k,none⟩=some (.slice ao1 (x k).1 cap1):=by
    have:=hcell 0 (by decide)
    have e:off+(k*(zaa.slice 77).sz+0)=off+k:=by show off+(k*1+0)=off+k;omega
    rw [e] at this;exact this
   clear hc hel hcell
   go_wp2_with fail
   refine (zfD _ (x k) hi wr hrk (Nat.le_trans hhi hb.size) (hn2 k hlt)).mono ?_;rintro e w2 ⟨v2,rfl,o2,hb2⟩;obtain ⟨bao1,bcap1,hv2⟩:=zbr o2;obtain rfl:=zaH hv2;obtain ⟨z0,s0⟩:=sp.some hb2 hlt (show 0<(zaa.slice 77).sz by decide)
   have e0:k*(zaa.slice 77).sz+0=k:=by show k*1+0=k;omega
   rw [e0] at s0;have sf0:=(sp.below hb2).frozen k;have N:=sp.next hb2 hlt o2 hb.size
   have e1:k*(zaa.slice 77).sz=k:=by show k*1=k;omega
   rw [e1] at N;have N2:Below w.heap.size w (stN w2 w.heap.size k [.slice bao1 (x k).1 bcap1]):=(hb.trans (hb2.mono hb.size)).trans (zaG (Nat.le_refl _) _ _);clear o2 hb2 sp hb hv2
   go_wp2_with fail
   go_roundw
   case rel=>
    obtain ⟨ce',Ls',N⟩:=N;exact ⟨k+1,by omega,by go_num,ce',Ls',N,N2⟩
   case measure=>simp [intOf];omega
  ·obtain rfl:k=n:=by omega
   go_wp2;go_ret;exact ⟨_,rfl,sp.done (Nat.le_refl _),hb⟩
set_option maxRecDepth 20000 in
theorem zfE:ToV zab zaS 56:=fun cs d hi w r hhi hn=>by
 obtain ⟨ao1,cap1,ao2,cap2,ao3,cap3,rfl,h1,h2,h3,k0,k4,k5⟩:=zaI r;clear r;unfold zaS at hn;have R1:=hid h1;have R2:=hid h2;have R3:=hid h3;clear h1 h2 h3;have Q0:=hid k0;have Q4:=hid k4;have Q5:=hid k5;clear k0 k4 k5;have T0:=zau w (rwW d ao1 cap1 ao2 cap2 ao3 cap3).toArray (rwV 0 0 0 0 0 0 0 0 0 none 0 0 none 0 0 none 0 0 0 0 false).toArray 34 34
 go_enter Tryz.func56,Tryz.ntmps56
 go_wp2_with fail
 refine (zed _ d.groups hi _ (((zaa.slice 77).slice 78).rd_below R1.out T0.bel hhi) (Nat.le_trans hhi T0.bel.size) (by omega)).mono ?_;rintro e w1 ⟨v0,rfl,o0,b0⟩;obtain ⟨bo1,bcap1,hv⟩:=zbr o0;obtain rfl:=zaH hv;clear hv;have T0c:=T0.call b0;have z0:=T0.b2.lt;have y0:=b0.size;have c0_9:w1.cell? ⟨w.heap.size,9,none⟩=some (.slice ao1 d.groups.1 cap1):=T0c.b1.cell 9;have c0f_9:w1.frozen? ⟨w.heap.size,9,none⟩=false:=T0c.b1.frozen 9;have T1x:Two w (w1.setCell ⟨w.heap.size,9,none⟩ (.slice bo1 d.groups.1 bcap1)) (rwW d bo1 bcap1 ao2 cap2 ao3 cap3).toArray (rwV 0 0 0 0 0 0 0 0 0 none 0 0 none 0 0 none 0 0 0 0 false).toArray 34 34:=⟨T0c.b1.stL [.slice bo1 d.groups.1 bcap1] 9,T0c.b2.seto _ _ (by omega),T0c.bel.setCell (Nat.le_refl _) _⟩;have O1_0:=(o0.stN w.heap.size 9 [.slice bo1 d.groups.1 bcap1] (by omega))
 have e1:(w1.setCell ⟨w.heap.size,9,none⟩ (.slice bo1 d.groups.1 bcap1)).heap.size=w1.heap.size:=by simp
 clear o0 b0
 go_upto_region 2 with fail
 obtain ⟨W1,hW1⟩:∃ x,x=w1.setCell ⟨w.heap.size,9,none⟩ (.slice bo1 d.groups.1 bcap1):=⟨_,rfl⟩
 have O1:Hid (OwnT ((zaa.slice 77).slice 78) W1 (w.heap.size+1+1) (w1.heap.size) d.groups [.slice bo1 d.groups.1 bcap1]):=by rw [hW1];exact OwnT.weaken O1_0 (by simp) (Nat.le_refl _)
 rw [← hW1] at T1x e1 ⊢;clear hW1 O1_0 T0c c0_9 c0f_9;have a1_10:W1.cell? ⟨w.heap.size,10,none⟩=some (.slice ao2 d.on.1 cap2):=T1x.b1.cell 10
 go_wp2_with fail
 refine (zdW _ d.on hi _ (zaj.rd_below R2.out T1x.bel hhi) (Nat.le_trans hhi T1x.bel.size) (by omega)).mono ?_;rintro e w2 ⟨v1,rfl,o1,b1⟩;obtain ⟨bo2,bcap2,hv⟩:=zbL o1;obtain rfl:=zaH hv;clear hv;have T1c:=T1x.call b1;have z1:=T1x.b2.lt;have y1:=b1.size;have c1_10:w2.cell? ⟨w.heap.size,10,none⟩=some (.slice ao2 d.on.1 cap2):=T1c.b1.cell 10;have c1f_10:w2.frozen? ⟨w.heap.size,10,none⟩=false:=T1c.b1.frozen 10;have T2x:Two w (w2.setCell ⟨w.heap.size,10,none⟩ (.slice bo2 d.on.1 bcap2)) (rwW d bo1 bcap1 bo2 bcap2 ao3 cap3).toArray (rwV 0 0 0 0 0 0 0 0 0 none 0 0 none 0 0 none 0 0 0 0 false).toArray 34 34:=⟨T1c.b1.stL [.slice bo2 d.on.1 bcap2] 10,T1c.b2.seto _ _ (by omega),T1c.bel.setCell (Nat.le_refl _) _⟩;have O1_1:=(O1.out.call b1).stN w.heap.size 10 [.slice bo2 d.on.1 bcap2] (by omega);have O2_1:=(o1.stN w.heap.size 10 [.slice bo2 d.on.1 bcap2] (by omega))
 have e2:(w2.setCell ⟨w.heap.size,10,none⟩ (.slice bo2 d.on.1 bcap2)).heap.size=w2.heap.size:=by simp
 clear o1 b1 O1 T1x a1_10
 go_upto_region 3 with fail
 obtain ⟨W2,hW2⟩:∃ x,x=w2.setCell ⟨w.heap.size,10,none⟩ (.slice bo2 d.on.1 bcap2):=⟨_,rfl⟩
 have O1:Hid (OwnT ((zaa.slice 77).slice 78) W2 (w.heap.size+1+1) (w1.heap.size) d.groups [.slice bo1 d.groups.1 bcap1]):=by rw [hW2];exact O1_1
 have O2:Hid (OwnT zaj W2 (W1.heap.size) (w2.heap.size) d.on [.slice bo2 d.on.1 bcap2]):=by rw [hW2];exact O2_1
 rw [← hW2] at T2x e2 ⊢;clear hW2 O1_1 O2_1 T1c c1_10 c1f_10;have a2_11:W2.cell? ⟨w.heap.size,11,none⟩=some (.slice ao3 d.tapes.1 cap3):=T2x.b1.cell 11
 go_wp2_with fail
 refine (zfy _ d.tapes hi _ ((zah.slice 57).rd_below R3.out T2x.bel hhi) (Nat.le_trans hhi T2x.bel.size) (by omega)).mono ?_;rintro e w3 ⟨v2,rfl,o2,b2⟩;obtain ⟨bo3,bcap3,hv⟩:=zbr o2;obtain rfl:=zaH hv;clear hv;have T2c:=T2x.call b2;have z2:=T2x.b2.lt;have y2:=b2.size;have c2_11:w3.cell? ⟨w.heap.size,11,none⟩=some (.slice ao3 d.tapes.1 cap3):=T2c.b1.cell 11;have c2f_11:w3.frozen? ⟨w.heap.size,11,none⟩=false:=T2c.b1.frozen 11;have T3x:Two w (w3.setCell ⟨w.heap.size,11,none⟩ (.slice bo3 d.tapes.1 bcap3)) (rwW d bo1 bcap1 bo2 bcap2 bo3 bcap3).toArray (rwV 0 0 0 0 0 0 0 0 0 none 0 0 none 0 0 none 0 0 0 0 false).toArray 34 34:=⟨T2c.b1.stL [.slice bo3 d.tapes.1 bcap3] 11,T2c.b2.seto _ _ (by omega),T2c.bel.setCell (Nat.le_refl _) _⟩;have O1_2:=(O1.out.call b2).stN w.heap.size 11 [.slice bo3 d.tapes.1 bcap3] (by omega);have O2_2:=(O2.out.call b2).stN w.heap.size 11 [.slice bo3 d.tapes.1 bcap3] (by omega);have O3_2:=(o2.stN w.heap.size 11 [.slice bo3 d.tapes.1 bcap3] (by omega))
 have e3:(w3.setCell ⟨w.heap.size,11,none⟩ (.slice bo3 d.tapes.1 bcap3)).heap.size=w3.heap.size:=by simp
 clear o2 b2 O1 O2 T2x a2_11
 go_upto_region 4 with fail
 obtain ⟨W3,hW3⟩:∃ x,x=w3.setCell ⟨w.heap.size,11,none⟩ (.slice bo3 d.tapes.1 bcap3):=⟨_,rfl⟩
 have O1:Hid (OwnT ((zaa.slice 77).slice 78) W3 (w.heap.size+1+1) (w1.heap.size) d.groups [.slice bo1 d.groups.1 bcap1]):=by rw [hW3];exact O1_2
 have O2:Hid (OwnT zaj W3 (W1.heap.size) (w2.heap.size) d.on [.slice bo2 d.on.1 bcap2]):=by rw [hW3];exact O2_2
 have O3:Hid (OwnT (zah.slice 57) W3 (W2.heap.size) (w3.heap.size) d.tapes [.slice bo3 d.tapes.1 bcap3]):=by rw [hW3];exact O3_2
 rw [← hW3] at T3x e3 ⊢;clear hW3 O1_2 O2_2 O3_2 T2c c2_11 c2f_11;have y_0:W3.cell? ⟨w.heap.size,0,none⟩=some (.int .i64 (d.shape 0)):=T3x.b1.cell 0;have y_1:W3.cell? ⟨w.heap.size,1,none⟩=some (.int .i64 (d.shape 1)):=T3x.b1.cell 1;have y_2:W3.cell? ⟨w.heap.size,2,none⟩=some (.int .i64 (d.shape 2)):=T3x.b1.cell 2;have y_3:W3.cell? ⟨w.heap.size,3,none⟩=some (.int .i64 (d.shape 3)):=T3x.b1.cell 3;have y_4:W3.cell? ⟨w.heap.size,4,none⟩=some (.int .i64 (d.shape 4)):=T3x.b1.cell 4;have y_5:W3.cell? ⟨w.heap.size,5,none⟩=some (.int .i64 (d.shape 5)):=T3x.b1.cell 5;have y_6:W3.cell? ⟨w.heap.size,6,none⟩=some (.int .i64 (d.shape 6)):=T3x.b1.cell 6;have y_7:W3.cell? ⟨w.heap.size,7,none⟩=some (.int .i64 (d.shape 7)):=T3x.b1.cell 7;have y_8:W3.cell? ⟨w.heap.size,8,none⟩=some (.int .i64 (d.shape 8)):=T3x.b1.cell 8;have y_9:W3.cell? ⟨w.heap.size,9,none⟩=some (.slice bo1 d.groups.1 bcap1):=T3x.b1.cell 9;have y_10:W3.cell? ⟨w.heap.size,10,none⟩=some (.slice bo2 d.on.1 bcap2):=T3x.b1.cell 10;have y_11:W3.cell? ⟨w.heap.size,11,none⟩=some (.slice bo3 d.tapes.1 bcap3):=T3x.b1.cell 11;have y_12:W3.cell? ⟨w.heap.size,12,none⟩=some (.int .i64 d.writes):=T3x.b1.cell 12;have y_13:W3.cell? ⟨w.heap.size,13,none⟩=some (.int .i64 d.stop):=T3x.b1.cell 13;have y_14:W3.cell? ⟨w.heap.size,14,none⟩=some (.bool d.down):=T3x.b1.cell 14;have r_0:W3.cell? ⟨w.heap.size+1,0,none⟩=some (.int .i64 0):=T3x.b2.cell 0;have rf_0:W3.frozen? ⟨w.heap.size+1,0,none⟩=false:=T3x.b2.frozen 0;have r_1:W3.cell? ⟨w.heap.size+1,1,none⟩=some (.int .i64 0):=T3x.b2.cell 1;have rf_1:W3.frozen? ⟨w.heap.size+1,1,none⟩=false:=T3x.b2.frozen 1;have r_2:W3.cell? ⟨w.heap.size+1,2,none⟩=some (.int .i64 0):=T3x.b2.cell 2;have rf_2:W3.frozen? ⟨w.heap.size+1,2,none⟩=false:=T3x.b2.frozen 2;have r_3:W3.cell? ⟨w.heap.size+1,3,none⟩=some (.int .i64 0):=T3x.b2.cell 3;have rf_3:W3.frozen? ⟨w.heap.size+1,3,none⟩=false:=T3x.b2.frozen 3;have r_4:W3.cell? ⟨w.heap.size+1,4,none⟩=some (.int .i64 0):=T3x.b2.cell 4;have rf_4:W3.frozen? ⟨w.heap.size+1,4,none⟩=false:=T3x.b2.frozen 4;have r_5:W3.cell? ⟨w.heap.size+1,5,none⟩=some (.int .i64 0):=T3x.b2.cell 5;have rf_5:W3.frozen? ⟨w.heap.size+1,5,none⟩=false:=T3x.b2.frozen 5;have r_6:W3.cell? ⟨w.heap.size+1,6,none⟩=some (.int .i64 0):=T3x.b2.cell 6;have rf_6:W3.frozen? ⟨w.heap.size+1,6,none⟩=false:=T3x.b2.frozen 6;have r_7:W3.cell? ⟨w.heap.size+1,7,none⟩=some (.int .i64 0):=T3x.b2.cell 7;have rf_7:W3.frozen? ⟨w.heap.size+1,7,none⟩=false:=T3x.b2.frozen 7;have r_8:W3.cell? ⟨w.heap.size+1,8,none⟩=some (.int .i64 0):=T3x.b2.cell 8;have rf_8:W3.frozen? ⟨w.heap.size+1,8,none⟩=false:=T3x.b2.frozen 8;have r_9:W3.cell? ⟨w.heap.size+1,9,none⟩=some (.slice none 0 0):=T3x.b2.cell 9;have rf_9:W3.frozen? ⟨w.heap.size+1,9,none⟩=false:=T3x.b2.frozen 9
 have r_10:W3.cell? ⟨w.heap.size+1,10,none⟩=some (.slice none 0 0):=T3x.b2.cell 10;have rf_10:W3.frozen? ⟨w.heap.size+1,10,none⟩=false:=T3x.b2.frozen 10;have r_11:W3.cell? ⟨w.heap.size+1,11,none⟩=some (.slice none 0 0):=T3x.b2.cell 11;have rf_11:W3.frozen? ⟨w.heap.size+1,11,none⟩=false:=T3x.b2.frozen 11;have r_12:W3.cell? ⟨w.heap.size+1,12,none⟩=some (.int .i64 0):=T3x.b2.cell 12;have rf_12:W3.frozen? ⟨w.heap.size+1,12,none⟩=false:=T3x.b2.frozen 12;have r_13:W3.cell? ⟨w.heap.size+1,13,none⟩=some (.int .i64 0):=T3x.b2.cell 13;have rf_13:W3.frozen? ⟨w.heap.size+1,13,none⟩=false:=T3x.b2.frozen 13;have r_14:W3.cell? ⟨w.heap.size+1,14,none⟩=some (.bool false):=T3x.b2.cell 14;have rf_14:W3.frozen? ⟨w.heap.size+1,14,none⟩=false:=T3x.b2.frozen 14;have HB:=hid T3x.bel;have zz:=T3x.b2.lt;clear T3x;go_wp2;refine bodyPost_ret (v:=.agg (rwW d bo1 bcap1 bo2 bcap2 bo3 bcap3).toArray) (by simp [results,Tryz.results56,go_sem,r_0,y_0,r_1,y_1,r_2,y_2,r_3,y_3,r_4,y_4,r_5,y_5,r_6,y_6,r_7,y_7,r_8,y_8,r_9,y_9,r_10,y_10,r_11,y_11,r_12,y_12,r_13,y_13,r_14,y_14]) rfl ?_;have F:OwnT zab W3 (w.heap.size+1+1) w3.heap.size d ((rwS d.shape)++([.slice bo1 d.groups.1 bcap1]++([.slice bo2 d.on.1 bcap2]++([.slice bo3 d.tapes.1 bcap3]++([.int .i64 d.writes]++([.int .i64 d.stop]++[.bool d.down])))))):=OwnT.conv (OwnT.pre (A:=(zda 9)) (a:=d.shape) (c:=(rwS d.shape)) ⟨rfl,Q0.out,rfl⟩ (OwnT.two O1.out (OwnT.two O2.out (OwnT.two O3.out (OwnT.pre (A:=layI) (a:=d.writes) (c:=[.int .i64 d.writes]) ⟨rfl,Q4.out,rfl⟩ (OwnT.pre (A:=layI) (a:=d.stop) (c:=[.int .i64 d.stop]) ⟨rfl,Q5.out,rfl⟩ (OwnT.nil (A:=layB) (a:=d.down) (c:=[.bool d.down]) ⟨rfl,trivial,rfl⟩ _ _))) (Nat.le_refl _) (by omega) (by omega)) (by omega) (by omega) (by omega)) (by omega) (by omega) (by omega)));refine ⟨(rwW d bo1 bcap1 bo2 bcap2 bo3 bcap3),rfl,?_,?_⟩
 ·exact OwnT.finb (F.weaken (Nat.le_refl _) (by omega)) (b:=w.heap.size+1) (by omega) (by omega) 0 (rwW d bo1 bcap1 bo2 bcap2 bo3 bcap3) _ rfl
 ·exact HB.out.trans (zaG (by omega) (rwW d bo1 bcap1 bo2 bcap2 bo3 bcap3) 0)
end Go.Proofs.YtdhnekgfhpanfaaGreat
