/- Walk of the specification's l5Copy. -/
import Derived.Deep.RegionHeld3
import Derived.Test.YtclclojenogpbaaGreatZPputitat
set_option linter.unusedVariables false
set_option linter.unusedSimpArgs false
set_option maxHeartbeats 16000000
namespace Go.Proofs.YtclclojenogpbaaGreat
open Go.RowKit F256
theorem drive_of' {w:World} {lo hi:Nat} {d:DriveD} {ao:Option Addr} {cap:Nat} (h:OwnT (zak.slice 126) w lo hi d.blocks [.slice ao d.blocks.1 cap]):OwnT zae w lo hi d [.bool d.wiped,.slice ao d.blocks.1 cap]:=
 OwnT.conv (OwnT.pre (A:=layB) (a:=d.wiped) (c:=[.bool d.wiped]) ⟨rfl,trivial,rfl⟩ h)
theorem tape_of' {w:World} {lo hi:Nat} {d:TapeD} {ao:Option Addr} {cap:Nat} (h:OwnT (zab.slice 72) w lo hi d.recs [.slice ao d.recs.1 cap]):OwnT zah w lo hi d [.bool d.wiped,.slice ao d.recs.1 cap]:=
 OwnT.conv (OwnT.pre (A:=layB) (a:=d.wiped) (c:=[.bool d.wiped]) ⟨rfl,trivial,rfl⟩ h)
theorem Three.chgl3 {w wc w':World} {c1 c2 c3:Array Value} {t1 t2 t3:TypeId} (h:Three w wc c1 c2 c3 t1 t2 t3) (c3':Array Value) (hb:Box w' (w.heap.size+1+1) c3' t3) (hc:ChgL [w.heap.size+1+1] wc w'):Three w w' c1 c2 c3' t1 t2 t3:=
 ⟨h.b1.chgl hc (by simp only [List.mem_singleton];omega),h.b2.chgl hc (by simp only [List.mem_singleton];omega),hb,h.bel.trans (hc.bel (fun b hb=>by simp only [List.mem_singleton] at hb;omega) h.bel.size)⟩
theorem OwnT.chgl {α:Type} {A:Lay α} {w w':World} {lo hi:Nat} {a:α} {cs:List Value} {K:List Nat} (h:OwnT A w lo hi a cs) (hc:ChgL K w w') (hK:∀ b,b∈K→b<lo):OwnT A w' lo hi a cs:=by
 obtain ⟨M,h1,h2,h3⟩:=h;exact ⟨M,A.own_kept h1 (fun b hb=>hc.block b (A.own_lt h1 b hb) (fun hh=>by have:=hK b hh;have:=(h3 b hb).1;omega)),h2,h3⟩
set_option maxRecDepth 20000 in
theorem zmu:ToV zad zaT 47:=fun cs d hi w r hhi hn=>by
 obtain ⟨ao1,cap1,ao2,cap2,ao3,cap3,rfl,g1,g2,g3,k0,k4,k5⟩:=zaP r;clear r;unfold zaT lenD at hn
 have hnG:szSl (szSl zaz) d.groups≤1048576:=by omega
 have hnO:d.on.1≤1048576:=by omega
 have hnT:szSl zaZ d.tapes≤1048576:=by omega
 clear hn;have Q0:=hid k0;have Q4:=hid k4;have Q5:=hid k5;have HG2:=hid g2;obtain ⟨_,_,e1,hm1,hc1⟩:=g1
 cases e1
 obtain ⟨_,_,e3,hm3,hc3⟩:=g3
 cases e3
 have HC1:=hid hc1;have HC3:=hid hc3;have hgn:=zcI hnG;have htn:=zcI hnT;have HNG:Hid (∀ i,i<d.groups.1→szSl zaz (d.groups.2 i)≤1048576):=fun i hi=>zbM hnG hi;have HNT:Hid (∀ i,i<d.tapes.1→zaZ (d.tapes.2 i)≤1048576):=fun i hi=>zbM hnT hi;clear k0 k4 k5 g2 hc1 hc3 hnG hnT hm1 hm3;have T0:=zci w (rwW d ao1 cap1 ao2 cap2 ao3 cap3).toArray (rwV 0 0 0 0 0 0 0 0 0 none 0 0 none 0 0 none 0 0 0 0 false).toArray #[.int .i64 (d.shape 0),.int .i64 (d.shape 1),.int .i64 (d.shape 2),.int .i64 (d.shape 3),.int .i64 (d.shape 4),.int .i64 (d.shape 5),.int .i64 (d.shape 6),.int .i64 (d.shape 7),.int .i64 (d.shape 8),.slice none 0 0,.slice ao2 d.on.1 cap2,.slice ao3 d.tapes.1 cap3,.int .i64 d.writes,.int .i64 d.stop,.bool d.down] 38 38 38
 go_enter Tryz.func47,Tryz.ntmps47
 go_wp2
 go_loopw [4] (fun i wr=>∃ (g:Nat) (ga:Option Addr) (gc:Nat),g≤d.groups.1∧i=.int .i64 g∧Three w wr (rwW d ao1 cap1 ao2 cap2 ao3 cap3).toArray (rwV 0 0 0 0 0 0 0 0 0 none 0 0 none 0 0 none 0 0 0 0 false).toArray #[.int .i64 (d.shape 0),.int .i64 (d.shape 1),.int .i64 (d.shape 2),.int .i64 (d.shape 3),.int .i64 (d.shape 4),.int .i64 (d.shape 5),.int .i64 (d.shape 6),.int .i64 (d.shape 7),.int .i64 (d.shape 8),.slice ga g gc,.slice ao2 d.on.1 cap2,.slice ao3 d.tapes.1 cap3,.int .i64 d.writes,.int .i64 d.stop,.bool d.down] 38 38 38∧Gat (zae.slice 124) 109 wr (w.heap.size+1+1+1) (.slice ga g gc) g d.groups.2) (fun i _=>d.groups.1-(intOf i).toNat)
 case atStart=>exact ⟨0,none,0,Nat.zero_le _,rfl,T0,Gat.nil _ _ _⟩
 case round=>
  clear T0;obtain ⟨g,ga,gc,hg,rfl,T1,G1⟩:=hrel;obtain ⟨wo,rfl⟩:∃ x,x=wr:=⟨_,rfl⟩;have HT1:=hid T1;have HG1:=hid G1;have zo:w.heap.size+1+1+1≤wo.heap.size:=T1.lt;have x9:wo.cell? ⟨w.heap.size,9,none⟩=some (.slice ao1 d.groups.1 cap1):=T1.b1.cell 9
  by_cases hlg:g<d.groups.1
  ·obtain ⟨b1,off1,he1,hb1,hel1⟩:=HC1.out (by omega)
   subst he1;obtain ⟨cg,hrg,hcg⟩:=zay (t:=0) hel1 T1.bel hhi hb1 hlg;obtain ⟨ao9,cap9,rfl⟩:=zbX hrg
   have c0:wo.cell? ⟨b1,off1+g,none⟩=some (.slice ao9 (d.groups.2 g).1 cap9):=by
    have:=hcg 0 (by decide)
    have e:off1+(g*(zae.slice 124).sz+0)=off1+g:=by show off1+(g*1+0)=off1+g;omega
    rw [e] at this;exact this
   have HC0:=hid c0;have hnD:=HNG.out g hlg;have hdn:=zcI hnD;have HND:Hid (∀ i,i<(d.groups.2 g).1→zaz ((d.groups.2 g).2 i)≤1048576):=fun i hi=>zbM hnD hi;obtain ⟨_,_,e9,hm9,hc9⟩:=hrg
   cases e9
   have HC9:=hid hc9;clear hel1 hcg T1 G1 hc9 hnD hm9;go_wp2
   go_loopw [5,6] (fun v i wx=>∃ (k:Nat) (da:Option Addr) (dc:Nat),k≤(d.groups.2 g).1∧i=.int .i64 k∧v=.slice da k dc∧Gat zae 124 wx wo.heap.size (.slice da k dc) k (d.groups.2 g).2∧Below wo.heap.size wo wx) (fun _ i _=>(d.groups.2 g).1-(intOf i).toNat)
   case atStart=>exact ⟨0,_,_,Nat.zero_le _,rfl,rfl,zjH _ _,(Below.refl _ _).alloc (Nat.le_refl _) _⟩
   case round=>
    clear x9 c0;obtain ⟨k,da,dc,hk,rfl,rfl,G2,B2⟩:=hrel;obtain ⟨wx,rfl⟩:∃ x,x=wr:=⟨_,rfl⟩;have HG2':=hid G2;have HB2:=hid B2;have zx:wo.heap.size≤wx.heap.size:=B2.size;have x9:wx.cell? ⟨w.heap.size,9,none⟩=some (.slice (some ⟨b1,off1,none⟩) d.groups.1 cap1):=(HT1.out.call B2).b1.cell 9;have c0:wx.cell? ⟨b1,off1+g,none⟩=some (.slice ao9 (d.groups.2 g).1 cap9):=(B2.cell (p:=⟨b1,off1+g,none⟩) (by show b1<wo.heap.size;omega)).trans HC0.out
    by_cases hlk:k<(d.groups.2 g).1
    ·obtain ⟨b9,off9,he9,hb9,hel9⟩:=HC9.out (by omega)
     subst he9;obtain ⟨cd,hrd,hcd⟩:=zay (t:=0) hel9 B2 (by omega) hb9 hlk;obtain ⟨ao5,cap5,rfl,g5⟩:=zbI hrd;obtain ⟨D,hD⟩:∃ x,x=(d.groups.2 g).2 k:=⟨_,rfl⟩;rw [← hD] at hcd g5;have HD:=hid hD
     have hnB:szSl zaV D.blocks≤1048576:=by rw [hD];exact HND.out k hlk
     have hbn:=zcI hnB;have HNB:Hid (∀ i,i<D.blocks.1→zaV (D.blocks.2 i)≤1048576):=fun i hi=>zbM hnB hi;have c2:wx.cell? ⟨b9,off9+k*2,none⟩=some (.bool D.wiped):=hcd 0 (by decide);have c3:wx.cell? ⟨b9,off9+k*2+1,none⟩=some (.slice ao5 D.blocks.1 cap5):=hcd 1 (by decide);have HC3':=hid c3;have HC0':=hid c0;obtain ⟨_,_,e5,hm5,hc5⟩:=g5
     cases e5
     have HC5:=hid hc5;clear hel9 hcd hrd G2 B2 hD hnB hc5 hm5;go_wp2;have bA:=bAl wx (.cells #[.bool D.wiped,.slice none 0 0] 124);have XA:=zap wx #[.bool D.wiped,.slice none 0 0] 124
     go_loopw [8] (fun i wz=>∃ (q:Nat) (ba:Option Addr) (bc:Nat),q≤D.blocks.1∧i=.int .i64 q∧Box wz wx.heap.size #[.bool D.wiped,.slice ba q bc] 124∧Gat zak 126 wz (wx.heap.size+1) (.slice ba q bc) q D.blocks.2∧Below wx.heap.size wx wz) (fun i _=>D.blocks.1-(intOf i).toNat)
     case atStart=>exact ⟨0,none,0,Nat.zero_le _,rfl,XA,Gat.nil _ _ _,bA⟩
     case round=>
      clear x9 c0 c2 c3 bA XA;obtain ⟨q,ba,bc,hq,rfl,X3,G3,B3⟩:=hrel;obtain ⟨wz,rfl⟩:∃ x,x=wr:=⟨_,rfl⟩;have HX3:=hid X3;have HG3:=hid G3;have HB3:=hid B3;have zz:wx.heap.size<wz.heap.size:=X3.lt;have x9:wz.cell? ⟨w.heap.size,9,none⟩=some (.slice (some ⟨b1,off1,none⟩) d.groups.1 cap1):=((HT1.out.call HB2.out).call B3).b1.cell 9;have c0:wz.cell? ⟨b1,off1+g,none⟩=some (.slice (some ⟨b9,off9,none⟩) (d.groups.2 g).1 cap9):=(B3.cell (p:=⟨b1,off1+g,none⟩) (by show b1<wx.heap.size;omega)).trans HC0'.out;have c3:wz.cell? ⟨b9,off9+k*2+1,none⟩=some (.slice ao5 D.blocks.1 cap5):=(B3.cell (p:=⟨b9,off9+k*2+1,none⟩) (by show b9<wx.heap.size;omega)).trans HC3'.out;have y0:wz.cell? ⟨wx.heap.size,0,none⟩=some (.bool D.wiped):=X3.cell 0;have y1:wz.cell? ⟨wx.heap.size,1,none⟩=some (.slice ba q bc):=X3.cell 1
      by_cases hlq:q<D.blocks.1
      ·obtain ⟨b5,off5,he5,hb5,hel5⟩:=HC5.out (by omega)
       subst he5;obtain ⟨cb,hrb,hcb⟩:=zay (t:=0) hel5 B3 (by omega) hb5 hlq;obtain ⟨ao0,cap0,rfl,-⟩:=zbz hrb;have s0:wz.cell? ⟨b5,off5+q*2,none⟩=some (.int .i64 (D.blocks.2 q).stamp):=hcb 0 (by decide);have s1:wz.cell? ⟨b5,off5+q*2+1,none⟩=some (.slice ao0 (D.blocks.2 q).bytes.1 cap0):=hcb 1 (by decide);have CC:=zf4 _ (D.blocks.2 q) hi wz.drew (zak.rd_below (B:=hi) hrb ⟨rfl,rfl,rfl,Nat.le_refl _,fun _ _=>rfl⟩ (Nat.le_refl _)) (show hi≤wz.heap.size by omega) (HNB.out q hlq)
       have CC:=CC.mono (R':=fun e w'=>∃ bo bcc,e=.returned (.agg #[.int .i64 (D.blocks.2 q).stamp,.slice bo (D.blocks.2 q).bytes.1 bcc])∧OwnT zak w' wz.drew.heap.size w'.heap.size (D.blocks.2 q) [.int .i64 (D.blocks.2 q).stamp,.slice bo (D.blocks.2 q).bytes.1 bcc]∧Below wz.drew.heap.size wz.drew w') (fun e w' ⟨c5,he,o5,b5'⟩=>by
        obtain ⟨bo,bcc,rfl⟩:=zdU o5
        exact ⟨bo,bcc,he,o5,b5'⟩)
       clear hel5 hcb hrb X3 G3 B3;have KS:∀ w',Below (wx.heap.size+1) wz w'→(w'.cell? ⟨w.heap.size,9,none⟩=some (.slice (some ⟨b1,off1,none⟩) d.groups.1 cap1)∧w'.cell? ⟨b1,off1+g,none⟩=some (.slice (some ⟨b9,off9,none⟩) (d.groups.2 g).1 cap9)∧w'.cell? ⟨b9,off9+k*2+1,none⟩=some (.slice (some ⟨b5,off5,none⟩) D.blocks.1 cap5)∧w'.cell? ⟨b5,off5+q*2,none⟩=some (.int .i64 (D.blocks.2 q).stamp)∧w'.cell? ⟨b5,off5+q*2+1,none⟩=some (.slice ao0 (D.blocks.2 q).bytes.1 cap0)∧w'.cell? ⟨wx.heap.size,1,none⟩=some (.slice ba q bc)):=fun w' hb=>⟨(hb.cell (p:=⟨w.heap.size,9,none⟩) (by show w.heap.size<wx.heap.size+1;omega)).trans x9,(hb.cell (p:=⟨b1,off1+g,none⟩) (by show b1<wx.heap.size+1;omega)).trans c0,(hb.cell (p:=⟨b9,off9+k*2+1,none⟩) (by show b9<wx.heap.size+1;omega)).trans c3,(hb.cell (p:=⟨b5,off5+q*2,none⟩) (by show b5<wx.heap.size+1;omega)).trans s0,(hb.cell (p:=⟨b5,off5+q*2+1,none⟩) (by show b5<wx.heap.size+1;omega)).trans s1,(hb.cell (p:=⟨wx.heap.size,1,none⟩) (Nat.lt_succ_self _)).trans y1⟩
       have i1:(0:Int)≤(g:Int):=by omega
       have i2:(g:Int)<(d.groups.1:Int):=by omega
       have i3:(0:Int)≤(k:Int):=by omega
       have i4:(k:Int)<((d.groups.2 g).1:Int):=by omega
       have i5:(0:Int)≤(q:Int):=by omega
       have i6:(q:Int)<(D.blocks.1:Int):=by omega
       go_upto_region 14 with fail
       refine zbC 18 (fun w'=>w'.cell? ⟨w.heap.size,9,none⟩=some (.slice (some ⟨b1,off1,none⟩) d.groups.1 cap1)∧w'.cell? ⟨b1,off1+g,none⟩=some (.slice (some ⟨b9,off9,none⟩) (d.groups.2 g).1 cap9)∧w'.cell? ⟨b9,off9+k*2+1,none⟩=some (.slice (some ⟨b5,off5,none⟩) D.blocks.1 cap5)∧w'.cell? ⟨b5,off5+q*2,none⟩=some (.int .i64 (D.blocks.2 q).stamp)∧w'.cell? ⟨b5,off5+q*2+1,none⟩=some (.slice ao0 (D.blocks.2 q).bytes.1 cap0)∧w'.cell? ⟨wx.heap.size,1,none⟩=some (.slice ba q bc)) (by kernel_rfl) (KS _ ⟨rfl,rfl,rfl,Nat.le_refl _,fun _ _=>rfl⟩) (fun hHeld=>?_);refine zoh 0 rfl ?_
       try simp only [Act.put,SL]
       refine zoh 1 rfl ?_
       try simp only [Act.put,SL]
       refine zoh 2 rfl ?_
       try simp only [Act.put,SL]
       refine zoh 3 rfl ?_
       try simp only [Act.put,SL]
       refine zoh 4 rfl ?_
       try simp only [Act.put,SL]
       refine zoh 5 rfl ?_
       try simp only [Act.put,SL]
       refine zoh 6 rfl ?_
       try simp only [Act.put,SL]
       refine zoh 7 rfl ?_
       try simp only [Act.put,SL]
       refine zoh 8 rfl ?_
       try simp only [Act.put,SL]
       refine zoh 9 rfl ?_
       try simp only [Act.put,SL]
       refine zoh 10 rfl ?_
       try simp only [Act.put,SL]
       refine zoh 11 rfl ?_
       try simp only [Act.put,SL]
       refine zoh 12 rfl ?_
       try simp only [Act.put,SL]
       refine zoh 13 rfl ?_
       try simp only [Act.put,SL]
       refine zaA (i:=14) (o:=_) rfl (by kernel_rfl) (fun K hK=>?_)
       refine zbe rfl 79 _ _ rfl #[.agg #[.int .i64 (D.blocks.2 q).stamp,.slice ao0 (D.blocks.2 q).bytes.1 cap0]] ?_ Tryz.func79 (by kernel_rfl) (by kernel_rfl) CC ?_;(simp [Act.eval,Act.put]);rintro ee w5 ⟨bo,bcc,rfl,o5,b5'⟩;have b5w:Below wz.heap.size wz w5:=⟨b5'.os,b5'.tape,b5'.output,b5'.size,b5'.block⟩;have q1:w5.cell? ⟨wx.heap.size,1,none⟩=some (.slice ba q bc):=(HX3.out.call b5w).cell 1;have q3:=(zcS w5 (.cells #[.int .i64 (D.blocks.2 q).stamp,.slice bo (D.blocks.2 q).bytes.1 bcc] 126) wx.heap.size 1 (by have:=b5w.size;omega)).trans q1;refine ⟨_,rfl,?_⟩
       refine hK.out _ _ (KS _ (b5w.mono (Nat.succ_le_of_lt zz))) (fun hHeld=>?_);clear hK K
       try simp only [Act.put,SL]
       refine zaA (i:=15) (o:=_) rfl (by kernel_rfl) (fun K hK=>?_);go_simp;refine hK.out _ _ (KS _ ((b5w.mono (Nat.succ_le_of_lt zz)).alloc (by have:=b5w.size;omega) _)) (fun hHeld=>?_);clear hK K
       try simp only [Act.put,SL]
       refine zaA (i:=16) (o:=_) rfl (by kernel_rfl) (fun K hK=>?_)
       refine zeN zgK rfl (.tmp 55) (.tmp 69) rfl (lo:=wx.heap.size+1) (n:=q) (v:=.slice ba q bc) (x:=D.blocks.2) ?_ HG3.out b5w o5 ?_ w5.heap.size 1 ?_ (fun j _=>zcL w5 _ _ j) (by omega) (by omega) ?_;(simp [Act.eval,Act.put]);(exact (Below.refl _ _).alloc (Nat.le_refl _) _);(simp [Act.eval,Act.put]);intro v4 w4 g4 b4;obtain ⟨ba4,bc4,rfl⟩:=g4.form;have X4:=HX3.out.below b4 (Nat.lt_succ_self _);have p1:w4.cell? ⟨wx.heap.size,1,none⟩=some (.slice ba q bc):=X4.cell 1;have p2:w4.frozen? ⟨wx.heap.size,1,none⟩=false:=X4.frozen 1
       refine hK.out _ _ (KS _ b4) (fun hHeld=>?_);clear hK K
       try simp only [Act.put,SL]
       refine zaA (i:=17) (o:=_) rfl (by kernel_rfl) (fun K hK=>?_);go_simp;refine hK.out _ _ (KS _ b4) (fun hHeld=>?_);clear hK K
       try simp only [Act.put,SL]
       refine zbA (o:=_) rfl (by kernel_rfl) (fun K hK=>?_);go_simp;refine hK.out _ _ ?_;clear hK K
       try simp only [Act.put,SL]
       refine zbB (by kernel_rfl) ?_ _;go_wp2
       go_roundw
       case rel=>exact ⟨q+1,ba4,bc4,by omega,by go_num,X4.setc 1 (.slice ba4 (q+1) bc4),(g4.set _ _ _ (Nat.lt_succ_self _)).congr (fun i _=>by rw [zcO]),(HB3.out.trans (b4.mono (Nat.le_succ _))).setCell (Nat.le_refl _) _⟩
       case measure=>simp [intOf];omega
      ·obtain rfl:q=D.blocks.1:=by omega
       have OD:OwnT zae wz wx.heap.size wz.heap.size D [.bool D.wiped,.slice ba D.blocks.1 bc]:=drive_of' (HG3.out.own.weaken (Nat.le_succ _) (Nat.le_refl _));clear X3 G3 B3
       go_wp2_with (at_builtin;refine zeA zgL rfl (.tmp 72) (.tmp 74) rfl (lo:=wo.heap.size) (n:=k) (v:=.slice da k dc) (x:=(d.groups.2 g).2) ?_ HG2'.out HB3.out OD ?_ wz.heap.size 1 ?_ (fun j _=>zcL wz _ _ j) (by omega) (by omega) ?_;(simp [Act.eval]);(exact (Below.refl _ _).alloc (Nat.le_refl _) _);(simp [Act.eval]);intro v4 w4 g4 b4;obtain ⟨da4,dc4,rfl⟩:=g4.form)
       go_roundw
       case rel=>exact ⟨k+1,da4,dc4,by omega,by go_num,rfl,g4.congr (fun i _=>by rw [HD.out,zcO]),HB2.out.trans b4⟩
       case measure=>simp [intOf];omega
    ·obtain rfl:k=(d.groups.2 g).1:=by omega
     have OG:OwnT (zae.slice 124) wx wo.heap.size wx.heap.size (d.groups.2 g) [.slice da (d.groups.2 g).1 dc]:=HG2'.out.own;have T2:=HT1.out.call B2;have e9:wx.cell? ⟨w.heap.size+1+1,9,none⟩=some (.slice ga g gc):=T2.b3.cell 9;have e9':=(zcS wx (.cells #[.slice da (d.groups.2 g).1 dc] 109) (w.heap.size+1+1) 9 (by omega)).trans e9;clear T2 G2 B2
     go_wp2_with (at_builtin;refine zeA zfs rfl (.tmp 77) (.tmp 79) rfl (lo:=w.heap.size+1+1+1) (n:=g) (v:=.slice ga g gc) (x:=d.groups.2) ?_ HG1.out HB2.out OG ?_ wx.heap.size 1 ?_ (fun j _=>zcL wx _ _ j) (by omega) (by omega) ?_;(simp [Act.eval]);(exact (Below.refl _ _).alloc (Nat.le_refl _) _);(simp [Act.eval]);intro v4 w4 g4 b4;obtain ⟨ga4,gc4,rfl⟩:=g4.form;have T4:=HT1.out.low b4;have p1:w4.cell? ⟨w.heap.size+1+1,9,none⟩=some (.slice ga g gc):=T4.b3.cell 9;have p2:w4.frozen? ⟨w.heap.size+1+1,9,none⟩=false:=T4.b3.frozen 9)
     go_roundw
     case rel=>exact ⟨g+1,ga4,gc4,by omega,by go_num,T4.st3 9 [.slice ga4 (g+1) gc4] rfl,(g4.set _ _ _ (by omega)).congr (fun i _=>by rw [zcO])⟩
     case measure=>simp [intOf];omega
  ·obtain rfl:g=d.groups.1:=by omega
   have bA:=bAl wo (.cells #[] 2);have TA:=T1.call bA;obtain ⟨v',w2,hrun,o2,b2⟩:=zeP 25 (wo.alloc (.cells #[] 2)) wo.heap.size (zfy wo 2) (zao.rd_below HG2.out TA.bel hhi) (show d.on.1≤10000000 by omega);obtain ⟨oa,oc,hv⟩:=zcC o2;obtain rfl:=zaW hv;clear hv;have T2:Three w w2 (rwW d ao1 cap1 ao2 cap2 ao3 cap3).toArray (rwV 0 0 0 0 0 0 0 0 0 none 0 0 none 0 0 none 0 0 0 0 false).toArray (rwW d ga gc ao2 cap2 ao3 cap3).toArray 38 38 38:=TA.low (b2.mono zo)
   have G2:Gat (zae.slice 124) 109 w2 (w.heap.size+1+1+1) (.slice ga d.groups.1 gc) d.groups.1 d.groups.2:=by
    have h1:Below wo.heap.size wo w2:=bA.trans b2;exact G1.below h1
   have xa:(wo.alloc (.cells #[] 2)).cell? ⟨w.heap.size,10,none⟩=some (.slice ao2 d.on.1 cap2):=TA.b1.cell 10;have xb:w2.cell? ⟨w.heap.size+1+1,10,none⟩=some (.slice ao2 d.on.1 cap2):=T2.b3.cell 10;have xf:w2.frozen? ⟨w.heap.size+1+1,10,none⟩=false:=T2.b3.frozen 10;have T3:=T2.st3 10 [.slice oa d.on.1 oc] (c3':=(rwW d ga gc oa oc ao3 cap3)) rfl;have T4:Three w (stN (stN w2 (w.heap.size+1+1) 10 [.slice oa d.on.1 oc]) (w.heap.size+1+1) 11 [.slice none 0 0]) (rwW d ao1 cap1 ao2 cap2 ao3 cap3).toArray (rwV 0 0 0 0 0 0 0 0 0 none 0 0 none 0 0 none 0 0 0 0 false).toArray #[.int .i64 (d.shape 0),.int .i64 (d.shape 1),.int .i64 (d.shape 2),.int .i64 (d.shape 3),.int .i64 (d.shape 4),.int .i64 (d.shape 5),.int .i64 (d.shape 6),.int .i64 (d.shape 7),.int .i64 (d.shape 8),.slice ga d.groups.1 gc,.slice oa d.on.1 oc,.slice none 0 0,.int .i64 d.writes,.int .i64 d.stop,.bool d.down] 38 38 38:=T3.st3 11 [.slice none 0 0] (c3':=[.int .i64 (d.shape 0),.int .i64 (d.shape 1),.int .i64 (d.shape 2),.int .i64 (d.shape 3),.int .i64 (d.shape 4),.int .i64 (d.shape 5),.int .i64 (d.shape 6),.int .i64 (d.shape 7),.int .i64 (d.shape 8),.slice ga d.groups.1 gc,.slice oa d.on.1 oc,.slice none 0 0,.int .i64 d.writes,.int .i64 d.stop,.bool d.down]) rfl;have O4:=(o2.stN (w.heap.size+1+1) 10 [.slice oa d.on.1 oc] (by omega)).stN (w.heap.size+1+1) 11 [.slice none 0 0] (by omega);have G4:Gat (zae.slice 124) 109 (stN (stN w2 (w.heap.size+1+1) 10 [.slice oa d.on.1 oc]) (w.heap.size+1+1) 11 [.slice none 0 0]) (w.heap.size+1+1+1) (.slice ga d.groups.1 gc) d.groups.1 d.groups.2:=(G2.set _ 10 _ (by omega)).set _ 11 _ (by omega);have xc:(w2.setCell ⟨w.heap.size+1+1,10,none⟩ (.slice oa d.on.1 oc)).cell? ⟨w.heap.size+1+1,11,none⟩=some (.slice ao3 d.tapes.1 cap3):=T3.b3.cell 11;have xg:(w2.setCell ⟨w.heap.size+1+1,10,none⟩ (.slice oa d.on.1 oc)).frozen? ⟨w.heap.size+1+1,11,none⟩=false:=T3.b3.frozen 11;have z2:wo.heap.size≤w2.heap.size:=Nat.le_trans bA.size b2.size
   have ez:(stN (stN w2 (w.heap.size+1+1) 10 [.slice oa d.on.1 oc]) (w.heap.size+1+1) 11 [.slice none 0 0]).heap.size=w2.heap.size:=by rw [zbT,zbT]
   have GO:OwnT ((zae.slice 124).slice 109) wo (w.heap.size+1+1+1) wo.heap.size d.groups [.slice ga d.groups.1 gc]:=G1.own;have GO4:=((GO.call (bA.trans b2)).stN (w.heap.size+1+1) 10 [.slice oa d.on.1 oc] (by omega)).stN (w.heap.size+1+1) 11 [.slice none 0 0] (by omega);clear T1 TA T2 T3 G1 G2 G4 o2 b2 bA GO
   go_upto_region 19 with (at_builtin;refine zc4 rfl (.tmp 82) (.tmp 84) rfl ?_ ?_ hrun ?_;(simp [Act.eval]);(simp [Act.eval]))
   obtain ⟨W4,hW4⟩:∃ x,x=stN (stN w2 (w.heap.size+1+1) 10 [.slice oa d.on.1 oc]) (w.heap.size+1+1) 11 [.slice none 0 0]:=⟨_,rfl⟩
   change Code.wp Tryz.prog _ _ _ (stN (stN w2 (w.heap.size+1+1) 10 [.slice oa d.on.1 oc]) (w.heap.size+1+1) 11 [.slice none 0 0])
   rw [← hW4] at T4 O4 GO4 ez ⊢;have HT4:=hid T4;have HO4:=hid O4;have HGO:=hid GO4;clear T4 O4 GO4 hW4 xa xb xf xc xg hrun x9;go_wp2
   go_loopw [9] (fun i wr=>∃ (t:Nat) (ta:Option Addr) (tc:Nat),t≤d.tapes.1∧i=.int .i64 t∧Box wr (w.heap.size+1+1) #[.int .i64 (d.shape 0),.int .i64 (d.shape 1),.int .i64 (d.shape 2),.int .i64 (d.shape 3),.int .i64 (d.shape 4),.int .i64 (d.shape 5),.int .i64 (d.shape 6),.int .i64 (d.shape 7),.int .i64 (d.shape 8),.slice ga d.groups.1 gc,.slice oa d.on.1 oc,.slice ta t tc,.int .i64 d.writes,.int .i64 d.stop,.bool d.down] 38∧Gat zah 112 wr W4.heap.size (.slice ta t tc) t d.tapes.2∧ChgL [w.heap.size+1+1] W4 wr) (fun i _=>d.tapes.1-(intOf i).toNat)
   case atStart=>exact ⟨0,none,0,Nat.zero_le _,rfl,HT4.out.b3,Gat.nil _ _ _,ChgL.refl _ _⟩
   case round=>
    obtain ⟨t,ta,tc,ht,rfl,X5,G5,C5⟩:=hrel;obtain ⟨wx,rfl⟩:∃ x,x=wr:=⟨_,rfl⟩;have T5:Three w wx (rwW d ao1 cap1 ao2 cap2 ao3 cap3).toArray (rwV 0 0 0 0 0 0 0 0 0 none 0 0 none 0 0 none 0 0 0 0 false).toArray #[.int .i64 (d.shape 0),.int .i64 (d.shape 1),.int .i64 (d.shape 2),.int .i64 (d.shape 3),.int .i64 (d.shape 4),.int .i64 (d.shape 5),.int .i64 (d.shape 6),.int .i64 (d.shape 7),.int .i64 (d.shape 8),.slice ga d.groups.1 gc,.slice oa d.on.1 oc,.slice ta t tc,.int .i64 d.writes,.int .i64 d.stop,.bool d.down] 38 38 38:=HT4.out.chgl3 _ X5 C5;have HT5:=hid T5;have HG5:=hid G5;have HC5:=hid C5;have zx:W4.heap.size≤wx.heap.size:=C5.size;have x11:wx.cell? ⟨w.heap.size,11,none⟩=some (.slice ao3 d.tapes.1 cap3):=T5.b1.cell 11;have e11:wx.cell? ⟨w.heap.size+1+1,11,none⟩=some (.slice ta t tc):=T5.b3.cell 11
    by_cases hlt:t<d.tapes.1
    ·obtain ⟨b3,off3,he3,hb3,hel3⟩:=HC3.out (by omega)
     subst he3;obtain ⟨ct,hrt,hct⟩:=zay (t:=0) hel3 T5.bel hhi hb3 hlt;obtain ⟨ao7,cap7,rfl,g7⟩:=zbg hrt;have c0:wx.cell? ⟨b3,off3+t*2,none⟩=some (.bool (d.tapes.2 t).wiped):=hct 0 (by decide);have c1:wx.cell? ⟨b3,off3+t*2+1,none⟩=some (.slice ao7 (d.tapes.2 t).recs.1 cap7):=hct 1 (by decide);have HCA:=hid c0;have CC:=zg1 _ (d.tapes.2 t).recs hi wx.drew ((zab.slice 72).rd_below (B:=hi) g7 ⟨rfl,rfl,rfl,Nat.le_refl _,fun _ _=>rfl⟩ (Nat.le_refl _)) (show hi≤wx.heap.size by omega) (HNT.out t hlt)
     have CC:=CC.mono (R':=fun e w'=>∃ ra rc,e=.returned (.slice ra (d.tapes.2 t).recs.1 rc)∧OwnT (zab.slice 72) w' wx.drew.heap.size w'.heap.size (d.tapes.2 t).recs [.slice ra (d.tapes.2 t).recs.1 rc]∧Below wx.drew.heap.size wx.drew w') (fun e w' ⟨v5,he,o5,b5'⟩=>by
      obtain ⟨ra,rc,hv5⟩:=zb6 o5;obtain rfl:=zaW hv5
      exact ⟨ra,rc,he,o5,b5'⟩)
     clear hel3 hct hrt g7 X5 G5 C5 T5;have KS:∀ w',Below (w.heap.size+1+1+1) wx w'→(w'.cell? ⟨w.heap.size,11,none⟩=some (.slice (some ⟨b3,off3,none⟩) d.tapes.1 cap3)∧w'.cell? ⟨b3,off3+t*2,none⟩=some (.bool (d.tapes.2 t).wiped)∧w'.cell? ⟨b3,off3+t*2+1,none⟩=some (.slice ao7 (d.tapes.2 t).recs.1 cap7)∧w'.cell? ⟨w.heap.size+1+1,11,none⟩=some (.slice ta t tc)):=fun w' hb=>⟨(hb.cell (p:=⟨w.heap.size,11,none⟩) (by show w.heap.size<w.heap.size+1+1+1;omega)).trans x11,(hb.cell (p:=⟨b3,off3+t*2,none⟩) (by show b3<w.heap.size+1+1+1;omega)).trans c0,(hb.cell (p:=⟨b3,off3+t*2+1,none⟩) (by show b3<w.heap.size+1+1+1;omega)).trans c1,(hb.cell (p:=⟨w.heap.size+1+1,11,none⟩) (Nat.lt_succ_self _)).trans e11⟩
     have i1:(0:Int)≤(t:Int):=by omega
     have i2:(t:Int)<(d.tapes.1:Int):=by omega
     go_upto_region 22 with fail
     refine zbC 19 (fun w'=>w'.cell? ⟨w.heap.size,11,none⟩=some (.slice (some ⟨b3,off3,none⟩) d.tapes.1 cap3)∧w'.cell? ⟨b3,off3+t*2,none⟩=some (.bool (d.tapes.2 t).wiped)∧w'.cell? ⟨b3,off3+t*2+1,none⟩=some (.slice ao7 (d.tapes.2 t).recs.1 cap7)∧w'.cell? ⟨w.heap.size+1+1,11,none⟩=some (.slice ta t tc)) (by kernel_rfl) (KS _ ⟨rfl,rfl,rfl,Nat.le_refl _,fun _ _=>rfl⟩) (fun hHeld=>?_);refine zoh 0 rfl ?_
     try simp only [Act.put,SL]
     refine zoh 1 rfl ?_
     try simp only [Act.put,SL]
     refine zoh 2 rfl ?_
     try simp only [Act.put,SL]
     refine zoh 3 rfl ?_
     try simp only [Act.put,SL]
     refine zoh 4 rfl ?_
     try simp only [Act.put,SL]
     refine zoh 5 rfl ?_
     try simp only [Act.put,SL]
     refine zoh 6 rfl ?_
     try simp only [Act.put,SL]
     refine zoh 7 rfl ?_
     try simp only [Act.put,SL]
     refine zoh 8 rfl ?_
     try simp only [Act.put,SL]
     refine zoh 9 rfl ?_
     try simp only [Act.put,SL]
     refine zoh 10 rfl ?_
     try simp only [Act.put,SL]
     refine zoh 11 rfl ?_
     try simp only [Act.put,SL]
     refine zoh 12 rfl ?_
     try simp only [Act.put,SL]
     refine zoh 13 rfl ?_
     try simp only [Act.put,SL]
     refine zaA (i:=14) (o:=_) rfl (by kernel_rfl) (fun K hK=>?_)
     refine zbe rfl 80 _ _ rfl #[.slice ao7 (d.tapes.2 t).recs.1 cap7] ?_ Tryz.func80 (by kernel_rfl) (by kernel_rfl) CC ?_;(simp [Act.eval,Act.put]);rintro ee w5 ⟨ra,rc,rfl,o5,b5'⟩;have b5w:Below wx.heap.size wx w5:=⟨b5'.os,b5'.tape,b5'.output,b5'.size,b5'.block⟩;have T6:=HT5.out.call b5w;have q1:w5.cell? ⟨w.heap.size+1+1,11,none⟩=some (.slice ta t tc):=T6.b3.cell 11;have q3:=(zcS w5 (.cells #[.bool (d.tapes.2 t).wiped,.slice ra (d.tapes.2 t).recs.1 rc] 112) (w.heap.size+1+1) 11 (by have:=b5w.size;omega)).trans q1;clear T6;refine ⟨_,rfl,?_⟩
     refine hK.out _ _ (KS _ (b5w.mono (by omega))) (fun hHeld=>?_);clear hK K
     try simp only [Act.put,SL]
     refine zoh 15 rfl ?_
     try simp only [Act.put,SL]
     refine zaA (i:=16) (o:=_) rfl (by kernel_rfl) (fun K hK=>?_);go_simp;refine hK.out _ _ (KS _ ((b5w.mono (by omega)).alloc (by have:=b5w.size;omega) _)) (fun hHeld=>?_);clear hK K
     try simp only [Act.put,SL]
     refine zaA (i:=17) (o:=_) rfl (by kernel_rfl) (fun K hK=>?_)
     refine zeN ziP rfl (.tmp 96) (.tmp 111) rfl (lo:=W4.heap.size) (n:=t) (v:=.slice ta t tc) (x:=d.tapes.2) ?_ HG5.out b5w (tape_of' o5) ?_ w5.heap.size 1 ?_ (fun j _=>zcL w5 _ _ j) (by omega) (by omega) ?_;(simp [Act.eval,Act.put]);(exact (Below.refl _ _).alloc (Nat.le_refl _) _);(simp [Act.eval,Act.put]);intro v4 w4 g4 b4;obtain ⟨ta4,tc4,rfl⟩:=g4.form;have X4:=HT5.out.b3.below b4 (by omega);have p1:w4.cell? ⟨w.heap.size+1+1,11,none⟩=some (.slice ta t tc):=X4.cell 11;have p2:w4.frozen? ⟨w.heap.size+1+1,11,none⟩=false:=X4.frozen 11
     refine hK.out _ _ (KS _ (b4.mono (by omega))) (fun hHeld=>?_);clear hK K
     try simp only [Act.put,SL]
     refine zaA (i:=18) (o:=_) rfl (by kernel_rfl) (fun K hK=>?_);go_simp;refine hK.out _ _ (KS _ (b4.mono (by omega))) (fun hHeld=>?_);clear hK K
     try simp only [Act.put,SL]
     refine zbA (o:=_) rfl (by kernel_rfl) (fun K hK=>?_);go_simp;refine hK.out _ _ ?_;clear hK K
     try simp only [Act.put,SL]
     refine zbB (by kernel_rfl) ?_ _;go_wp2
     go_roundw
     case rel=>exact ⟨t+1,ta4,tc4,by omega,by go_num,X4.stL [.slice ta4 (t+1) tc4] 11,(g4.set _ _ _ (by omega)).congr (fun i _=>by rw [zcO]),(HC5.out.after b4).st (w.heap.size+1+1) 11 _ (by simp)⟩
     case measure=>simp [intOf];omega
    ·obtain rfl:t=d.tapes.1:=by omega
     clear X5 e11
     have F0:OwnT zad wx (w.heap.size+1+1+1) wx.heap.size d (rwW d ga gc oa oc ta tc):=by
      have C5':=C5;clear T5 G5 C5;have F:OwnT zad wx (w.heap.size+1+1+1) wx.heap.size d ((rwS d.shape)++([.slice ga d.groups.1 gc]++([.slice oa d.on.1 oc]++([.slice ta d.tapes.1 tc]++([.int .i64 d.writes]++([.int .i64 d.stop]++[.bool d.down])))))):=OwnT.conv (OwnT.pre (A:=(zey 9)) (a:=d.shape) (c:=(rwS d.shape)) ⟨rfl,Q0.out,rfl⟩ (OwnT.two (HGO.out.chgl HC5.out (fun b hb=>by simp at hb;omega)) (OwnT.two (HO4.out.chgl HC5.out (fun b hb=>by simp at hb;omega)) (OwnT.two (HG5.out.own.weaken (show w2.heap.size≤W4.heap.size by omega) (Nat.le_refl _)) (OwnT.pre (A:=layI) (a:=d.writes) (c:=[.int .i64 d.writes]) ⟨rfl,Q4.out,rfl⟩ (OwnT.pre (A:=layI) (a:=d.stop) (c:=[.int .i64 d.stop]) ⟨rfl,Q5.out,rfl⟩ (OwnT.nil (A:=layB) (a:=d.down) (c:=[.bool d.down]) ⟨rfl,trivial,rfl⟩ wx.heap.size wx.heap.size))) (Nat.le_refl _) (by omega) (Nat.le_refl _)) (by omega) (by omega) (by omega)) (by omega) (by omega) (by omega)));exact F
     have HF:=hid F0;clear G5 C5
     go_wp2_with (first | (refine zai 38 (.tmp 3) rfl rfl (w.heap.size+1+1) rfl T5.b3 Tryz.underlying38 zbq rfl ?_) | (refine zaR 38 _ _ rfl rfl (w.heap.size+1) rfl (cs:=(rwW d ga gc oa oc ta tc)) rfl T5.b2 zbq rfl rfl F0.one ?_;intro w9 X9 C9 z9))
     refine zbE Tryz.results47 rfl X9 Tryz.underlying38 zbq rfl rfl ?_;refine ⟨(rwW d ga gc oa oc ta tc),rfl,?_,?_⟩
     ·exact (HF.out.chgk C9 (fun b hb=>by simp at hb;omega)).weaken (by omega) C9.size
     ·exact T5.bel.trans (C9.bel (fun b hb=>by simp at hb;omega) T5.bel.size)
theorem znd (w:World) (b i j:Nat) (u:Value) (h:i≠j):(w.setCell ⟨b,i,none⟩ u).cell? ⟨b,j,none⟩=w.cell? ⟨b,j,none⟩:=by
 unfold World.setCell World.cell?
 simp only [Array.getElem?_modify]
 cases w.heap[b]? with
 | none=>rfl
 | some o=>cases o<;>simp [Array.getElem?_setIfInBounds,h]
theorem zk8 (w:World) (a:Addr) (b:Addr) (u:Value):(w.setCell a u).frozen? b=w.frozen? b:=by
 unfold World.setCell World.frozen?
 simp only [Array.getElem?_modify]
 by_cases h:a.block=b.block
 ·rw [if_pos h]
  cases w.heap[b.block]? with
  | none=>rfl
  | some o=>cases o<;>rfl
 ·rw [if_neg h]
theorem zii (w:World) (b i j:Nat) (u v:Value) (h:i≠j):(w.setCell ⟨b,i,none⟩ u).setCell ⟨b,j,none⟩ v=(w.setCell ⟨b,j,none⟩ v).setCell ⟨b,i,none⟩ u:=by
 have hh:((w.setCell ⟨b,i,none⟩ u).setCell ⟨b,j,none⟩ v).heap=((w.setCell ⟨b,j,none⟩ v).setCell ⟨b,i,none⟩ u).heap:=by
  unfold World.setCell
  apply Array.ext_getElem?
  intro k
  simp only [Array.getElem?_modify]
  split
  ·cases w.heap[k]? with
   | none=>rfl
   | some o=>cases o<;>simp [Array.setIfInBounds_comm _ _ h]
  ·rfl
 show ({ w with heap:=((w.setCell ⟨b,i,none⟩ u).setCell ⟨b,j,none⟩ v).heap }:World)={ w with heap:=((w.setCell ⟨b,j,none⟩ v).setCell ⟨b,i,none⟩ u).heap }
 rw [hh]
set_option maxRecDepth 20000 in
theorem zew (B:Nat) (d:WorldD) (K:List Nat) (T:Nat) (hT2:T<2) (r:RecD) (o6 o7 o8:Option Addr) (k6 k7 k8 hi:Nat) (w:World) (hX:SpB w B d K) (hf:Fit3 1 d) (hr:∀ w',ChgL [B] w w'→zab.rd w' hi r [.int .i64 r.kind,.int .i64 r.seq,.string r.name,.int .i64 r.length,.int .i64 r.group,.int .i64 r.row,.slice o6 r.rows.1 k6,.slice o7 r.data.1 k7,.slice o8 r.delta.1 k8]) (hhi:hi≤w.heap.size) (hsr:zaJ r≤1048576) :
 Calls Tryz.prog 176 #[.pointer (some ⟨B,0,none⟩),.int .i64 (T:Int),.agg #[.int .i64 r.kind,.int .i64 r.seq,.string r.name,.int .i64 r.length,.int .i64 r.group,.int .i64 r.row,.slice o6 r.rows.1 k6,.slice o7 r.data.1 k7,.slice o8 r.delta.1 k8]] w (SpP (zaM r T d) B w K):=by
 have T0:=zaL w (rwR r o6 k6 o7 k7 o8 k8).toArray 72
 have X0:SpB (w.alloc (.cells (rwR r o6 k6 o7 k7 o8 k8).toArray 72)) B d K:=by
  obtain ⟨cs,h1,h2⟩:=hX;exact ⟨cs,h1.below T0.bel h1.lt,Lay.own_kept _ h2.own (fun b hk=>T0.bel.block b (zad.own_lt h2.own b hk)),h2.nd,h2.ne⟩
 have CR:=zm8 B d K _ X0 hf.up (by have:=hf.low;have:=hf.room;omega);have hBl0:=hX.lt;have HF:=hid hf;have HRR:=hid hr
 have HK:Hid (∀ b,b∈K→b<w.heap.size):=by
  obtain ⟨cs,h1,h2⟩:=hX;exact fun b hb=>zad.own_lt h2.own b hb
 clear hX hf hr X0
 go_enter Tryz.func176,Tryz.ntmps176
 go_wp2_with fail
 refine CR.mono ?_;rintro e w5 (⟨hfl,rfl,⟨K5,X5,s5⟩,C5⟩ | ⟨hfl,rfl,X5,C5⟩)
 ·clear CR
  go_wp2;go_ret
  have e:zaM r T d=.cut d:=by unfold zaM rawO;rw [if_pos hfl]
  rw [e];exact ⟨rfl,K5,X5,fun b hb=>.inl (s5 b hb),(ChgL.of_below T0.bel).trans (C5.mono (fun b hb=>by simp at hb;simp [hb]))⟩
 ·have HFL:=hid hfl
  have z5:=C5.size
  have sA:(w.alloc (.cells (rwR r o6 k6 o7 k7 o8 k8).toArray 72)).heap.size=w.heap.size+1:=by simp
  have HC5:Hid (ChgL (B::K) w w5):=(ChgL.of_below T0.bel).trans (C5.mono (fun b hb=>by simp at hb;simp [hb]));have Q5:=T0.b1.chgl C5 (by simp;omega);have bB5:ChgL [B] w w5.drew:=((ChgL.of_below T0.bel).trans C5).drew;clear CR hfl C5;obtain ⟨cs5,B5,O5⟩:=X5;have O5d:EncO w5.drew B { d with writes:=d.writes+1 } cs5 K:=O5.chg (ChgL.refl [B] _).drew;obtain ⟨p1,c1,p2,c2,p3,c3,K1',K2',K3',rfl,rfl,WO⟩:=O5d.open;have two:=HF.out.two;obtain ⟨gt,cap,ce,Ls,e3,eL,S3⟩:=zch WO.t (by show d.tapes.1≠0;omega)
  simp only [List.cons.injEq,Value.slice.injEq,and_true,true_and] at e3
  obtain ⟨rfl,rfl⟩:=e3;subst eL
  have hT:T<d.tapes.1:=by omega
  have hn:(d.tapes.2 T).recs.1≤1048576:=by have:=HF.out.few T hT2;omega
  have nd3:(gt::catN d.tapes.1 Ls).Nodup:=(List.nodup_append.1 (List.nodup_append.1 WO.nd).2.1).2.1;obtain ⟨ao9,cap9,K9,e9,eK9,o9⟩:=ze6 (S3.each T hT)
  have nd9:K9.Nodup:=by rw [← eK9];exact zfM (List.nodup_cons.1 nd3).2 hT
  have inK:∀ b,b∈gt::catN d.tapes.1 Ls→b∈K1'++(K2'++(gt::catN d.tapes.1 Ls)):=fun b hb=>List.mem_append_right _ (List.mem_append_right _ hb);have in9:∀ b,b∈K9→b∈gt::catN d.tapes.1 Ls:=fun b hb=>SlO.sub T hT b (by rw [eK9];exact hb);have hgt:gt∉K9:=fun hb=>(List.nodup_cons.1 nd3).1 (zaO.2 ⟨T,hT,by rw [eK9];exact hb⟩);have hB9:B∉K9:=fun hb=>O5.ne (inK _ (in9 _ hb))
  have hq9:w.heap.size∉K9:=fun hb=>by have:=HK.out _ (inK _ (in9 _ hb));omega
  have x11:w5.drew.cell? ⟨B,11,none⟩=some (.slice (some ⟨gt,0,none⟩) d.tapes.1 c3):=B5.cell 11;have y0:w5.drew.cell? ⟨gt,T*2,none⟩=some (.bool (d.tapes.2 T).wiped):=(S3.cell hT (j:=0) (by decide)).trans (by rw [e9];rfl);have y1:w5.drew.cell? ⟨gt,T*2+1,none⟩=some (.slice ao9 (d.tapes.2 T).recs.1 cap9):=(S3.cell hT (j:=1) (by decide)).trans (by rw [e9];rfl);have hgl:gt<w5.drew.heap.size:=S3.lt;have hbl:B<w5.drew.heap.size:=B5.lt;have hql:w.heap.size<w5.drew.heap.size:=Q5.lt;have KS:∀ w',ChgL K9 w5.drew w'→(w'.cell? ⟨B,11,none⟩=some (.slice (some ⟨gt,0,none⟩) d.tapes.1 c3)∧w'.cell? ⟨gt,T*2+1,none⟩=some (.slice ao9 (d.tapes.2 T).recs.1 cap9)∧w'.cell? ⟨w.heap.size,0,none⟩=some (.int .i64 r.kind)∧w'.cell? ⟨w.heap.size,1,none⟩=some (.int .i64 r.seq)∧w'.cell? ⟨w.heap.size,2,none⟩=some (.string r.name)∧w'.cell? ⟨w.heap.size,3,none⟩=some (.int .i64 r.length)∧w'.cell? ⟨w.heap.size,4,none⟩=some (.int .i64 r.group)∧w'.cell? ⟨w.heap.size,5,none⟩=some (.int .i64 r.row)∧w'.cell? ⟨w.heap.size,6,none⟩=some (.slice o6 r.rows.1 k6)∧w'.cell? ⟨w.heap.size,7,none⟩=some (.slice o7 r.data.1 k7)∧w'.cell? ⟨w.heap.size,8,none⟩=some (.slice o8 r.delta.1 k8)):=fun w' hc=>⟨(World.cell?_of_block (hc.block B hbl hB9)).trans x11,(World.cell?_of_block (hc.block gt hgl hgt)).trans y1,(World.cell?_of_block (hc.block w.heap.size hql hq9)).trans (Q5.cell 0),(World.cell?_of_block (hc.block w.heap.size hql hq9)).trans (Q5.cell 1),(World.cell?_of_block (hc.block w.heap.size hql hq9)).trans (Q5.cell 2),(World.cell?_of_block (hc.block w.heap.size hql hq9)).trans (Q5.cell 3),(World.cell?_of_block (hc.block w.heap.size hql hq9)).trans (Q5.cell 4),(World.cell?_of_block (hc.block w.heap.size hql hq9)).trans (Q5.cell 5),(World.cell?_of_block (hc.block w.heap.size hql hq9)).trans (Q5.cell 6),(World.cell?_of_block (hc.block w.heap.size hql hq9)).trans (Q5.cell 7),(World.cell?_of_block (hc.block w.heap.size hql hq9)).trans (Q5.cell 8)⟩
  have CC:=(zeW (rwR r o6 k6 o7 k7 o8 k8) r hi w5.drew (HRR.out _ bB5) (Nat.le_trans hhi bB5.size) hsr).mono (R':=fun e w'=>∃ s6 m6 s7 m7 s8 m8,e=.returned (.agg (rwR r s6 m6 s7 m7 s8 m8).toArray)∧OwnT zab w' w5.drew.heap.size w'.heap.size r (rwR r s6 m6 s7 m7 s8 m8)∧Below w5.drew.heap.size w5.drew w') (fun e w' ⟨cs',he,o5,b5⟩=>by
   obtain ⟨s6,m6,s7,m7,s8,m8,rfl⟩:=zgr o5
   exact ⟨s6,m6,s7,m7,s8,m8,he,o5,b5⟩)
  have AP:=fun (W:World) (hW:Below w5.drew.heap.size w5.drew W) (La:List Nat) (cs:List Value) (ha:zab.own W r cs La)=>zmg o9 nd9 (Nat.le_trans hn (by decide)) hW ha
  have i1:(0:Int)≤(T:Int):=by omega
  have i2:(T:Int)<(d.tapes.1:Int):=by omega
  have HNE:=hid O5.ne;replace B5:Box w5.drew B _ 38:=B5;have HBX:=hid B5;clear two O5d O5 B5
  go_upto_region 3 with fail
  refine zbC 19 (fun w'=>w'.cell? ⟨B,11,none⟩=some (.slice (some ⟨gt,0,none⟩) d.tapes.1 c3)∧w'.cell? ⟨gt,T*2+1,none⟩=some (.slice ao9 (d.tapes.2 T).recs.1 cap9)∧w'.cell? ⟨w.heap.size,0,none⟩=some (.int .i64 r.kind)∧w'.cell? ⟨w.heap.size,1,none⟩=some (.int .i64 r.seq)∧w'.cell? ⟨w.heap.size,2,none⟩=some (.string r.name)∧w'.cell? ⟨w.heap.size,3,none⟩=some (.int .i64 r.length)∧w'.cell? ⟨w.heap.size,4,none⟩=some (.int .i64 r.group)∧w'.cell? ⟨w.heap.size,5,none⟩=some (.int .i64 r.row)∧w'.cell? ⟨w.heap.size,6,none⟩=some (.slice o6 r.rows.1 k6)∧w'.cell? ⟨w.heap.size,7,none⟩=some (.slice o7 r.data.1 k7)∧w'.cell? ⟨w.heap.size,8,none⟩=some (.slice o8 r.delta.1 k8)) (by kernel_rfl) (KS _ (ChgL.refl _ _)) (fun hHeld=>?_);refine zoh 0 rfl ?_
  try simp only [Act.put,SL]
  refine zoh 1 rfl ?_
  try simp only [Act.put,SL]
  refine zoh 2 rfl ?_
  try simp only [Act.put,SL]
  refine zoh 3 rfl ?_
  try simp only [Act.put,SL]
  refine zoh 4 rfl ?_
  try simp only [Act.put,SL]
  refine zoh 5 rfl ?_
  try simp only [Act.put,SL]
  refine zoh 6 rfl ?_
  try simp only [Act.put,SL]
  refine zoh 7 rfl ?_
  try simp only [Act.put,SL]
  refine zoh 8 rfl ?_
  try simp only [Act.put,SL]
  refine zoh 9 rfl ?_
  try simp only [Act.put,SL]
  refine zoh 10 rfl ?_
  try simp only [Act.put,SL]
  refine zoh 11 rfl ?_
  try simp only [Act.put,SL]
  refine zoh 12 rfl ?_
  try simp only [Act.put,SL]
  refine zoh 13 rfl ?_
  try simp only [Act.put,SL]
  refine zaA (i:=14) (o:=_) rfl (by kernel_rfl) (fun KC hKC=>?_)
  refine zbe rfl 125 _ _ rfl #[.agg (rwR r o6 k6 o7 k7 o8 k8).toArray] ?_ Tryz.func125 (by kernel_rfl) (by kernel_rfl) CC ?_;(simp [Act.eval,Act.put]);rintro ee w5a ⟨s6,m6,s7,m7,s8,m8,rfl,o5,b5⟩;have k5:=KS w5a (ChgL.of_below b5);have bA:=bAl w5a (.cells (rwR r s6 m6 s7 m7 s8 m8).toArray 72);have kA:=KS _ (ChgL.of_below (b5.trans (bA.mono b5.size)));obtain ⟨La,a1,a2,a3⟩:=o5;have e1:Below w5.drew.heap.size w5.drew (w5a.alloc (.cells (rwR r s6 m6 s7 m7 s8 m8).toArray 72)):=b5.trans (bA.mono b5.size);have e2:zab.own (w5a.alloc (.cells (rwR r s6 m6 s7 m7 s8 m8).toArray 72)) r (rwR r s6 m6 s7 m7 s8 m8) La:=zab.own_kept a1 (fun b hb=>bA.block b (a3 b hb).2);have e3:∀ b,b∈La→w5.drew.heap.size≤b:=fun b hb=>(a3 b hb).1;have e4:=zcL w5a (rwR r s6 m6 s7 m7 s8 m8) 72;have e5:=AP (w5a.alloc (.cells (rwR r s6 m6 s7 m7 s8 m8).toArray 72)) e1 La (rwR r s6 m6 s7 m7 s8 m8) e2 a2 e3 w5a.heap.size e4;clear e1 e2 e3 e4;obtain ⟨s9,m9,w6,L',hrun,TT⟩:=e5;have k6':=KS w6 TT.chg;have f0:w6.frozen? ⟨gt,T*2,none⟩=false:=(World.frozen?_of_block (a:=⟨gt,T*2,none⟩) (TT.chg.block gt S3.lt hgt)).trans (S3.frozen _);have f1:w6.frozen? ⟨gt,T*2+1,none⟩=false:=(World.frozen?_of_block (a:=⟨gt,T*2+1,none⟩) (TT.chg.block gt S3.lt hgt)).trans (S3.frozen _);have t0:w6.cell? ⟨gt,T*2,none⟩=some (.bool (d.tapes.2 T).wiped):=(World.cell?_of_block (a:=⟨gt,T*2,none⟩) (TT.chg.block gt S3.lt hgt)).trans y0;have t1:w6.cell? ⟨gt,T*2+1,none⟩=some (.slice ao9 (d.tapes.2 T).recs.1 cap9):=k6'.2.1;refine ⟨_,rfl,?_⟩
  refine hKC.out _ _ (k5) (fun hHeld=>?_);clear hKC KC
  try simp only [Act.put,SL]
  refine zaA (i:=15) (o:=_) rfl (by kernel_rfl) (fun KC hKC=>?_);go_simp;refine hKC.out _ _ (kA) (fun hHeld=>?_);clear hKC KC
  try simp only [Act.put,SL]
  refine zaA (i:=16) (o:=_) rfl (by kernel_rfl) (fun KC hKC=>?_)
  refine zaw rfl (.tmp 22) (.tmp 25) rfl ?_ ?_ hrun ?_;(simp [Act.eval,Act.put]);(simp [Act.eval,Act.put])
  refine hKC.out _ _ (k6') (fun hHeld=>?_);clear hKC KC
  try simp only [Act.put,SL]
  refine zoh 17 rfl ?_
  try simp only [Act.put,SL]
  refine zoh 18 rfl ?_
  try simp only [Act.put,SL]
  refine zbA (o:=_) rfl (by kernel_rfl) (fun KC hKC=>?_);go_simp;refine hKC.out _ _ ?_;clear hKC KC
  try simp only [Act.put,SL]
  refine zbB (by kernel_rfl) ?_ _
  have TK:Turn zah w5.drew (Ls T) w6 (zg7 (d.tapes.2 T) r) [.bool false,(.slice s9 ((d.tapes.2 T).recs.1+1) m9)] L':=by
   rw [eK9];exact ⟨zgA (zg7 (d.tapes.2 T) r) TT.own,TT.nd,TT.sub,TT.chg⟩
  have T7:=S3.turn_at nd3 hT TK (w':=(stN w6 gt (T*zah.sz) [.bool false,(.slice s9 ((d.tapes.2 T).recs.1+1) m9)])) rfl;have WO7:=WO.tapes (Nat.le_refl _) (Nat.zero_le _) T7;have hin:∀ b,b∈gt::catN d.tapes.1 Ls→b≠B:=fun b hb he=>HNE.out (by rw [← he];exact inK b hb);have X7:=HBX.out.chgl T7.chg (fun hb=>hin B hb rfl)
  have sub7:∀ b,b∈K1'++(K2'++(gt::catN d.tapes.1 (upd Ls T L')))→b∈K1'++(K2'++(gt::catN d.tapes.1 Ls))∨w5.heap.size≤b:=fun b hb=>by
   rcases List.mem_append.1 hb with h | h
   ·exact .inl (List.mem_append_left _ h)
   ·rcases List.mem_append.1 h with h | h
    ·exact .inl (List.mem_append_right _ (List.mem_append_left _ h))
    ·rcases T7.sub b h with h | h
     ·exact .inl (inK b h)
     ·exact .inr h.1
  have hE7:B∉K1'++(K2'++(gt::catN d.tapes.1 (upd Ls T L'))):=fun hm=>by
   rcases sub7 B hm with h | h
   ·exact HNE.out h
   ·have:B<w5.heap.size:=hbl
    omega
  have O7:=WO7.encO hE7;rw [List.append_nil] at O7
  have S7:SpB (stN w6 gt (T*zah.sz) [.bool false,(.slice s9 ((d.tapes.2 T).recs.1+1) m9)]) B ({ zbZ d T r with writes:=d.writes+1 }) (K1'++(K2'++(gt::catN d.tapes.1 (upd Ls T L')))):=by refine ⟨_,?_,O7⟩;exact X7
  have C7:ChgL (B::(K1'++(K2'++(gt::catN d.tapes.1 Ls)))) w (stN w6 gt (T*zah.sz) [.bool false,(.slice s9 ((d.tapes.2 T).recs.1+1) m9)]):=(HC5.out.trans ((ChgL.refl _ _).drew)).trans (T7.chg.mono (fun b hb=>List.mem_cons_of_mem _ (inK b hb)));have in0:gt≠B:=hin gt (List.mem_cons_self ..);have x11':(w6.setCell ⟨gt,T*2+1,none⟩ (.slice s9 ((d.tapes.2 T).recs.1+1) m9)).cell? ⟨B,11,none⟩=some (.slice (some ⟨gt,0,none⟩) d.tapes.1 c3):=(World.cell?_of_block (heap_setCell_other w6 _ _ _ (fun h=>in0 h.symm))).trans k6'.1;have y0':(w6.setCell ⟨gt,T*2+1,none⟩ (.slice s9 ((d.tapes.2 T).recs.1+1) m9)).cell? ⟨gt,T*2,none⟩=some (.bool (d.tapes.2 T).wiped):=(znd w6 gt (T*2+1) (T*2) _ (by omega)).trans t0;have f0':(w6.setCell ⟨gt,T*2+1,none⟩ (.slice s9 ((d.tapes.2 T).recs.1+1) m9)).frozen? ⟨gt,T*2,none⟩=false:=(zk8 w6 _ _ _).trans f0;have e8:(w6.setCell ⟨gt,T*2+1,none⟩ (.slice s9 ((d.tapes.2 T).recs.1+1) m9)).setCell ⟨gt,T*2,none⟩ (.bool false)=(stN w6 gt (T*zah.sz) [.bool false,(.slice s9 ((d.tapes.2 T).recs.1+1) m9)]):=zii w6 gt (T*2+1) (T*2) _ _ (by omega)
  have HS8:Hid (∀ b,b∈K1'++(K2'++(gt::catN d.tapes.1 (upd Ls T L')))→b∈K1'++(K2'++(gt::catN d.tapes.1 Ls))∨w.heap.size≤b):=fun b hb=>by
   rcases sub7 b hb with h | h
   ·exact .inl h
   ·exact .inr (by omega)
  have HE:Hid (zaM r T d=.done 0 { zbZ d T r with writes:=d.writes+1 }):=by show _=_;unfold zaM rawO;rw [if_neg HFL.out]
  clear WO7 T7 TK TT WO S3 nd3 e9 eK9 o9 KS CC AP k5 kA k6' hrun nd9 t0 t1 f0 f1 y0 y1 O7 X7;obtain ⟨W8,hW8⟩:∃ x,x=(w6.setCell ⟨gt,T*2+1,none⟩ (.slice s9 ((d.tapes.2 T).recs.1+1) m9)):=⟨_,rfl⟩;obtain ⟨W7,hW7⟩:∃ x,x=(stN w6 gt (T*zah.sz) [.bool false,(.slice s9 ((d.tapes.2 T).recs.1+1) m9)]):=⟨_,rfl⟩;rw [← hW8] at x11' y0' f0' e8 ⊢;rw [← hW7] at S7 C7 e8;have HS7:=hid S7;have HC7:=hid C7;clear hW8 hW7 S7 C7;go_wp2;go_ret;rw [HE.out];exact ⟨rfl,_,HS7.out,HS8.out,HC7.out⟩
theorem SpP.after {o:Outc} {B:Nat} {w w1 w2:World} {K K1:List Nat} {e:Ending} (hk:∀ b,b∈K1→b∈K∨w.heap.size≤b) (hc:ChgL (B::K) w w1) (h:SpP o B w1 K1 e w2):SpP o B w K e w2:=by
 have hz:=hc.size
 cases o with
 | done c d=>
  obtain ⟨h1,K',h2,h3,h4⟩:=h
  exact ⟨h1,K',h2,fun b hb=>by
   rcases h3 b hb with h | h
   ·exact hk b h
   ·exact .inr (by omega),zdb hc hk h4⟩
 | cut d=>
  obtain ⟨h1,K',h2,h3,h4⟩:=h
  exact ⟨h1,K',h2,fun b hb=>by
   rcases h3 b hb with h | h
   ·exact hk b h
   ·exact .inr (by omega),zdb hc hk h4⟩
theorem SpB.below {w w':World} {B:Nat} {d:WorldD} {K:List Nat} (h:SpB w B d K) (hb:Below w.heap.size w w'):SpB w' B d K:=by
 obtain ⟨cs,h1,h2⟩:=h;exact ⟨cs,h1.below hb h1.lt,Lay.own_kept _ h2.own (fun b hk=>hb.block b (zad.own_lt h2.own b hk)),h2.nd,h2.ne⟩
theorem SpB.Klt {w:World} {B:Nat} {d:WorldD} {K:List Nat} (h:SpB w B d K):∀ b,b∈K→b<w.heap.size:=by
 obtain ⟨cs,_,h2⟩:=h;exact fun b hb=>zad.own_lt h2.own b hb
set_option maxRecDepth 20000 in
theorem zk9 (d:WorldD) (cs:List Value) (hi Bx:Nat) (w:World) (h:zad.rd w hi d cs) (hhi:hi≤w.heap.size) (hB:Box w Bx cs.toArray 38) (two:d.tapes.1=2) (few:∀ T,T<2→(d.tapes.2 T).recs.1≤1000000) :
 Calls Tryz.prog 127 #[.pointer (some ⟨Bx,0,none⟩),.int .i64 1] w fun e w'=>∃ t,e=.returned (.bool t)∧(t=true↔(200<((d.tapes.2 0).recs.1:Int)+1∨200<((d.tapes.2 1).recs.1:Int)+1))∧w'=w:=by
 obtain ⟨ao1,cap1,ao2,cap2,ao3,cap3,rfl,g1,g2,g3,k0,k4,k5⟩:=zaP h;obtain ⟨_,_,e3,hm3,hc3⟩:=g3
 cases e3
 obtain ⟨b3,off3,he3,hb3,hel3⟩:=hc3 (by omega);subst he3;obtain ⟨ct0,hrt0,hct0⟩:=hel3 0 (by omega);obtain ⟨ct1,hrt1,hct1⟩:=hel3 1 (by omega);obtain ⟨ap,cp,rfl,-⟩:=zbg hrt0;obtain ⟨aq,cq,rfl,-⟩:=zbg hrt1;have x11:w.cell? ⟨Bx,11,none⟩=some (.slice (some ⟨b3,off3,none⟩) d.tapes.1 cap3):=hB.cell 11
 have y0:w.cell? ⟨b3,off3+1,none⟩=some (.slice ap (d.tapes.2 0).recs.1 cp):=by have:=hct0 1 (by decide);rw [show off3+(0*zah.sz+1)=off3+1 by simp] at this;exact this
 have y1:w.cell? ⟨b3,off3+2+1,none⟩=some (.slice aq (d.tapes.2 1).recs.1 cq):=by have:=hct1 1 (by decide);rw [show off3+(1*zah.sz+1)=off3+2+1 by show off3+(1*2+1)=_;omega] at this;exact this
 have f0:=few 0 (by decide);have f1:=few 1 (by decide);obtain ⟨n0,hn0⟩:∃ n,n=(d.tapes.2 0).recs.1:=⟨_,rfl⟩;obtain ⟨n1,hn1⟩:∃ n,n=(d.tapes.2 1).recs.1:=⟨_,rfl⟩;rw [← hn0] at y0 f0 ⊢;rw [← hn1] at y1 f1 ⊢;obtain ⟨nt,hnt⟩:∃ n,n=d.tapes.1:=⟨_,rfl⟩;rw [← hnt] at x11 two
 have j0:(0:Int)<(nt:Int):=by omega
 have j1:(1:Int)<(nt:Int):=by omega
 have w0:IntKind.i64.wrap ((n0:Int)+1)=(n0:Int)+1:=by rw [IntKind.wrap_i64];omega
 have w1:IntKind.i64.wrap ((n1:Int)+1)=(n1:Int)+1:=by rw [IntKind.wrap_i64];omega
 clear hn0 hn1 hnt g1 g2 k0 k4 k5 h hB hct0 hct1 hrt0 hrt1 hel3 hc3 hm3 two few;obtain ⟨P,hP⟩:∃ P:Prop,P=(200<(n0:Int)+1∨200<(n1:Int)+1):=⟨_,rfl⟩;have HP:=hid hP;rw [← hP];clear hP
 by_cases c0:200<(n0:Int)+1
 ·have d0:decide (200<(n0:Int)+1)=true:=decide_eq_true c0
  have HQ:Hid P:=by rw [HP.out];exact .inl c0
  clear c0
  go_enter Tryz.func127,Tryz.ntmps127
  go_wp2;go_ret;exact ⟨true,by simp [d0],⟨fun _=>HQ.out,fun _=>rfl⟩,rfl⟩
 ·have d0:decide (200<(n0:Int)+1)=false:=decide_eq_false c0
  by_cases c1:200<(n1:Int)+1
  ·have d1:decide (200<(n1:Int)+1)=true:=decide_eq_true c1
   have HQ:Hid P:=by rw [HP.out];exact .inr c1
   clear c0 c1
   go_enter Tryz.func127,Tryz.ntmps127
   go_wp2;go_ret;exact ⟨true,by simp [d1],⟨fun _=>HQ.out,fun _=>rfl⟩,rfl⟩
  ·have d1:decide (200<(n1:Int)+1)=false:=decide_eq_false c1
   have HQ:Hid (¬ P):=by rw [HP.out];exact fun h=>h.elim c0 c1
   clear c0 c1
   go_enter Tryz.func127,Tryz.ntmps127
   go_wp2;go_ret;exact ⟨false,by simp [d1],⟨fun h=>(by cases h),fun h=>absurd h HQ.out⟩,rfl⟩
set_option maxRecDepth 20000 in
theorem zla (B:Nat) (d:WorldD) (K:List Nat) (r:RecD) (o6 o7 o8:Option Addr) (k6 k7 k8 hi:Nat) (w:World) (hX:SpB w B d K) (hf:Fit3 2 d) (hr:∀ w',ChgL (B::K) w w'→zab.rd w' hi r [.int .i64 r.kind,.int .i64 r.seq,.string r.name,.int .i64 r.length,.int .i64 r.group,.int .i64 r.row,.slice o6 r.rows.1 k6,.slice o7 r.data.1 k7,.slice o8 r.delta.1 k8]) (hhi:hi≤w.heap.size) (hsr:zaJ r≤1048576) :
 Calls Tryz.prog 128 #[.pointer (some ⟨B,0,none⟩),.agg #[.int .i64 r.kind,.int .i64 r.seq,.string r.name,.int .i64 r.length,.int .i64 r.group,.int .i64 r.row,.slice o6 r.rows.1 k6,.slice o7 r.data.1 k7,.slice o8 r.delta.1 k8]] w (SpP (runO (zaM r) 2 0 d) B w K):=by
 have T0:=zaL w (rwR r o6 k6 o7 k7 o8 k8).toArray 72;obtain ⟨W0,hW0⟩:∃ x,x=w.alloc (.cells (rwR r o6 k6 o7 k7 o8 k8).toArray 72):=⟨_,rfl⟩
 have sA:W0.heap.size=w.heap.size+1:=by rw [hW0];simp
 have C1:=zew B d K 0 (by decide) r o6 o7 o8 k6 k7 k8 hi W0 (by rw [hW0];exact hX.below T0.bel) (hf.less (by decide)) (fun w' hc=>hr w' ((ChgL.of_below (by rw [hW0];exact T0.bel)).trans (hc.mono (fun b hb=>by simp at hb;simp [hb])))) (by omega) hsr;have HX:=hid hX;have HF:=hid hf;have HRR:=hid hr;have hKl:=hX.Klt;have hBl:=hX.lt;clear hX hf hr
 go_enter Tryz.func128,Tryz.ntmps128
 go_upto_region 1 with fail
 rw [← hW0] at T0 ⊢;clear hW0;obtain ⟨o1,ho1⟩:∃ x,x=zaM r 0 d:=⟨_,rfl⟩;have HO1:=hid ho1;rw [← ho1] at C1;clear ho1
 cases o1 with
 | cut d2=>
  have HE:Hid (runO (zaM r) 2 0 d=.cut d2):=by
   show (zaM r 0 d).next _=_
   rw [← HO1.out];rfl
  go_wp2_with (refine zai 72 (.tmp 3) rfl rfl (w.heap.size) rfl (T0.b1) Tryz.underlying72 zcq rfl ?_)
  refine C1.mono ?_;rintro e w5 ⟨rfl,K5,X5,s5,C5⟩;go_wp2;go_ret;rw [HE.out];exact SpP.after (o:=.cut d2) (w1:=W0) (K1:=K) (e:=.returned (.bool false)) (fun b hb=>.inl hb) (ChgL.of_below T0.bel) ⟨rfl,K5,X5,s5,C5⟩
 | done c d2=>
  have c0:c=0:=zd2 HO1.out.symm;subst c0
  have HE:Hid (runO (zaM r) 2 0 d=zaM r 1 d2):=by
   show (zaM r 0 d).next (fun x=>(zaM r 1 x).next (fun y=>.done 0 y))=_
   rw [← HO1.out]
   show (if (0:Int)=0 then (zaM r 1 d2).next (fun y=>.done 0 y) else .done 0 d2)=_
   rw [if_pos rfl,zml]
  have hf2:Fit3 1 d2:=zfQ HF.out (by decide) HO1.out.symm;have HF2:=hid hf2;clear hf2
  go_wp2_with (refine zai 72 (.tmp 3) rfl rfl (w.heap.size) rfl (T0.b1) Tryz.underlying72 zcq rfl ?_)
  refine C1.mono ?_;rintro e w5 ⟨rfl,K5,X5,s5,C5⟩
  have Q5:=T0.b1.chgl C5 (fun hm=>by
   rcases List.mem_cons.1 hm with h | h
   ·omega
   ·have:=hKl _ h;omega)
  have z5:=C5.size;have bh:ChgL (B::K) w w5:=(ChgL.of_below T0.bel).trans C5;have C2:=zew B d2 K5 1 (by decide) r o6 o7 o8 k6 k7 k8 hi w5 X5 HF2.out (fun w' hc=>HRR.out w' (bh.trans (hc.mono (fun b hb=>by simp at hb;simp [hb])))) (by omega) hsr;have HS5:=hid s5;have HC5:=hid C5;have HT0:Hid (ChgL (B::K) w W0):=ChgL.of_below T0.bel;obtain ⟨o2,ho2⟩:∃ x,x=zaM r 1 d2:=⟨_,rfl⟩;have HO2:=hid ho2;rw [← ho2] at C2;have q_0:w5.cell? ⟨w.heap.size,0,none⟩=some (.int .i64 r.kind):=Q5.cell 0;have q_1:w5.cell? ⟨w.heap.size,1,none⟩=some (.int .i64 r.seq):=Q5.cell 1;have q_2:w5.cell? ⟨w.heap.size,2,none⟩=some (.string r.name):=Q5.cell 2;have q_3:w5.cell? ⟨w.heap.size,3,none⟩=some (.int .i64 r.length):=Q5.cell 3;have q_4:w5.cell? ⟨w.heap.size,4,none⟩=some (.int .i64 r.group):=Q5.cell 4;have q_5:w5.cell? ⟨w.heap.size,5,none⟩=some (.int .i64 r.row):=Q5.cell 5;have q_6:w5.cell? ⟨w.heap.size,6,none⟩=some (.slice o6 r.rows.1 k6):=Q5.cell 6;have q_7:w5.cell? ⟨w.heap.size,7,none⟩=some (.slice o7 r.data.1 k7):=Q5.cell 7;have q_8:w5.cell? ⟨w.heap.size,8,none⟩=some (.slice o8 r.delta.1 k8):=Q5.cell 8;clear ho2 s5 C5 X5 C1 Q5 bh T0
  cases o2 with
  | cut d3=>
   go_wp2_with (go_at_call 176;refine C2.mono ?_;rintro e w6 ⟨rfl,K6,X6,s6,C6⟩)
   go_ret;rw [HE.out,← HO2.out];exact SpP.after (o:=.cut d3) (fun b hb=>.inl hb) HT0.out (SpP.after (o:=.cut d3) HS5.out HC5.out ⟨rfl,K6,X6,s6,C6⟩)
  | done c d3=>
   go_wp2_with (go_at_call 176;refine C2.mono ?_;rintro e w6 ⟨rfl,K6,X6,s6,C6⟩)
   go_ret;rw [HE.out,← HO2.out];exact SpP.after (o:=.done c d3) (fun b hb=>.inl hb) HT0.out (SpP.after (o:=.done c d3) HS5.out HC5.out ⟨rfl,K6,X6,s6,C6⟩)
def NxO (o:Outc) (B:Nat) (w:World) (K:List Nat) (e:Ending) (w':World):Prop:=match o with
 | .done c d=>e=.returned (.int .i64 c)∧∃ K',SpB w' B d K'∧(∀ b,b∈K'→b∈K∨w.heap.size≤b)∧ChgL (B::K) w w'
 | .cut d=>e=.returned (.int .i64 9)∧∃ K',SpB w' B (cutW d) K'∧(∀ b,b∈K'→b∈K∨w.heap.size≤b)∧ChgL (B::K) w w'
theorem NxO.after {o:Outc} {B:Nat} {w w1 w2:World} {K K1:List Nat} {e:Ending} (hk:∀ b,b∈K1→b∈K∨w.heap.size≤b) (hc:ChgL (B::K) w w1) (h:NxO o B w1 K1 e w2):NxO o B w K e w2:=by
 have hz:=hc.size
 cases o with
 | done c d=>
  obtain ⟨h1,K',h2,h3,h4⟩:=h
  exact ⟨h1,K',h2,fun b hb=>by
   rcases h3 b hb with h | h
   ·exact hk b h
   ·exact .inr (by omega),zdb hc hk h4⟩
 | cut d=>
  obtain ⟨h1,K',h2,h3,h4⟩:=h
  exact ⟨h1,K',h2,fun b hb=>by
   rcases h3 b hb with h | h
   ·exact hk b h
   ·exact .inr (by omega),zdb hc hk h4⟩
theorem SpB.stay {w w':World} {B:Nat} {d:WorldD} {K C:List Nat} (h:SpB w B d K) (hc:ChgL C w w') (hd:∀ b,b∈C→b≠B∧b∉K):SpB w' B d K:=by
 obtain ⟨cs,h1,h2⟩:=h;exact ⟨cs,h1.chgl hc (fun hb=>(hd _ hb).1 rfl),Lay.own_chgL _ h2.own hc (fun b hb hm=>(hd _ hm).2 hb),h2.nd,h2.ne⟩
theorem SpB.rd {w:World} {B:Nat} {d:WorldD} {K:List Nat} (h:SpB w B d K):∃ cs,Box w B cs.toArray 38∧zad.rd w w.heap.size d cs:=by
 obtain ⟨cs,h1,h2⟩:=h;exact ⟨cs,h1,h2.T.rd⟩
set_option maxRecDepth 20000 in
theorem zeJ (B:Nat) (d:WorldD) (K:List Nat) (r:RecD) (o6 o7 o8:Option Addr) (k6 k7 k8 hi:Nat) (w:World) (hX:SpB w B d K) (hf:FitX d) (hr:∀ x,(-9223372036854775808≤x∧x≤9223372036854775807)→∀ w',ChgL (B::K) w w'→zab.rd w' hi { r with seq:=x } [.int .i64 r.kind,.int .i64 x,.string r.name,.int .i64 r.length,.int .i64 r.group,.int .i64 r.row,.slice o6 r.rows.1 k6,.slice o7 r.data.1 k7,.slice o8 r.delta.1 k8]) (hhi:hi≤w.heap.size) (hsr:zaJ r≤1048576) :
 Calls Tryz.prog 81 #[.pointer (some ⟨B,0,none⟩),.agg #[.int .i64 r.kind,.int .i64 r.seq,.string r.name,.int .i64 r.length,.int .i64 r.group,.int .i64 r.row,.slice o6 r.rows.1 k6,.slice o7 r.data.1 k7,.slice o8 r.delta.1 k8]] w (NxO (zbG r d) B w K):=by
 have T0:=zaL w (rwR r o6 k6 o7 k7 o8 k8).toArray 72;obtain ⟨W0,hW0⟩:∃ x,x=w.alloc (.cells (rwR r o6 k6 o7 k7 o8 k8).toArray 72):=⟨_,rfl⟩
 have sA:W0.heap.size=w.heap.size+1:=by rw [hW0];simp
 have hB:=hX.lt;have hKl:=hX.Klt
 have X0:SpB W0 B d K:=by rw [hW0];exact hX.below T0.bel
 obtain ⟨cs0,hBx,hrd⟩:=X0.rd;have CC:=zen d cs0 W0.heap.size B W0 hrd (Nat.le_refl _) hBx hf.1.two hf.2.1 hf.2.2;have HF:=hid hf;have HR:=hid hr;have HX0:=hid X0;have HSR:=hid hsr;have HKL:=hid hKl;clear hX hf hr hsr X0 hBx hrd hKl
 go_enter Tryz.func81,Tryz.ntmps81
 go_upto_region 1 with fail
 rw [← hW0] at T0 ⊢;clear hW0
 go_wp2_with fail
 refine CC.mono ?_;rintro e w2 ⟨v2,l,ce,lo,rfl,hCt,hlo,V,b2⟩;have z2:W0.heap.size≤w2.heap.size:=b2.size
 have hlen:l.length≤1000000000:=by
  have h1:=(hCt.sum (fun _=>0)).2;have h2:=HF.out.2.1;have h3:=HF.out.2.2
  have e2:lenT d.tapes.2 2=(d.tapes.2 0).recs.1+(d.tapes.2 1).recs.1:=by simp [lenT]
  omega
 have CT:=zmo v2 l.length (fun i=>recT d.tapes.2 2 (l.getD i 0)) w2.heap.size w2 (V.rd (by omega)) hlen;obtain ⟨a2,c2,rfl⟩:=V.form;have HX2:=hid (HX0.out.below b2);have G2:=T0.call b2;have HB2:=hid G2.bel;have cA:w2.cell? ⟨w.heap.size,1,none⟩=some (.int .i64 r.seq):=G2.b1.cell 1;have f4:=G2.b1.frozen 1;have HG2:=hid G2.b1;clear V b2 CC T0 HX0 G2 hlo
 go_wp2_with fail
 refine CT.mono ?_;rintro e w3 ⟨rfl,e3⟩;obtain rfl:=e3.symm;obtain ⟨t,ht⟩:∃ t,t=zhb l.length (fun i=>recT d.tapes.2 2 (l.getD i 0)):=⟨_,rfl⟩;rw [← ht];obtain ⟨u,hu⟩:∃ u,u=IntKind.i64.wrap (t+1):=⟨_,rfl⟩
 have HU:Hid (u=nxtD d):=by
  show u=nxtD d
  rw [hu,ht,zmp hCt];rfl
 have hu':IntKind.i64.wrap (t+1)=u:=hu.symm;have CS:ChgL [w.heap.size] w2 (w2.setCell ⟨w.heap.size,1,none⟩ (.int .i64 u)):=ChgL.store _ _ _ _ _ (by simp)
 have g5:Box (w2.setCell ⟨w.heap.size,1,none⟩ (.int .i64 u)) w.heap.size #[.int .i64 r.kind,.int .i64 u,.string r.name,.int .i64 r.length,.int .i64 r.group,.int .i64 r.row,.slice o6 r.rows.1 k6,.slice o7 r.data.1 k7,.slice o8 r.delta.1 k8] 72:=by
  have:=HG2.out.setc 1 (.int .i64 u)
  simpa using this
 have y1:(w2.setCell ⟨w.heap.size,1,none⟩ (.int .i64 u)).cell? ⟨w.heap.size,1,none⟩=some (.int .i64 u):=g5.cell 1;have HG5:=hid g5
 have HX3:Hid (SpB (w2.setCell ⟨w.heap.size,1,none⟩ (.int .i64 u)) B d K):=HX2.out.stay CS (fun b hb=>by
  simp at hb
  subst hb
  exact ⟨by omega,fun hm=>by have:=HKL.out _ hm;omega⟩)
 have HC3:Hid (ChgL (B::K) w (w2.setCell ⟨w.heap.size,1,none⟩ (.int .i64 u))):=ChgL.of_below (HB2.out.trans (CS.bel (fun b hb=>by simp at hb;omega) HB2.out.size));clear CT ht hu hCt g5 CS HX2 HG2
 by_cases hb:1000000000<u
 ·have HN:Hid (zbG r d=.done 2 d):=by
   show zbG r d=.done 2 d
   unfold zbG;rw [if_pos (by rw [← HU.out];exact hb)]
  go_wp2;go_ret;rw [HN.out];exact ⟨rfl,K,HX3.out,fun b hb=>.inl hb,HC3.out⟩
 have hd:decide (1000000000<u)=false:=decide_eq_false hb
 have HN:Hid (zbG r d=layF { r with seq:=u } d):=by
  show zbG r d=layF { r with seq:=u } d
  rw [HU.out];unfold zbG;rw [if_neg (by rw [← HU.out];exact hb)]
 have HUR:Hid (-9223372036854775808≤u∧u≤9223372036854775807):=by
  show _∧_
  rw [HU.out];exact zgv d
 obtain ⟨W3,hW3⟩:∃ x,x=(w2.setCell ⟨w.heap.size,1,none⟩ (.int .i64 u)):=⟨_,rfl⟩;obtain ⟨cs3,hBx3,hrd3⟩:=HX3.out.rd;have CF:=zk9 d cs3 _ B _ hrd3 (Nat.le_refl _) hBx3 HF.out.1.two (fun T hT=>by have:=HF.out.1.few T hT;omega);clear hBx3 hrd3
 go_wp2_with fail
 refine CF.mono ?_;rintro e wF ⟨t1,rfl,ht1,e1⟩;have e2:=e1.symm;subst e2;have HTF:=hid ht1;clear CF ht1 y1;rw [← hW3] at HG5 HX3 HC3 ⊢;have hhi3:hi≤W3.heap.size:=Nat.le_trans hhi HC3.out.size;have CL:=zla B d K { r with seq:=u } o6 o7 o8 k6 k7 k8 hi W3 HX3.out HF.out.1 (fun w' hc=>HR.out u HUR.out w' (HC3.out.trans hc)) hhi3 HSR.out;clear hW3 cA f4
 cases t1 with
 | true=>
  have HQ:Hid (zbG r d=.done 2 d):=by
   show zbG r d=.done 2 d
   rw [HN.out];unfold layF;rw [if_pos (HTF.out.1 rfl)]
  clear CL;go_wp2;go_ret;rw [HQ.out];exact ⟨rfl,K,HX3.out,fun b hb=>.inl hb,HC3.out⟩
 | false=>
 obtain ⟨oc,hoc⟩:∃ x,x=runO (zaM { r with seq:=u }) 2 0 d:=⟨_,rfl⟩
 have HQ:Hid (zbG r d=oc):=by
  show zbG r d=oc
  rw [HN.out,hoc];unfold layF;rw [if_neg (fun h=>by have:=HTF.out.2 h;cases this)]
 rw [← hoc] at CL;have HOC:=hid hoc;clear hoc
 cases oc with
 | cut d2=>
  go_wp2_with (refine zai 72 (.tmp 3) rfl rfl (w.heap.size) rfl (HG5.out) Tryz.underlying72 zcq rfl ?_)
  refine CL.mono ?_;rintro e w6 ⟨rfl,K6,X6,s6,C6⟩;go_wp2;go_ret;rw [HQ.out];exact NxO.after (o:=.cut d2) (fun b hb=>.inl hb) HC3.out ⟨rfl,K6,X6,s6,C6⟩
 | done c d2=>
  have c0:c=0:=zgs (d:=d) _ _ _ _ _ HOC.out.symm;subst c0
  go_wp2_with (refine zai 72 (.tmp 3) rfl rfl (w.heap.size) rfl (HG5.out) Tryz.underlying72 zcq rfl ?_)
  refine CL.mono ?_;rintro e w6 ⟨rfl,K6,X6,s6,C6⟩;go_wp2;go_ret;rw [HQ.out];exact NxO.after (o:=.done 0 d2) (fun b hb=>.inl hb) HC3.out ⟨rfl,K6,X6,s6,C6⟩
set_option maxRecDepth 20000 in
theorem ze0 (v0 v1 v2 v3 v4 v5 v6 v7 v8 vp0 vl0 vq0 vp1 vl1 vq1 vp2 vl2 vq2 v9 v10 vb:_) (c:Int) (hc:c=0∨c=9) (w:World) (h1:∀ x,x∈([.int .i64 v0,.int .i64 v1,.int .i64 v2,.int .i64 v3,.int .i64 v4,.int .i64 v5,.int .i64 v6,.int .i64 v7,.int .i64 v8,.slice vp0 vl0 vq0,.slice vp1 vl1 vq1,.slice vp2 vl2 vq2,.int .i64 v9,.int .i64 v10,.bool vb]:List Value)→x.oneCell'=true) :
 Calls Tryz.prog 49 #[.agg #[.int .i64 v0,.int .i64 v1,.int .i64 v2,.int .i64 v3,.int .i64 v4,.int .i64 v5,.int .i64 v6,.int .i64 v7,.int .i64 v8,.slice vp0 vl0 vq0,.slice vp1 vl1 vq1,.slice vp2 vl2 vq2,.int .i64 v9,.int .i64 v10,.bool vb],.int .i64 c] w fun e w'=>e=.returned (.agg #[.int .i64 c,.int .i64 v0,.int .i64 v1,.int .i64 v2,.int .i64 v3,.int .i64 v4,.int .i64 v5,.int .i64 v6,.int .i64 v7,.int .i64 v8,.slice vp0 vl0 vq0,.slice vp1 vl1 vq1,.slice vp2 vl2 vq2,.int .i64 v9,.int .i64 v10,.bool vb])∧Below w.heap.size w w':=by
 have T0:=zaE w (rwV v0 v1 v2 v3 v4 v5 v6 v7 v8 vp0 vl0 vq0 vp1 vl1 vq1 vp2 vl2 vq2 v9 v10 vb).toArray rwZ.toArray 38 46
 have o0:∀ c:Int,∀ x,x∈((.int .i64 c::rwV v0 v1 v2 v3 v4 v5 v6 v7 v8 vp0 vl0 vq0 vp1 vl1 vq1 vp2 vl2 vq2 v9 v10 vb):List Value)→x.oneCell'=true:=fun c x hx=>by
  rcases List.mem_cons.1 hx with rfl | h
  ·rfl
  ·exact h1 x h
 clear h1
 rcases hc with rfl | rfl
 ·go_enter Tryz.func49,Tryz.ntmps49
  go_wp2_with (first | (refine zai 38 (.tmp 2) rfl rfl (w.heap.size) rfl (T0.b1) Tryz.underlying38 zbq rfl ?_) | (refine zaR 46 _ _ rfl rfl (w.heap.size+1) rfl (cs:=(.int .i64 0::rwV v0 v1 v2 v3 v4 v5 v6 v7 v8 vp0 vl0 vq0 vp1 vl1 vq1 vp2 vl2 vq2 v9 v10 vb)) rfl T0.b2 zaS rfl rfl (o0 0) ?_;intro w9 X9 C9 z9))
  refine zbE Tryz.results49 rfl X9 Tryz.underlying46 zaS rfl rfl ?_;exact ⟨rfl,T0.bel.trans (C9.bel (fun b hb=>by simp at hb;omega) T0.bel.size)⟩
 ·go_enter Tryz.func49,Tryz.ntmps49
  go_wp2_with (first | (refine zai 38 (.tmp 2) rfl rfl (w.heap.size) rfl (T0.b1) Tryz.underlying38 zbq rfl ?_) | (refine zaR 46 _ _ rfl rfl (w.heap.size+1) rfl (cs:=(.int .i64 9::rwV v0 v1 v2 v3 v4 v5 v6 v7 v8 vp0 vl0 vq0 vp1 vl1 vq1 vp2 vl2 vq2 v9 v10 vb)) rfl T0.b2 zaS rfl rfl (o0 9) ?_;intro w9 X9 C9 z9))
  refine zbE Tryz.results49 rfl X9 Tryz.underlying46 zaS rfl rfl ?_;exact ⟨rfl,T0.bel.trans (C9.bel (fun b hb=>by simp at hb;omega) T0.bel.size)⟩
set_option maxRecDepth 20000 in
theorem zij (v0 v1 v2 v3 v4 v5 v6 v7 v8 vp0 vl0 vq0 vp1 vl1 vq1 vp2 vl2 vq2 v9 v10 vb:_) (c:Int) (hcb:-9223372036854775808≤c∧c≤9223372036854775807) (hc0:c≠0) (hc9:c≠9) (w:World) :
 Calls Tryz.prog 49 #[.agg #[.int .i64 v0,.int .i64 v1,.int .i64 v2,.int .i64 v3,.int .i64 v4,.int .i64 v5,.int .i64 v6,.int .i64 v7,.int .i64 v8,.slice vp0 vl0 vq0,.slice vp1 vl1 vq1,.slice vp2 vl2 vq2,.int .i64 v9,.int .i64 v10,.bool vb],.int .i64 c] w fun e w'=>e=.returned (.agg #[.int .i64 c,.int .i64 0,.int .i64 0,.int .i64 0,.int .i64 0,.int .i64 0,.int .i64 0,.int .i64 0,.int .i64 0,.int .i64 0,.slice none 0 0,.slice none 0 0,.slice none 0 0,.int .i64 0,.int .i64 0,.bool false])∧Below w.heap.size w w':=by
 have T0:=zaE w (rwV v0 v1 v2 v3 v4 v5 v6 v7 v8 vp0 vl0 vq0 vp1 vl1 vq1 vp2 vl2 vq2 v9 v10 vb).toArray rwZ.toArray 38 46;have oz:=zcQ c hcb w
 have hne:(c != 0)=true:=by simpa using hc0
 have hn9:(c != 9)=true:=by simpa using hc9
 clear hcb hc0 hc9
 go_enter Tryz.func49,Tryz.ntmps49
 go_wp2_with (first | (refine zai 38 (.tmp 2) rfl rfl (w.heap.size) rfl (T0.b1) Tryz.underlying38 zbq rfl ?_) | (refine zaR 46 _ _ rfl rfl (w.heap.size+1) rfl (cs:=(.int .i64 c::rwY)) rfl T0.b2 zaS rfl rfl oz ?_;intro w9 X9 C9 z9))
 refine zbE Tryz.results49 rfl X9 Tryz.underlying46 zaS rfl rfl ?_;exact ⟨rfl,T0.bel.trans (C9.bel (fun b hb=>by simp at hb;omega) T0.bel.size)⟩
end Go.Proofs.YtclclojenogpbaaGreat
