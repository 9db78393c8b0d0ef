/- Walk of the specification's WriteBlock. -/
import Derived.Test.YtonemlgejkapbaaGreatRows
import Derived.Test.YtonemlgejkapbaaGreatZPwriteaj
set_option linter.unusedVariables false
set_option linter.unusedSimpArgs false
set_option maxHeartbeats 16000000
namespace Go.Proofs.YtonemlgejkapbaaGreat
open Go.RowKit F256
set_option maxRecDepth 20000 in
theorem zfh (d:WorldD) (g k r:Int) (b:BlockD) (cs csb:List Value) (hi:Nat) (w:World) (h:zad.rd w hi d cs) (hr_:zac.rd w hi b csb) (hhi:hi≤w.heap.size) (hsz:zaS d≤1048576) (hsb:zav b≤1048576) (hg:-9223372036854775808≤g∧g≤9223372036854775807) (hk:-9223372036854775808≤k∧k≤9223372036854775807) (hr:-9223372036854775808≤r∧r≤9223372036854775807) :
 Calls Tryz.prog 7 #[.agg cs.toArray,.int .i64 g,.int .i64 k,.int .i64 r,.agg csb.toArray] w (zcK (WrAns d g k r b) w):=by
 have h':=h;obtain ⟨ao1,cap1,ao2,cap2,ao3,cap3,rfl,g1,g2,g3,k0,k4,k5⟩:=zaM h';obtain ⟨o1,k1,rfl,-,-⟩:=za0 hr_;have HRD:=hid h;have HRB:=hid hr_;have HSZ:=hid hsz;have HSB:=hid hsb
 have HG2:Hid (RdI w hi (.slice ao2 d.on.1 cap2) d.on.1 d.on.2):=by
  obtain ⟨_,e2,⟨h2,_⟩,_⟩:=g2
  cases e2
  exact h2
 have hmf:∀ (fn:Fn) (first cap:Array Value) (w:World),(Instr.makeFunc fn first cap).run Tryz.prog w=.ok (.func fn first cap) w:=fun _ _ _ _=>rfl;clear h h' hr_ hsz hsb g1 g2 g3 k0 k4 k5 hg hk hr;have T0:=zbM w (rwW d ao1 cap1 ao2 cap2 ao3 cap3).toArray #[.int .i64 b.stamp,.slice o1 b.bytes.1 k1] rwZ.toArray 38 43 40
 go_enter Tryz.func7,Tryz.ntmps7
 go_wp2_with (refine zam 38 (.tmp 5) rfl rfl (w.heap.size) rfl (T0.b1) Tryz.underlying38 zbI rfl ?_)
 refine (zgH d _ hi _ (zad.rd_below HRD.out T0.bel hhi) (Nat.le_trans hhi T0.bel.size) HSZ.out).mono ?_;rintro e w1 ⟨x,rfl,hx,b1⟩;have HT1:=hid (T0.call b1);have HX:=hid hx;have z1:w.heap.size+1+1<w1.heap.size:=HT1.out.b3.lt;clear b1 T0 hx
 by_cases hx0:x=0
 case neg=>
  have hne:(x != 0)=true:=by simp [hx0]
  go_wp2_with (refine zaF 40 _ _ rfl rfl (w.heap.size+1+1) rfl (cs:=(.int .i64 x::rwY)) rfl (HT1.out.b3) zaw rfl rfl (zbJ _ (zdj HX.out) w) ?_;intro w9 X9 C9 z9)
  refine zbu Tryz.results7 rfl X9 Tryz.underlying40 zaw rfl rfl ?_;exact zbf (by omega) (zdj HX.out) HT1.out.bel C9 (.inl ⟨x,hx0,HX.out,rfl⟩)
 subst hx0;have HOK:=hid (zh9 HX.out);have x_0:w1.cell? ⟨w.heap.size,0,none⟩=some (.int .i64 (d.shape 0)):=HT1.out.b1.cell 0;have x_1:w1.cell? ⟨w.heap.size,1,none⟩=some (.int .i64 (d.shape 1)):=HT1.out.b1.cell 1;have x_2:w1.cell? ⟨w.heap.size,2,none⟩=some (.int .i64 (d.shape 2)):=HT1.out.b1.cell 2;have x_3:w1.cell? ⟨w.heap.size,3,none⟩=some (.int .i64 (d.shape 3)):=HT1.out.b1.cell 3;have x_4:w1.cell? ⟨w.heap.size,4,none⟩=some (.int .i64 (d.shape 4)):=HT1.out.b1.cell 4;have x_5:w1.cell? ⟨w.heap.size,5,none⟩=some (.int .i64 (d.shape 5)):=HT1.out.b1.cell 5;have x_6:w1.cell? ⟨w.heap.size,6,none⟩=some (.int .i64 (d.shape 6)):=HT1.out.b1.cell 6;have x_7:w1.cell? ⟨w.heap.size,7,none⟩=some (.int .i64 (d.shape 7)):=HT1.out.b1.cell 7;have x_8:w1.cell? ⟨w.heap.size,8,none⟩=some (.int .i64 (d.shape 8)):=HT1.out.b1.cell 8;have CP:=fun w'=>zgJ d.shape HOK.out.shape g k r w';unfold zaj at CP
 go_wp2_with fail
 refine (CP _).mono ?_;rintro e wB ⟨t,rfl,ht,bB⟩;have HTB:=hid (HT1.out.call bB);have zB:w1.heap.size≤wB.heap.size:=bB.size;have Hp:=hid ht;clear bB CP ht HT1 x_0 x_1 x_2 x_3 x_4 x_5 x_6 x_7 x_8
 cases t with
 | false=>
  go_wp2_with (refine zaF 40 _ _ rfl rfl (w.heap.size+1+1) rfl (cs:=(.int .i64 3::rwY)) rfl (HTB.out.b3) zaw rfl rfl (zbJ _ (by decide) w) ?_;intro w9 X9 C9 z9)
  refine zbu Tryz.results7 rfl X9 Tryz.underlying40 zaw rfl rfl ?_;exact zbf (by omega) (by decide) HTB.out.bel C9 (.inr ⟨HX.out,.inl ⟨(fun h=>by have:=Hp.out.2 h;cases this),rfl⟩⟩)
 | true=>
 have HP:Hid (zcw d.shape g k r):=Hp.out.1 (by simp);have y0:wB.cell? ⟨w.heap.size+1,0,none⟩=some (.int .i64 b.stamp):=HTB.out.b2.cell 0;have y1:wB.cell? ⟨w.heap.size+1,1,none⟩=some (.slice o1 b.bytes.1 k1):=HTB.out.b2.cell 1;obtain ⟨t3,h3⟩:=exB (InP b.stamp 0 1000000000);have H3:=hid h3;have CI:=fun w'=>zbS h3 w';clear h3
 go_wp2_with fail
 refine (CI _).mono ?_;rintro e w1' ⟨rfl,e1⟩;obtain rfl:=e1.symm;clear CI
 cases t3 with
 | false=>
  clear y0 y1
  go_wp2_with (refine zaF 40 _ _ rfl rfl (w.heap.size+1+1) rfl (cs:=(.int .i64 1::rwY)) rfl (HTB.out.b3) zaw rfl rfl (zbJ _ (by decide) w) ?_;intro w9 X9 C9 z9)
  refine zbu Tryz.results7 rfl X9 Tryz.underlying40 zaw rfl rfl ?_;exact zbf (by omega) (by decide) HTB.out.bel C9 (.inr ⟨HX.out,.inr ⟨HP.out,.inl ⟨(fun h=>by have:=H3.out.2 h.1;cases this),rfl⟩⟩⟩)
 | true=>
 by_cases hlen:(b.bytes.1:Int)=4
 case neg=>
  have hne:((b.bytes.1:Int) != 4)=true:=by simp only [bne_iff_ne,ne_eq];exact hlen
  have HL:=hid hlen
  go_wp2_with (refine zaF 40 _ _ rfl rfl (w.heap.size+1+1) rfl (cs:=(.int .i64 1::rwY)) rfl (HTB.out.b3) zaw rfl rfl (zbJ _ (by decide) w) ?_;intro w9 X9 C9 z9)
  refine zbu Tryz.results7 rfl X9 Tryz.underlying40 zaw rfl rfl ?_;exact zbf (by omega) (by decide) HTB.out.bel C9 (.inr ⟨HX.out,.inr ⟨HP.out,.inl ⟨(fun h=>HL.out (by rw [h.2];rfl)),rfl⟩⟩⟩)
 have hne:((b.bytes.1:Int) != 4)=false:=by rw [hlen];rfl
 have HB:Hid (zb4 b):=⟨H3.out.1 (by simp),by omega⟩;clear hlen;have x10:wB.cell? ⟨w.heap.size,10,none⟩=some (.slice ao2 d.on.1 cap2):=HTB.out.b1.cell 10;have CH:=zfJ _ _ _ hi g wB (HG2.out.below HTB.out.bel hhi)
 go_wp2_with fail
 refine CH.mono ?_;rintro e wA ⟨t,rfl,ht,bA⟩;have HTA:=hid (HTB.out.call bA);have zA:wB.heap.size≤wA.heap.size:=bA.size;have HH:=hid ht;clear CH bA x10 ht y0 y1 hne HTB
 cases t with
 | false=>
  go_wp2_with (refine zaF 40 _ _ rfl rfl (w.heap.size+1+1) rfl (cs:=(.int .i64 8::rwY)) rfl (HTA.out.b3) zaw rfl rfl (zbJ _ (by decide) w) ?_;intro w9 X9 C9 z9)
  refine zbu Tryz.results7 rfl X9 Tryz.underlying40 zaw rfl rfl ?_;exact zbf (by omega) (by decide) HTA.out.bel C9 (.inr ⟨HX.out,.inr ⟨HP.out,.inr ⟨HB.out,.inl ⟨(fun h=>by have:=HH.out.2 h;cases this),rfl⟩⟩⟩⟩)
 | true=>
 have HON:Hid (HasP d.on.1 d.on.2 g):=HH.out.1 (by simp)
 go_wp2_with (refine zam 38 (.tmp 5) rfl rfl (w.heap.size) rfl (HTA.out.b1) Tryz.underlying38 zbI rfl ?_)
 refine (zih _ d hi _ (zad.rd_below HRD.out HTA.out.bel hhi) (Nat.le_trans hhi HTA.out.bel.size) HSZ.out).mono ?_;rintro e w2 ⟨c2,rfl,o2,b2⟩;obtain ⟨p1,c1,p2,c2,p3,c3,K1,K2,K3,rfl,WO2⟩:=zhy o2;have z2:wA.heap.size≤w2.heap.size:=b2.size
 go_upto_region 11 with (refine zbU 38 12 (.tmp 45) _ _ 15 rfl rfl rfl rfl rfl rfl rfl rfl ziF rfl rfl o2.one ?_)
 have bA:=bAl w2 (.cells (rwW d p1 c1 p2 c2 p3 c3).toArray 38);have X3:=zaz w2 (rwW d p1 c1 p2 c2 p3 c3).toArray 38;obtain ⟨W3,hW3⟩:∃ x,x=w2.alloc (.cells (rwW d p1 c1 p2 c2 p3 c3).toArray 38):=⟨_,rfl⟩;rw [← hW3] at bA X3 ⊢;have T3:=(HTA.out.call b2).call bA;have WO:=WO2.below bA (Nat.le_refl _);have z3:w2.heap.size<W3.heap.size:=X3.lt;clear bA hW3 o2 b2 WO2;have hup:=zi9 HX.out
 by_cases hf:zg9 d
 ·have HF:=hid hf
  have CR:=zhD w2.heap.size _ _ _ _ _ _ _ _ _ _ _ _ _ _ _ _ _ _ _ _ _ W3 X3 hup hf.1 hf.2;have O3:=ziT WO.own;clear hf hup
  go_wp2_with fail
  refine CR.mono ?_;rintro e w5 ⟨rfl,X5,C5⟩;have T5:=T3.chgK C5 (fun b hb=>by simp at hb;omega);have O5:=O3.chgk C5 (fun b hb=>by simp at hb;omega);have z5:=C5.size;clear X3 T3 WO O3 C5 CR
  go_wp2_with (first | (refine zam 38 (.tmp 12) rfl rfl (w2.heap.size) rfl (X5) Tryz.underlying38 zbI rfl ?_) | (refine zaF 40 _ _ rfl rfl (w.heap.size+1+1) rfl (cs:=[.int .i64 9,.int .i64 (d.shape 0),.int .i64 (d.shape 1),.int .i64 (d.shape 2),.int .i64 (d.shape 3),.int .i64 (d.shape 4),.int .i64 (d.shape 5),.int .i64 (d.shape 6),.int .i64 (d.shape 7),.int .i64 (d.shape 8),.slice p1 d.groups.1 c1,.slice none 0 0,.slice p3 d.tapes.1 c3,.int .i64 d.writes,.int .i64 d.stop,.bool true]) rfl (T5.b3) zaw rfl rfl ((zcd 9 (by decide) O5).one) ?_;intro w9 X9 C9 z9))
  refine zbu Tryz.results7 rfl X9 Tryz.underlying40 zaw rfl rfl ?_;exact zeh (by omega) (by decide) T5.bel C9 O5 (by omega) (by omega) (.inr ⟨HX.out,.inr ⟨HP.out,.inr ⟨HB.out,.inr ⟨HON.out,.inl ⟨HF.out,rfl⟩⟩⟩⟩⟩)
 have HF:=hid hf;have CR:=ziA w2.heap.size _ _ _ _ _ _ _ _ _ _ _ _ _ _ _ _ _ _ _ _ _ W3 X3 hup hf (zfa HOK.out);clear hf hup
 go_upto_region 12 with fail
 all_goals skip
 refine CR.mono ?_;rintro e w5 ⟨rfl,X5,C5⟩;have T5:=T3.chgK C5 (fun b hb=>by simp at hb;omega);have WO5:=WO.chgn C5 (fun b hb hm=>by simp at hb;have:=WO.inn b hm;omega);have z5:=C5.size;clear X3 T3 WO C5 CR;obtain ⟨G,K,R,rfl,rfl,rfl,hG,hK,hR⟩:=zff HOK.out HP.out
 go_upto_region 13 with fail
 have WO0:WOpen w5.drew wA.heap.size w2.heap.size d _ _ _ K1 K2 K3:=WO5.chgn (K:=[]) ((ChgL.refl _ _).drew) (fun b hb=>by cases hb);have zd:w5.drew.heap.size=w5.heap.size:=rfl;obtain ⟨g1,cc1,gg,cap,ce,Ls,e1,c0,S2,nd2,in2,in1,ng1,back⟩:=WO0.drives2 (by omega) (by omega) hG (by omega)
 simp only [Value.slice.injEq,true_and] at e1
 obtain ⟨rfl,rfl⟩:=e1;obtain ⟨ao9,cap9,K9,e9,eK9,o9⟩:=zda (S2.each K hK)
 have nd9:K9.Nodup:=by rw [← eK9];exact zdi (List.nodup_cons.1 nd2).2 hK
 obtain ⟨gb,cp9,cb,Lb,eb,eLb,SB⟩:=zbn o9 (by omega)
 simp only [List.cons.injEq,Value.slice.injEq,and_true,true_and] at eb
 obtain ⟨rfl,rfl⟩:=eb;subst eLb;have in3:∀ b,b∈K1→wA.heap.size≤b∧b<w2.heap.size:=fun b hb=>WO0.inn b (List.mem_append_left _ hb);have x9:w5.cell? ⟨w2.heap.size,9,none⟩=some (.slice (some ⟨g1,0,none⟩) d.groups.1 c1):=X5.cell 9;have yk:w5.drew.cell? ⟨gg,K*2+1,none⟩=some (.slice (some ⟨gb,0,none⟩) ((d.groups.2 G).2 K).blocks.1 cap9):=(S2.cell hK (j:=1) (by decide)).trans (by rw [e9];rfl);obtain ⟨a0,ca0,-,eR,-⟩:=zb3 (SB.each R hR);obtain ⟨u0,hu0⟩:∃ u,u=Value.int .i64 (((d.groups.2 G).2 K).blocks.2 R).stamp:=⟨_,rfl⟩;obtain ⟨u1,hu1⟩:∃ u,u=Value.slice a0 (((d.groups.2 G).2 K).blocks.2 R).bytes.1 ca0:=⟨_,rfl⟩;have y0:w5.drew.cell? ⟨gb,R*2,none⟩=some u0:=(SB.cell hR (j:=0) (by decide)).trans (by rw [eR,hu0];rfl);have y1:w5.drew.cell? ⟨gb,R*2+1,none⟩=some u1:=(SB.cell hR (j:=1) (by decide)).trans (by rw [eR,hu1];rfl);clear hu0 hu1 eR;have hbl:w2.heap.size<w5.drew.heap.size:=X5.lt;have hql:w.heap.size+1<w5.drew.heap.size:=T5.b2.lt
 have hg1l:g1<w5.drew.heap.size:=by have:=in3 g1 in1;omega
 have hggl:gg<w5.drew.heap.size:=S2.lt;have T5b:=T5.b2;have KS:∀ w',Below w5.drew.heap.size w5.drew w'→(w'.cell? ⟨w2.heap.size,9,none⟩=some (.slice (some ⟨g1,0,none⟩) d.groups.1 c1)∧w'.cell? ⟨g1,G,none⟩=some (.slice (some ⟨gg,0,none⟩) (d.groups.2 G).1 cap)∧w'.cell? ⟨gg,K*2+1,none⟩=some (.slice (some ⟨gb,0,none⟩) ((d.groups.2 G).2 K).blocks.1 cap9)∧w'.cell? ⟨w.heap.size+1,0,none⟩=some (.int .i64 b.stamp)∧w'.cell? ⟨w.heap.size+1,1,none⟩=some (.slice o1 b.bytes.1 k1)):=fun w' hb=>⟨(hb.cell (p:=⟨w2.heap.size,9,none⟩) hbl).trans x9,(hb.cell (p:=⟨g1,G,none⟩) hg1l).trans c0,(hb.cell (p:=⟨gg,K*2+1,none⟩) hggl).trans yk,(hb.cell (p:=⟨w.heap.size+1,0,none⟩) hql).trans (T5b.cell 0),(hb.cell (p:=⟨w.heap.size+1,1,none⟩) hql).trans (T5b.cell 1)⟩
 have CC:=(zcZ [.int .i64 b.stamp,.slice o1 b.bytes.1 k1] b hi w5.drew (zac.rd_below (B:=w5.heap.size) (zac.rd_below HRB.out T5.bel hhi) ⟨rfl,rfl,rfl,Nat.le_refl _,fun _ _=>rfl⟩ (Nat.le_trans hhi T5.bel.size)) (Nat.le_trans hhi T5.bel.size) HSB.out).mono (R':=fun e w'=>∃ s1 m1,e=.returned (.agg #[.int .i64 b.stamp,.slice s1 b.bytes.1 m1])∧OwnT zac w' w5.drew.heap.size w'.heap.size b [.int .i64 b.stamp,.slice s1 b.bytes.1 m1]∧Below w5.drew.heap.size w5.drew w') (fun e w' ⟨cs',he,o5,b5⟩=>by
  obtain ⟨s1,m1,rfl⟩:=zdH o5
  exact ⟨s1,m1,he,o5,b5⟩)
 have i1:(0:Int)≤(G:Int):=by omega
 have i2:(G:Int)<(d.groups.1:Int):=by omega
 have i3:(0:Int)≤(K:Int):=by omega
 have i4:(K:Int)<((d.groups.2 G).1:Int):=by omega
 have i5:(0:Int)≤(R:Int):=by omega
 have i6:(R:Int)<(((d.groups.2 G).2 K).blocks.1:Int):=by omega
 refine zbc 13 (fun w'=>w'.cell? ⟨w2.heap.size,9,none⟩=some (.slice (some ⟨g1,0,none⟩) d.groups.1 c1)∧w'.cell? ⟨g1,G,none⟩=some (.slice (some ⟨gg,0,none⟩) (d.groups.2 G).1 cap)∧w'.cell? ⟨gg,K*2+1,none⟩=some (.slice (some ⟨gb,0,none⟩) ((d.groups.2 G).2 K).blocks.1 cap9)∧w'.cell? ⟨w.heap.size+1,0,none⟩=some (.int .i64 b.stamp)∧w'.cell? ⟨w.heap.size+1,1,none⟩=some (.slice o1 b.bytes.1 k1)) (by kernel_rfl) (KS _ (Below.refl _ _)) (fun hHeld=>?_);refine zi8 0 rfl ?_
 try simp only [Act.put,SL]
 refine zi8 1 rfl ?_
 try simp only [Act.put,SL]
 refine zi8 2 rfl ?_
 try simp only [Act.put,SL]
 refine zi8 3 rfl ?_
 try simp only [Act.put,SL]
 refine zi8 4 rfl ?_
 try simp only [Act.put,SL]
 refine zi8 5 rfl ?_
 try simp only [Act.put,SL]
 refine zi8 6 rfl ?_
 try simp only [Act.put,SL]
 refine zi8 7 rfl ?_
 try simp only [Act.put,SL]
 refine zi8 8 rfl ?_
 try simp only [Act.put,SL]
 refine zi8 9 rfl ?_
 try simp only [Act.put,SL]
 refine zi8 10 rfl ?_
 try simp only [Act.put,SL]
 refine zar (i:=11) (o:=_) rfl (by kernel_rfl) (fun KC hKC=>?_)
 refine zay rfl 34 _ _ rfl #[.agg #[.int .i64 b.stamp,.slice o1 b.bytes.1 k1]] ?_ Tryz.func34 (by kernel_rfl) (by kernel_rfl) CC ?_;(simp [Act.eval,Act.put]);rintro ee w6 ⟨s1,m1,rfl,o5,b5⟩;have k5:=KS w6 b5;have f0:w6.frozen? ⟨gb,R*2,none⟩=false:=(World.frozen?_of_block (a:=⟨gb,R*2,none⟩) (b5.block gb SB.lt)).trans (SB.frozen _);have f1:w6.frozen? ⟨gb,R*2+1,none⟩=false:=(World.frozen?_of_block (a:=⟨gb,R*2+1,none⟩) (b5.block gb SB.lt)).trans (SB.frozen _);have t0:w6.cell? ⟨gb,R*2,none⟩=some u0:=(World.cell?_of_block (a:=⟨gb,R*2,none⟩) (b5.block gb SB.lt)).trans y0;have t1:w6.cell? ⟨gb,R*2+1,none⟩=some u1:=(World.cell?_of_block (a:=⟨gb,R*2+1,none⟩) (b5.block gb SB.lt)).trans y1;refine ⟨_,rfl,?_⟩
 refine hKC.out _ _ (k5) (fun hHeld=>?_);clear hKC KC
 try simp only [Act.put,SL]
 refine zi8 12 rfl ?_
 try simp only [Act.put,SL]
 refine zbl (o:=_) rfl (by kernel_rfl) (fun KC hKC=>?_);go_simp;refine hKC.out _ _ ?_;clear hKC KC
 try simp only [Act.put,SL]
 refine zbm (by kernel_rfl) ?_ _;obtain ⟨La,TB⟩:=Turn.fresh (K:=Lb R) o5 (Nat.le_refl _) (ChgL.of_below b5);have T6:=SB.turn_at nd9 hR TB (w':=(stN w6 gb (R*zac.sz) [.int .i64 b.stamp,.slice s1 b.bytes.1 m1])) rfl;have T7:=zdl e9 T6;rw [← eK9] at T7;have T8:=S2.turn_in nd2 hK T7;obtain ⟨K1',WO7,sb7,ch7⟩:=back _ _ _ T8;have X7:=X5.drew.chgl ch7 (fun hb=>by have:=in3 _ hb;omega);have T5d:Three w w5.drew (rwW d ao1 cap1 ao2 cap2 ao3 cap3).toArray #[.int .i64 b.stamp,.slice o1 b.bytes.1 k1] rwZ.toArray 38 43 40:=T5.chgK ((ChgL.refl [] _).drew) (fun b hb=>by cases hb);have TW7:=T5d.chgK ch7 (fun b hb=>by have:=in3 _ hb;omega);have O7:OwnT zad (stN w6 gb (R*zac.sz) [.int .i64 b.stamp,.slice s1 b.bytes.1 m1]) wA.heap.size (stN w6 gb (R*zac.sz) [.int .i64 b.stamp,.slice s1 b.bytes.1 m1]).heap.size (zfe d G K R b) [.int .i64 (d.shape 0),.int .i64 (d.shape 1),.int .i64 (d.shape 2),.int .i64 (d.shape 3),.int .i64 (d.shape 4),.int .i64 (d.shape 5),.int .i64 (d.shape 6),.int .i64 (d.shape 7),.int .i64 (d.shape 8),.slice (some ⟨g1,0,none⟩) d.groups.1 c1,.slice p2 d.on.1 c2,.slice p3 d.tapes.1 c3,.int .i64 (d.writes+1),.int .i64 d.stop,.bool d.down]:=(WO7.writes (d.writes+1) (by have:=zfa HOK.out;omega)).own;clear WO7 T8 T7 T6 TB WO5 WO0 S2 SB nd2 nd9 e9 eK9 o9 X5 T5 T5d KS CC k5 o5 b5 back sb7 ch7 T5b y0 y1 t0 t1 f0 f1 x9 yk c0;obtain ⟨W7,hW7⟩:∃ x,x=(stN w6 gb (R*zac.sz) [.int .i64 b.stamp,.slice s1 b.bytes.1 m1]):=⟨_,rfl⟩
 go_upto_region 14 with fail
 change Code.wp Tryz.prog _ _ _ (stN w6 gb (R*zac.sz) [.int .i64 b.stamp,.slice s1 b.bytes.1 m1])
 rw [← hW7] at X7 TW7 O7 ⊢;clear hW7
 go_wp2_with (first | (refine zam 38 (.tmp 12) rfl rfl (w2.heap.size) rfl (X7) Tryz.underlying38 zbI rfl ?_) | (refine zaF 40 _ _ rfl rfl (w.heap.size+1+1) rfl (cs:=[.int .i64 0,.int .i64 (d.shape 0),.int .i64 (d.shape 1),.int .i64 (d.shape 2),.int .i64 (d.shape 3),.int .i64 (d.shape 4),.int .i64 (d.shape 5),.int .i64 (d.shape 6),.int .i64 (d.shape 7),.int .i64 (d.shape 8),.slice (some ⟨g1,0,none⟩) d.groups.1 c1,.slice p2 d.on.1 c2,.slice p3 d.tapes.1 c3,.int .i64 (d.writes+1),.int .i64 d.stop,.bool d.down]) rfl (TW7.b3) zaw rfl rfl ((zcd 0 (by decide) O7).one) ?_;intro w9 X9 C9 z9))
 refine zbu Tryz.results7 rfl X9 Tryz.underlying40 zaw rfl rfl ?_;exact zeh (by omega) (by decide) TW7.bel C9 O7 (by omega) (by omega) (.inr ⟨HX.out,.inr ⟨HP.out,.inr ⟨HB.out,.inr ⟨HON.out,.inr ⟨HF.out,rfl⟩⟩⟩⟩⟩)
set_option maxRecDepth 20000 in
theorem zfi (d:WorldD) (g k r:Int) (b:BlockD) (cs csb:List Value) (hi:Nat) (w:World) (h:zad.rd w hi d cs) (hr_:zac.rd w hi b csb) (hhi:hi≤w.heap.size) (hsz:zaS d≤1048576) (hsb:zav b≤1048576) (hg:-9223372036854775808≤g∧g≤9223372036854775807) (hk:-9223372036854775808≤k∧k≤9223372036854775807) (hr:-9223372036854775808≤r∧r≤9223372036854775807) :
 Calls Tryz.prog 10 #[.agg cs.toArray,.int .i64 g,.int .i64 k,.int .i64 r,.agg csb.toArray] w (zcK (WrAns d g k r b) w):=by
 have h':=h;obtain ⟨ao1,cap1,ao2,cap2,ao3,cap3,rfl,g1,g2,g3,k0,k4,k5⟩:=zaM h';obtain ⟨o1,k1,rfl,-,-⟩:=za0 hr_;have HRD:=hid h;have HRB:=hid hr_;have HSZ:=hid hsz;have HSB:=hid hsb
 have HG2:Hid (RdI w hi (.slice ao2 d.on.1 cap2) d.on.1 d.on.2):=by
  obtain ⟨_,e2,⟨h2,_⟩,_⟩:=g2
  cases e2
  exact h2
 have hmf:∀ (fn:Fn) (first cap:Array Value) (w:World),(Instr.makeFunc fn first cap).run Tryz.prog w=.ok (.func fn first cap) w:=fun _ _ _ _=>rfl;clear h h' hr_ hsz hsb g1 g2 g3 k0 k4 k5 hg hk hr;have T0:=ziV w (rwW d ao1 cap1 ao2 cap2 ao3 cap3).toArray #[.int .i64 g] #[.int .i64 k] #[.int .i64 r] #[.int .i64 b.stamp,.slice o1 b.bytes.1 k1] rwZ.toArray 38 2 2 2 43 40
 go_enter Tryz.func10,Tryz.ntmps10
 go_wp2_with (refine zam 38 (.tmp 5) rfl rfl (w.heap.size) rfl (T0.b1) Tryz.underlying38 zbI rfl ?_)
 refine (zgI d _ hi _ (zad.rd_below HRD.out T0.bel hhi) (Nat.le_trans hhi T0.bel.size) HSZ.out).mono ?_;rintro e w1 ⟨x,rfl,hx,b1⟩;have HT1:=hid (T0.call b1);have HX:=hid hx;have z1:w.heap.size+1+1+1+1+1<w1.heap.size:=HT1.out.b6.lt;clear b1 T0 hx
 by_cases hx0:x=0
 case neg=>
  have hne:(x != 0)=true:=by simp [hx0]
  go_wp2_with (refine zaF 40 _ _ rfl rfl (w.heap.size+1+1+1+1+1) rfl (cs:=(.int .i64 x::rwY)) rfl (HT1.out.b6) zaw rfl rfl (zbJ _ (zdj HX.out) w) ?_;intro w9 X9 C9 z9)
  refine zbu Tryz.results10 rfl X9 Tryz.underlying40 zaw rfl rfl ?_;exact zbf (by omega) (zdj HX.out) HT1.out.bel C9 (.inl ⟨x,hx0,HX.out,rfl⟩)
 subst hx0;have HOK:=hid (zh9 HX.out);have x_0:w1.cell? ⟨w.heap.size,0,none⟩=some (.int .i64 (d.shape 0)):=HT1.out.b1.cell 0;have x_1:w1.cell? ⟨w.heap.size,1,none⟩=some (.int .i64 (d.shape 1)):=HT1.out.b1.cell 1;have x_2:w1.cell? ⟨w.heap.size,2,none⟩=some (.int .i64 (d.shape 2)):=HT1.out.b1.cell 2;have x_3:w1.cell? ⟨w.heap.size,3,none⟩=some (.int .i64 (d.shape 3)):=HT1.out.b1.cell 3;have x_4:w1.cell? ⟨w.heap.size,4,none⟩=some (.int .i64 (d.shape 4)):=HT1.out.b1.cell 4;have x_5:w1.cell? ⟨w.heap.size,5,none⟩=some (.int .i64 (d.shape 5)):=HT1.out.b1.cell 5;have x_6:w1.cell? ⟨w.heap.size,6,none⟩=some (.int .i64 (d.shape 6)):=HT1.out.b1.cell 6;have x_7:w1.cell? ⟨w.heap.size,7,none⟩=some (.int .i64 (d.shape 7)):=HT1.out.b1.cell 7;have x_8:w1.cell? ⟨w.heap.size,8,none⟩=some (.int .i64 (d.shape 8)):=HT1.out.b1.cell 8;have xg:w1.cell? ⟨w.heap.size+1,0,none⟩=some (.int .i64 g):=HT1.out.b2.cell 0;have xk:w1.cell? ⟨w.heap.size+1+1,0,none⟩=some (.int .i64 k):=HT1.out.b3.cell 0;have xr:w1.cell? ⟨w.heap.size+1+1+1,0,none⟩=some (.int .i64 r):=HT1.out.b4.cell 0;obtain ⟨t1,h1⟩:=exB (zfR d.shape g k);obtain ⟨t2,h2⟩:=exB (InP r 0 (d.shape 4-1));have CP:=fun w'=>zbG (zgK d.shape HOK.out.shape g k w') h1;have CR:=fun w'=>zgC HOK.out.shape h2 w'
 have HPP:Hid (zcw d.shape g k r↔(t1=true∧t2=true)):=by
  show zcw d.shape g k r↔_
  rw [h1,h2];unfold zcw zfR
  constructor
  ·rintro ⟨p,q,r⟩;exact ⟨⟨p,q⟩,r⟩
  ·rintro ⟨⟨p,q⟩,r⟩;exact ⟨p,q,r⟩
 unfold zaj at CP CR;clear h1 h2
 go_wp2_with fail
 refine (CP _).mono ?_;rintro e w2 ⟨rfl,b2⟩;have HT2:=hid (HT1.out.call b2);have z2:w1.heap.size≤w2.heap.size:=b2.size;clear b2 CP HT1 xg xk xr x_0 x_1 x_2 x_3 x_4 x_5 x_6 x_7 x_8
 cases t1 with
 | false=>
  go_wp2_with (refine zaF 40 _ _ rfl rfl (w.heap.size+1+1+1+1+1) rfl (cs:=(.int .i64 3::rwY)) rfl (HT2.out.b6) zaw rfl rfl (zbJ _ (by decide) w) ?_;intro w9 X9 C9 z9)
  refine zbu Tryz.results10 rfl X9 Tryz.underlying40 zaw rfl rfl ?_;exact zbf (by omega) (by decide) HT2.out.bel C9 (.inr ⟨HX.out,.inl ⟨(fun h=>by have:=HPP.out.1 h;simp at this),rfl⟩⟩)
 | true=>
 have x_0:w2.cell? ⟨w.heap.size,0,none⟩=some (.int .i64 (d.shape 0)):=HT2.out.b1.cell 0;have x_1:w2.cell? ⟨w.heap.size,1,none⟩=some (.int .i64 (d.shape 1)):=HT2.out.b1.cell 1;have x_2:w2.cell? ⟨w.heap.size,2,none⟩=some (.int .i64 (d.shape 2)):=HT2.out.b1.cell 2;have x_3:w2.cell? ⟨w.heap.size,3,none⟩=some (.int .i64 (d.shape 3)):=HT2.out.b1.cell 3;have x_4:w2.cell? ⟨w.heap.size,4,none⟩=some (.int .i64 (d.shape 4)):=HT2.out.b1.cell 4;have x_5:w2.cell? ⟨w.heap.size,5,none⟩=some (.int .i64 (d.shape 5)):=HT2.out.b1.cell 5;have x_6:w2.cell? ⟨w.heap.size,6,none⟩=some (.int .i64 (d.shape 6)):=HT2.out.b1.cell 6;have x_7:w2.cell? ⟨w.heap.size,7,none⟩=some (.int .i64 (d.shape 7)):=HT2.out.b1.cell 7;have x_8:w2.cell? ⟨w.heap.size,8,none⟩=some (.int .i64 (d.shape 8)):=HT2.out.b1.cell 8;have xg:w2.cell? ⟨w.heap.size+1,0,none⟩=some (.int .i64 g):=HT2.out.b2.cell 0;have xk:w2.cell? ⟨w.heap.size+1+1,0,none⟩=some (.int .i64 k):=HT2.out.b3.cell 0;have xr:w2.cell? ⟨w.heap.size+1+1+1,0,none⟩=some (.int .i64 r):=HT2.out.b4.cell 0
 go_wp2_with fail
 refine (CR _).mono ?_;rintro e w3 ⟨rfl,b3⟩;have HT3:=hid (HT2.out.call b3);have z3:w2.heap.size≤w3.heap.size:=b3.size;clear b3 CR HT2 xg xk xr x_0 x_1 x_2 x_3 x_4 x_5 x_6 x_7 x_8
 cases t2 with
 | false=>
  go_wp2_with (refine zaF 40 _ _ rfl rfl (w.heap.size+1+1+1+1+1) rfl (cs:=(.int .i64 3::rwY)) rfl (HT3.out.b6) zaw rfl rfl (zbJ _ (by decide) w) ?_;intro w9 X9 C9 z9)
  refine zbu Tryz.results10 rfl X9 Tryz.underlying40 zaw rfl rfl ?_;exact zbf (by omega) (by decide) HT3.out.bel C9 (.inr ⟨HX.out,.inl ⟨(fun h=>by have:=HPP.out.1 h;simp at this),rfl⟩⟩)
 | true=>
 have HP:Hid (zcw d.shape g k r):=HPP.out.2 (by simp);clear HPP
 go_wp2_with (refine zam 43 (.tmp 9) rfl rfl (w.heap.size+1+1+1+1) rfl (HT3.out.b5) Tryz.underlying43 zgP rfl ?_)
 refine (zdg b o1 k1 _).mono ?_;rintro e w4 ⟨t,rfl,ht,b4⟩;have HT4:=hid (HT3.out.call b4);have z4:w3.heap.size≤w4.heap.size:=b4.size;have Ht:=hid ht;clear b4 ht HT3
 cases t with
 | false=>
  go_wp2_with (refine zaF 40 _ _ rfl rfl (w.heap.size+1+1+1+1+1) rfl (cs:=(.int .i64 1::rwY)) rfl (HT4.out.b6) zaw rfl rfl (zbJ _ (by decide) w) ?_;intro w9 X9 C9 z9)
  refine zbu Tryz.results10 rfl X9 Tryz.underlying40 zaw rfl rfl ?_;exact zbf (by omega) (by decide) HT4.out.bel C9 (.inr ⟨HX.out,.inr ⟨HP.out,.inl ⟨(fun h=>by have:=Ht.out.2 h;cases this),rfl⟩⟩⟩)
 | true=>
 have HB:Hid (zb4 b):=Ht.out.1 (by simp);have xg:w4.cell? ⟨w.heap.size+1,0,none⟩=some (.int .i64 g):=HT4.out.b2.cell 0
 go_wp2_with (refine zam 38 (.tmp 5) rfl rfl (w.heap.size) rfl (HT4.out.b1) Tryz.underlying38 zbI rfl ?_)
 refine (ziv d _ hi g _ (zad.rd_below HRD.out HT4.out.bel hhi) (Nat.le_trans hhi HT4.out.bel.size)).mono ?_;rintro e w5 ⟨t,rfl,ht,b5⟩;have HT5:=hid (HT4.out.call b5);have z5:w4.heap.size≤w5.heap.size:=b5.size;have HH:=hid ht;clear b5 ht xg HT4
 cases t with
 | false=>
  go_wp2_with (refine zaF 40 _ _ rfl rfl (w.heap.size+1+1+1+1+1) rfl (cs:=(.int .i64 8::rwY)) rfl (HT5.out.b6) zaw rfl rfl (zbJ _ (by decide) w) ?_;intro w9 X9 C9 z9)
  refine zbu Tryz.results10 rfl X9 Tryz.underlying40 zaw rfl rfl ?_;exact zbf (by omega) (by decide) HT5.out.bel C9 (.inr ⟨HX.out,.inr ⟨HP.out,.inr ⟨HB.out,.inl ⟨(fun h=>by have:=HH.out.2 h;cases this),rfl⟩⟩⟩⟩)
 | true=>
 have HON:Hid (HasP d.on.1 d.on.2 g):=HH.out.1 (by simp);obtain ⟨G,K,R,rfl,rfl,rfl,hG,hK,hR⟩:=zff HOK.out HP.out;have CW:=zgQ d (rwW d ao1 cap1 ao2 cap2 ao3 cap3) hi G K R b o1 k1 hi (w.heap.size+1) (w.heap.size+1+1) (w.heap.size+1+1+1) (w.heap.size+1+1+1+1) w5 (zad.rd_below HRD.out HT5.out.bel hhi) (Nat.le_trans hhi HT5.out.bel.size) HSZ.out (HT5.out.b2.cell 0) HT5.out.b2.lt (HT5.out.b3.cell 0) HT5.out.b3.lt (HT5.out.b4.cell 0) HT5.out.b4.lt HT5.out.b5 hG hK hR (zac.rd_below HRB.out HT5.out.bel hhi) (Nat.le_trans hhi HT5.out.bel.size) HSB.out (zfa HOK.out) (WrAns d G K R b) (fun hf=>.inr ⟨HX.out,.inr ⟨HP.out,.inr ⟨HB.out,.inr ⟨HON.out,.inl ⟨hf,rfl⟩⟩⟩⟩⟩) (fun hf=>.inr ⟨HX.out,.inr ⟨HP.out,.inr ⟨HB.out,.inr ⟨HON.out,.inr ⟨hf,rfl⟩⟩⟩⟩⟩)
 have CW:=CW.mono (R':=fun e w'=>∃ d' sc s0 s1 s2 s3 s4 s5 s6 s7 s8 sp0 sl0 sq0 sp1 sl1 sq1 sp2 sl2 sq2 s9 s10 sb,e=.returned (.agg (.int .i64 sc::rwV s0 s1 s2 s3 s4 s5 s6 s7 s8 sp0 sl0 sq0 sp1 sl1 sq1 sp2 sl2 sq2 s9 s10 sb).toArray)∧WrAns d G K R b d'∧OwnT zah w' w5.heap.size w'.heap.size d' (.int .i64 sc::rwV s0 s1 s2 s3 s4 s5 s6 s7 s8 sp0 sl0 sq0 sp1 sl1 sq1 sp2 sl2 sq2 s9 s10 sb)∧Below w5.heap.size w5 w') (fun e w' ⟨d',cs',he,hP,ho,hb⟩=>by
  obtain ⟨sc,s0,s1,s2,s3,s4,s5,s6,s7,s8,sp0,sl0,sq0,sp1,sl1,sq1,sp2,sl2,sq2,s9,s10,sb,rfl⟩:=zg6 ho.rd
  exact ⟨d',sc,s0,s1,s2,s3,s4,s5,s6,s7,s8,sp0,sl0,sq0,sp1,sl1,sq1,sp2,sl2,sq2,s9,s10,sb,he,hP,ho,hb⟩)
 go_wp2_with (first | (refine zam 38 (.tmp 5) rfl rfl (w.heap.size) rfl (HT5.out.b1) Tryz.underlying38 zbI rfl ?_) | (go_at_call 45;refine CW.mono ?_;rintro e w6 ⟨d',sc,s0,s1,s2,s3,s4,s5,s6,s7,s8,sp0,sl0,sq0,sp1,sl1,sq1,sp2,sl2,sq2,s9,s10,sb,rfl,hP,o6,b6⟩;have T6:=HT5.out.call b6;have z6:w5.heap.size≤w6.heap.size:=b6.size) | (refine zaF 40 _ _ rfl rfl (w.heap.size+1+1+1+1+1) rfl (cs:=(.int .i64 sc::rwV s0 s1 s2 s3 s4 s5 s6 s7 s8 sp0 sl0 sq0 sp1 sl1 sq1 sp2 sl2 sq2 s9 s10 sb)) rfl (T6.b6) zaw rfl rfl (o6.one) ?_;intro w9 X9 C9 z9))
 refine zbu Tryz.results10 rfl X9 Tryz.underlying40 zaw rfl rfl ?_;refine ⟨d',(.int .i64 sc::rwV s0 s1 s2 s3 s4 s5 s6 s7 s8 sp0 sl0 sq0 sp1 sl1 sq1 sp2 sl2 sq2 s9 s10 sb),rfl,hP,(o6.chgk C9 (fun b hb=>by simp at hb;omega)).weaken (by omega) C9.size,T6.bel.trans (C9.bel (fun b hb=>by simp at hb;omega) T6.bel.size)⟩
end Go.Proofs.YtonemlgejkapbaaGreat
namespace Go.Proofs.YtonemlgejkapbaaGreat
open Go.ChangeShapes Go.WideShapes Go.ChangeAt Go.RowKit F256
theorem zii {α : Type} (c : α → Nat) (x : Nat → α) (k : Nat) (a : α) : ∀ n : Nat, sumN (fun i => c (upd x k a i)) n ≤ sumN (fun i => c (x i)) n + (if k < n then c a else 0)
  | 0 => by simp [sumN]
  | n + 1 => by
    have ih := zii c x k a n
    rw [zaP, zaP]
    by_cases h : n = k
    · subst h
      rw [zaR, if_pos (by omega)]
      rw [if_neg (by omega)] at ih
      omega
    · rw [zaV x a h]
      by_cases h2 : k < n
      · rw [if_pos h2] at ih; rw [if_pos (by omega)]; omega
      · rw [if_neg h2] at ih; rw [if_neg (by omega)]; omega
theorem zgR {α : Type} (c : α → Nat) (p : Nat × (Nat → α)) (k : Nat) (a : α) : cSl c (p.1, upd p.2 k a) ≤ cSl c p + c a := by
  have := zii c p.2 k a p.1
  unfold cSl
  show sumN (fun i => c (upd p.2 k a i)) p.1 ≤ _
  split at this <;> omega
theorem zja (d : WorldD) : ∃ x, AskAns d x := by
  obtain ⟨x, hx⟩ := zip d
  by_cases h : x = 0
  · subst h
    cases hd : d.down with
    | true => exact ⟨9, .inr ⟨hx, .inl ⟨hd, rfl⟩⟩⟩
    | false => exact ⟨0, .inr ⟨hx, .inr ⟨hd, rfl⟩⟩⟩
  · exact ⟨x, .inl ⟨h, hx⟩⟩
theorem wr_ex (d : WorldD) (g k r : Int) (b : BlockD) : ∃ q, WrAns d g k r b q := by
  obtain ⟨x, hx⟩ := zja d
  by_cases h : x = 0
  · subst h
    by_cases h1 : zcw d.shape g k r
    · by_cases h2 : zb4 b
      · by_cases h3 : HasP d.on.1 d.on.2 g
        · by_cases h4 : zg9 d
          · exact ⟨_, .inr ⟨hx, .inr ⟨h1, .inr ⟨h2, .inr ⟨h3, .inl ⟨h4, rfl⟩⟩⟩⟩⟩⟩
          · exact ⟨_, .inr ⟨hx, .inr ⟨h1, .inr ⟨h2, .inr ⟨h3, .inr ⟨h4, rfl⟩⟩⟩⟩⟩⟩
        · exact ⟨_, .inr ⟨hx, .inr ⟨h1, .inr ⟨h2, .inl ⟨h3, rfl⟩⟩⟩⟩⟩
      · exact ⟨_, .inr ⟨hx, .inr ⟨h1, .inl ⟨h2, rfl⟩⟩⟩⟩
    · exact ⟨_, .inr ⟨hx, .inl ⟨h1, rfl⟩⟩⟩
  · exact ⟨_, .inl ⟨x, h, hx, rfl⟩⟩
theorem wr_cr {b : BlockD} (h : zav b ≤ 1048576) : zcQ b ≤ 20000000 := by
  unfold zav at h
  unfold zcQ
  omega
theorem zer (x : DriveD) (R : Nat) (b : BlockD) : zaf (zcp x R b) ≤ zaf x + zau b := by
  have := zgR zau x.blocks R b
  unfold zaf
  show 1 + cSl zau (x.blocks.1, upd x.blocks.2 R b) ≤ _
  omega
theorem wr_cv {d : WorldD} {g k r : Int} {b : BlockD} {q : WorldResultD} (hq : WrAns d g k r b q) (hsz : zaS d ≤ 1048576) (hsr : zav b ≤ 1048576) : za1 q ≤ 90000000 := by
  have h1 := zeE d
  rcases hq with ⟨x, _, _, rfl⟩ | ⟨h0, ⟨_, rfl⟩ | ⟨hp, ⟨_, rfl⟩ | ⟨_, ⟨_, rfl⟩ | ⟨_, ⟨_, rfl⟩ | ⟨_, rfl⟩⟩⟩⟩⟩
  · exact Nat.zero_le _
  · exact Nat.zero_le _
  · exact Nat.zero_le _
  · exact Nat.zero_le _
  · have e : za4 (cutW d) + d.on.1 = za4 d := by
      unfold za4 lenD
      show (cSl (cSl zaf)) d.groups + 0 + (cSl zaH) d.tapes + d.on.1 = _
      omega
    show za4 (cutW d) ≤ _
    omega
  · obtain ⟨G, K, R, rfl, rfl, rfl, hG, hK, hR⟩ := zff (zh9 h0) hp
    have hs : szSl (szSl zao) d.groups ≤ 1048576 := by unfold zaS at hsz; omega
    have h2 := zgR (cSl zaf) d.groups G ((d.groups.2 G).1, upd (d.groups.2 G).2 K (zcp ((d.groups.2 G).2 K) R b))
    have h3 := zgR zaf (d.groups.2 G) K (zcp ((d.groups.2 G).2 K) R b)
    have h4 := zeD (k := 6) zd3 (d.groups.2 G)
    have h5 : szSl zao (d.groups.2 G) ≤ 1048576 := za9 hs hG
    have h6 := zer ((d.groups.2 G).2 K) R b
    have h7 := zd3 ((d.groups.2 G).2 K)
    have h8 : zao ((d.groups.2 G).2 K) ≤ 1048576 := za9 h5 hK
    have h9 := zfL b
    show za4 (zfe d G K R b) ≤ _
    unfold za4 at h1 ⊢
    show (cSl (cSl zaf)) (d.groups.1, upd d.groups.2 G ((d.groups.2 G).1, upd (d.groups.2 G).2 K (zcp ((d.groups.2 G).2 K) R b))) + lenD d.on + (cSl zaH) d.tapes ≤ _
    omega
theorem ziI {d : WorldD} {g k r : Int} {b : BlockD} {q : WorldResultD} {w : World} {f : Nat} {args : Array Value} (hq : WrAns d g k r b q) (h : Calls Tryz.prog f args w (zcK (WrAns d g k r b) w)) : Calls Tryz.prog f args w fun e w' => ∃ cs, e = .returned (.agg cs.toArray) ∧ OwnT zah w' w.heap.size w'.heap.size q cs ∧ Below w.heap.size w w' :=
  h.mono fun e w' ⟨d', cs, h1, h2, h3, h4⟩ => ⟨cs, h1, by rw [hq.one h2]; exact h3, h4⟩
theorem secT {w : World} {lo hi : Nat} {r : BlockD} {cs : List Value} (h : OwnT zac w lo hi r cs) : ∃ s1 m1, cs = [.int .i64 r.stamp, .slice s1 r.bytes.1 m1] := by
  obtain ⟨M, h1, _⟩ := h
  obtain ⟨a, b, K1, rfl, _⟩ := zb3 h1
  exact ⟨a, b, rfl⟩
theorem zf2 : zah.sz = 16 := by kernel_rfl
theorem zei : (Tryz.prog.info? 31).map (·.size) = some 2 := by kernel_rfl
theorem zgS : (Tryz.prog.info? 43).map (·.size) = some 2 := by kernel_rfl
theorem ziW : (Tryz.prog.info? 43).map (fun i => (i.zero.map (·.cells), i.size)) = some (some #[.int .i64 0, .slice none 0 0], 2) := by kernel_rfl
set_option maxHeartbeats 64000000 in
set_option maxRecDepth 20000 in
theorem zcy (d : WorldD) (cs : List Value) (i0 : Int) (i1 : Int) (i2 : Int) (r : BlockD) (csr : List Value) (w : World) (rd0 : zad.rd w w.heap.size d cs) (hi0 : -9223372036854775808 ≤ i0 ∧ i0 ≤ 9223372036854775807) (hi1 : -9223372036854775808 ≤ i1 ∧ i1 ≤ 9223372036854775807) (hi2 : -9223372036854775808 ≤ i2 ∧ i2 ≤ 9223372036854775807) (rd1 : zac.rd w w.heap.size r csr) :
    Calls Tryz.prog 3 #[.agg cs.toArray, .int .i64 i0, .int .i64 i1, .int .i64 i2, .agg csr.toArray] w fun e w' => e = .returned (.bool true) ∧ Below w.heap.size w w' := by
  obtain ⟨v0, v1, v2, v3, v4, v5, v6, v7, v8, vp0, vl0, vq0, vp1, vl1, vq1, vp2, vl2, vq2, v9, v10, vb, rfl⟩ := zgG rd0
  obtain ⟨o1, k1, rfl, -⟩ := za0 rd1
  have HR : Hid (zad.rd w w.heap.size d (rwV v0 v1 v2 v3 v4 v5 v6 v7 v8 vp0 vl0 vq0 vp1 vl1 vq1 vp2 vl2 vq2 v9 v10 vb)) := rd0
  have HR2 : Hid (zac.rd w w.heap.size r [.int .i64 r.stamp, .slice o1 r.bytes.1 k1]) := rd1
  have HHi0 : Hid (-9223372036854775808 ≤ i0 ∧ i0 ≤ 9223372036854775807) := hi0
  have HHi1 : Hid (-9223372036854775808 ≤ i1 ∧ i1 ≤ 9223372036854775807) := hi1
  have HHi2 : Hid (-9223372036854775808 ≤ i2 ∧ i2 ≤ 9223372036854775807) := hi2
  clear rd0 rd1 hi0 hi1 hi2
  have T0 := zaA w (rwV v0 v1 v2 v3 v4 v5 v6 v7 v8 vp0 vl0 vq0 vp1 vl1 vq1 vp2 vl2 vq2 v9 v10 vb).toArray #[.int .i64 r.stamp, .slice o1 r.bytes.1 k1] 28 31
  go_enter Tryz.func3, Tryz.ntmps3
  go_wp2_with (refine zam 28 (.tmp 5) rfl rfl (w.heap.size) rfl T0.b1 Tryz.underlying28 zd4 rfl ?_)
  refine (zhp _ d w.heap.size 1048576 _ (zad.rd_below HR.out T0.bel (Nat.le_refl _)) T0.bel.size (by omega)).mono ?_
  rintro e wz ⟨x, rfl, hx, bz⟩
  have TZ := T0.call bz
  have HTZ : Hid (Two w wz (rwV v0 v1 v2 v3 v4 v5 v6 v7 v8 vp0 vl0 vq0 vp1 vl1 vq1 vp2 vl2 vq2 v9 v10 vb).toArray #[.int .i64 r.stamp, .slice o1 r.bytes.1 k1] 28 31) := TZ
  clear bz T0
  rcases hx with rfl | ⟨hsz, hx⟩
  · clear TZ
    go_wp2
    go_ret
    exact ⟨rfl, HTZ.out.bel⟩
  obtain ⟨X, rfl⟩ : ∃ X : Nat, x = (X : Int) := ⟨x.toNat, by omega⟩
  have hx0 : ¬ (X : Int) < 0 := by omega
  have HXX : Hid (X ≤ 1048576) := by show X ≤ 1048576; omega
  have HSW : Hid (zaS d ≤ 1048576) := by show zaS d ≤ 1048576; omega
  clear hx hsz
  go_wp2_with (refine zam 31 (.tmp 9) rfl rfl (w.heap.size + 1) rfl TZ.b2 Tryz.underlying31 zei rfl ?_)
  refine (zez _ r w.heap.size X _ (zac.rd_below HR2.out TZ.bel (Nat.le_refl _)) TZ.bel.size (by have := HXX.out; omega)).mono ?_
  rintro e w1 ⟨y, rfl, hy, b1⟩
  have T1 := TZ.call b1
  have HT1 : Hid (Two w w1 (rwV v0 v1 v2 v3 v4 v5 v6 v7 v8 vp0 vl0 vq0 vp1 vl1 vq1 vp2 vl2 vq2 v9 v10 vb).toArray #[.int .i64 r.stamp, .slice o1 r.bytes.1 k1] 28 31) := T1
  clear b1 TZ HTZ
  rcases hy with rfl | ⟨hsr, hy⟩
  · clear T1
    go_wp2
    go_ret
    exact ⟨rfl, HT1.out.bel⟩
  have hy0 : ¬ y < 0 := by have := HXX.out; omega
  have hsz := HSW.out
  have hsr' : zav r ≤ 1048576 := by have := HXX.out; omega
  clear hy hsr HXX
  obtain ⟨q, hq⟩ := wr_ex d i0 i1 i2 r
  obtain ⟨N, hN⟩ : ∃ N, N = 1 + za1 q := ⟨_, rfl⟩
  have hj : 1 + za1 q ≤ 100000000 := by have := wr_cv hq hsz hsr'; omega
  obtain ⟨M, hM⟩ : ∃ M, M = 1 + za4 d := ⟨_, rfl⟩
  have hk : 1 + za4 d ≤ 50000000 := by have := zeE d; omega
  obtain ⟨M2, hM2⟩ : ∃ M2, M2 = M + zcQ r := ⟨_, rfl⟩
  have hk2 : M + zcQ r ≤ 100000000 := by have := wr_cr hsr'; omega
  have CT : ∀ w', Below w1.heap.size w1 w' → Calls Tryz.prog 8 #[.agg (rwV v0 v1 v2 v3 v4 v5 v6 v7 v8 vp0 vl0 vq0 vp1 vl1 vq1 vp2 vl2 vq2 v9 v10 vb).toArray] w' fun e w'' => ∃ cs', e = .returned (.agg cs'.toArray) ∧ OwnT zad w'' w'.heap.size w''.heap.size d cs' ∧ Below w'.heap.size w' w'' := fun w' hb =>
    zhk _ d w.heap.size w' (zad.rd_below (zad.rd_below HR.out HT1.out.bel (Nat.le_refl _)) hb HT1.out.bel.size) (Nat.le_trans HT1.out.bel.size hb.size) hsz
  have CT2 : ∀ w', Below w1.heap.size w1 w' → Calls Tryz.prog 9 #[.agg #[.int .i64 r.stamp, .slice o1 r.bytes.1 k1]] w' fun e w'' => ∃ cs', e = .returned (.agg cs'.toArray) ∧ OwnT zac w'' w'.heap.size w''.heap.size r cs' ∧ Below w'.heap.size w' w'' := fun w' hb =>
    zew _ r w.heap.size w' (zac.rd_below (zac.rd_below HR2.out HT1.out.bel (Nat.le_refl _)) hb HT1.out.bel.size) (Nat.le_trans HT1.out.bel.size hb.size) hsr'
  have CS := fun (cs' csr' : List Value) (hi : Nat) (w' : World) (h1 : zad.rd w' hi d cs') (h3 : zac.rd w' hi r csr') (h2 : hi ≤ w'.heap.size) => ziI hq (zfh d i0 i1 i2 r cs' csr' hi w' h1 h3 h2 hsz hsr' HHi0.out HHi1.out HHi2.out)
  have CI := fun (cs' csr' : List Value) (hi : Nat) (w' : World) (h1 : zad.rd w' hi d cs') (h3 : zac.rd w' hi r csr') (h2 : hi ≤ w'.heap.size) => ziI hq (zfi d i0 i1 i2 r cs' csr' hi w' h1 h3 h2 hsz hsr' HHi0.out HHi1.out HHi2.out)
  have CE := fun c1 c2 h1 h2 w' => zdJ c1 c2 q h1 h2 w'
  have CW := fun c1 c2 h1 h2 w' => zey c1 c2 d h1 h2 w'
  have CW2 := fun c1 c2 h1 h2 w' => zex c1 c2 r h1 h2 w'
  have CM := fun {w' : World} {lo hi : Nat} {cs : List Value} (h : OwnT zah w' lo hi q cs) => zhZ zdc h 1 hj
  have CK := fun {w' : World} {lo hi : Nat} {cs : List Value} (h : OwnT zad w' lo hi d cs) => zhZ zdw h 1 (by omega)
  have CK2 := fun {w' : World} {lo hi : Nat} {cs : List Value} (h : OwnT zac w' lo hi r cs) => zhZ zfE h M hk2
  have CH := fun (cs : List Value) (hi : Nat) (w' : World) (h : zah.rd w' hi (zbk 1 q) cs) (hh : hi ≤ w'.heap.size) => zdd cs q hi 1 w' h hh hj
  rw [← hN] at CM CH
  rw [← hM] at CK
  rw [← hM2] at CK2
  clear hN hM hM2 hj hk hk2 hq hsz hsr' HSW T1
  go_upto_region 8 with fail
  go_cut [12] (fun v wx => ∃ b lo hi cS, v = .pointer (some ⟨b, 0, none⟩) ∧ Box wx b (cS : List Value).toArray 40 ∧ OwnT zah wx lo hi q cS ∧ Below w1.heap.size w1 wx ∧ w1.heap.size ≤ b ∧ b < wx.heap.size ∧ w1.heap.size ≤ lo ∧ hi ≤ wx.heap.size ∧ (b < lo ∨ hi ≤ b))
  case first =>
    have TD := HT1.out
    have KS : ∀ w', Below w1.heap.size w1 w' → (Box w' w.heap.size (rwV v0 v1 v2 v3 v4 v5 v6 v7 v8 vp0 vl0 vq0 vp1 vl1 vq1 vp2 vl2 vq2 v9 v10 vb).toArray 28 ∧ Box w' (w.heap.size + 1) #[.int .i64 r.stamp, .slice o1 r.bytes.1 k1] 31) := fun w' hb => ⟨TD.b1.call hb, TD.b2.call hb⟩
    have B0 : Below w1.heap.size w1 w1.drew := zcU _
    refine zbc 9 (fun w' => Box w' w.heap.size (rwV v0 v1 v2 v3 v4 v5 v6 v7 v8 vp0 vl0 vq0 vp1 vl1 vq1 vp2 vl2 vq2 v9 v10 vb).toArray 28 ∧ Box w' (w.heap.size + 1) #[.int .i64 r.stamp, .slice o1 r.bytes.1 k1] 31) (by kernel_rfl) (KS _ B0) (fun hHeld => ?_)
    refine zaa (i := 0) (oi := _) 16 rfl (by kernel_rfl) (fun _ _ _ h => h) (zby 28 (.tmp 5) rfl rfl (w.heap.size) rfl (cs := (rwV v0 v1 v2 v3 v4 v5 v6 v7 v8 vp0 vl0 vq0 vp1 vl1 vq1 vp2 vl2 vq2 v9 v10 vb)) (fun w' h => h.1) Tryz.underlying28 zd4 rfl) (by assumption) ?_
    try simp only [List.getElem_toArray, List.getElem_cons_succ, List.getElem_cons_zero, Act.put, List.setIfInBounds_toArray, List.set_cons_zero, List.set_cons_succ]
    refine zi7 2 (v:=?_) rfl ?_ ?_
    rotate_left
    · intro w' hSw
      go_simp
      try with_reducible rfl
    try simp only [List.getElem_toArray, List.getElem_cons_succ, List.getElem_cons_zero, Act.put, List.setIfInBounds_toArray, List.set_cons_zero, List.set_cons_succ]
    refine zi7 3 (v:=?_) rfl ?_ ?_
    rotate_left
    · intro w' hSw
      go_simp
      try with_reducible rfl
    try simp only [List.getElem_toArray, List.getElem_cons_succ, List.getElem_cons_zero, Act.put, List.setIfInBounds_toArray, List.set_cons_zero, List.set_cons_succ]
    refine zi7 4 (v:=?_) rfl ?_ ?_
    rotate_left
    · intro w' hSw
      go_simp
      try with_reducible rfl
    try simp only [List.getElem_toArray, List.getElem_cons_succ, List.getElem_cons_zero, Act.put, List.setIfInBounds_toArray, List.set_cons_zero, List.set_cons_succ]
    refine zaa (i := 5) (oi := _) 16 rfl (by kernel_rfl) (fun _ _ _ h => h) (zby 31 (.tmp 9) rfl rfl (w.heap.size + 1) rfl (cs := [.int .i64 r.stamp, .slice o1 r.bytes.1 k1]) (fun w' h => h.2) Tryz.underlying31 zei rfl) (by assumption) ?_
    try simp only [List.getElem_toArray, List.getElem_cons_succ, List.getElem_cons_zero, Act.put, List.setIfInBounds_toArray, List.set_cons_zero, List.set_cons_succ]
    refine zbX (i := 1) (j := 8) (oi := _) (oj := _) rfl rfl (by kernel_rfl) (by decide) (fun KC hKC => ?_) (fun KC hKC => ?_)
    · refine zay rfl 8 _ _ rfl #[.agg (rwV v0 v1 v2 v3 v4 v5 v6 v7 v8 vp0 vl0 vq0 vp1 vl1 vq1 vp2 vl2 vq2 v9 v10 vb).toArray] ?_ Tryz.func8 (by kernel_rfl) (by kernel_rfl) (CT w1.drew B0) ?_
      · simp [Act.eval, Act.put]
      rintro ee x1 ⟨cA, rfl, ow1, b1⟩
      have z1 := b1.size
      have bb1 : Below w1.heap.size w1 x1 := B0.trans (b1.mono B0.size)
      refine ⟨_, rfl, ?_⟩
      refine hKC.out _ _ (KS _ bb1) (fun hHeld => ?_)
      clear hKC KC
      try simp only [List.getElem_toArray, List.getElem_cons_succ, List.getElem_cons_zero, Act.put, List.setIfInBounds_toArray, List.set_cons_zero, List.set_cons_succ]
      refine zbX (i := 6) (j := 8) (oi := _) (oj := _) rfl rfl (by kernel_rfl) (by decide) (fun KC hKC => ?_) (fun KC hKC => ?_)
      · refine zay rfl 9 _ _ rfl #[.agg #[.int .i64 r.stamp, .slice o1 r.bytes.1 k1]] ?_ Tryz.func9 (by kernel_rfl) (by kernel_rfl) (CT2 x1 bb1) ?_
        · simp [Act.eval, Act.put]
        rintro ee x2 ⟨cB, rfl, ow2, b2⟩
        have z2 := b2.size
        have bb2 : Below w1.heap.size w1 x2 := bb1.trans (b2.mono bb1.size)
        refine ⟨_, rfl, ?_⟩
        refine hKC.out _ _ (KS _ bb2) (fun hHeld => ?_)
        clear hKC KC
        try simp only [List.getElem_toArray, List.getElem_cons_succ, List.getElem_cons_zero, Act.put, List.setIfInBounds_toArray, List.set_cons_zero, List.set_cons_succ]
        refine zbX (i := 7) (j := 8) (oi := _) (oj := _) rfl rfl (by kernel_rfl) (by decide) (fun KC hKC => ?_) (fun KC hKC => ?_)
        · refine zay rfl 7 _ _ rfl #[.agg cA.toArray, .int .i64 i0, .int .i64 i1, .int .i64 i2, .agg cB.toArray] ?_ Tryz.func7 (by kernel_rfl) (by kernel_rfl) (CS cA cB x2.heap.size x2 (((ow1).call b2).weaken (Nat.le_refl _) (by omega)).rd ((ow2).weaken (Nat.le_refl _) (by omega)).rd (Nat.le_refl _)) ?_
          · simp [Act.eval, Act.put]
          rintro ee x3 ⟨cS, rfl, ow3, b3⟩
          have z3 := b3.size
          have bb3 : Below w1.heap.size w1 x3 := bb2.trans (b3.mono bb2.size)
          refine ⟨_, rfl, ?_⟩
          refine hKC.out _ _ (KS _ bb3) (fun hHeld => ?_)
          clear hKC KC
          try simp only [List.getElem_toArray, List.getElem_cons_succ, List.getElem_cons_zero, Act.put, List.setIfInBounds_toArray, List.set_cons_zero, List.set_cons_succ]
          refine zar (i := 8) (o := _) rfl (by kernel_rfl) (fun KC hKC => ?_)
          have b4:=bAl x3 (.cells rwZ.toArray 40)
          have X4 := zaz x3 rwZ.toArray 40
          refine zbz rfl 40 rfl zck ?_
          obtain ⟨x4, hx4⟩ : ∃ x, x = (x3.alloc (.cells rwZ.toArray 40)) := ⟨_, rfl⟩
          rw [← hx4] at b4 X4 ⊢
          clear hx4
          have z4 := b4.size
          have y4 : x3.heap.size < x4.heap.size := X4.lt
          have bb4 : Below w1.heap.size w1 x4 := bb3.trans (b4.mono bb3.size)
          refine hKC.out _ _ (KS _ bb4) (fun hHeld => ?_)
          clear hKC KC
          try simp only [List.getElem_toArray, List.getElem_cons_succ, List.getElem_cons_zero, Act.put, List.setIfInBounds_toArray, List.set_cons_zero, List.set_cons_succ]
          have oS := (ow3).call b4
          have bX := X4
          have hl := oS.len.trans zf2
          have h1 := oS.one
          refine za8 (o := _) rfl (by kernel_rfl) (by kernel_rfl) rfl rfl 40 (.tmp 12) (.tmp 37) rfl (x3.heap.size) ?_ (cs := cS) (old := rwZ) ?_ bX zaw hl rfl h1 ?_
          · simp [Act.eval, Act.put]
          · simp [Act.eval, Act.put]
          intro w9 X9 C9 z9
          try simp only [List.getElem_toArray, List.getElem_cons_succ, List.getElem_cons_zero, Act.put, List.setIfInBounds_toArray, List.set_cons_zero, List.set_cons_succ]
          have zB := B0.size
          have z0 := bb4.size
          have HF : Hid (Box w9 (x3.heap.size) cS.toArray 40 ∧ OwnT zah w9 (x2.heap.size) (x3.heap.size) q cS ∧ Below w1.heap.size w1 w9 ∧ w1.heap.size ≤ x3.heap.size ∧ x3.heap.size < w9.heap.size ∧ w1.heap.size ≤ x2.heap.size ∧ x3.heap.size ≤ w9.heap.size ∧ (x3.heap.size < x2.heap.size ∨ x3.heap.size ≤ x3.heap.size)) := ⟨X9, oS.chgk C9 (fun b hb => by simp only [List.mem_cons, List.not_mem_nil, or_false] at hb; omega), bb4.trans (C9.bel (fun b hb => by simp only [List.mem_cons, List.not_mem_nil, or_false] at hb; omega) bb4.size), by omega, by omega, by omega, by omega, by omega⟩
          clear oS X9 C9 KS bX hl h1
          go_wp2
          go_meet
          exact ⟨_, _, _, _, rfl, HF.out⟩
        · have b5:=bAl x2 (.cells rwZ.toArray 40)
          have X5 := zaz x2 rwZ.toArray 40
          refine zbz rfl 40 rfl zck ?_
          obtain ⟨x5, hx5⟩ : ∃ x, x = (x2.alloc (.cells rwZ.toArray 40)) := ⟨_, rfl⟩
          rw [← hx5] at b5 X5 ⊢
          clear hx5
          have z5 := b5.size
          have y5 : x2.heap.size < x5.heap.size := X5.lt
          have bb5 : Below w1.heap.size w1 x5 := bb2.trans (b5.mono bb2.size)
          refine hKC.out _ _ (KS _ bb5) (fun hHeld => ?_)
          clear hKC KC
          try simp only [List.getElem_toArray, List.getElem_cons_succ, List.getElem_cons_zero, Act.put, List.setIfInBounds_toArray, List.set_cons_zero, List.set_cons_succ]
          refine zar (i := 7) (o := _) rfl (by kernel_rfl) (fun KC hKC => ?_)
          refine zay rfl 7 _ _ rfl #[.agg cA.toArray, .int .i64 i0, .int .i64 i1, .int .i64 i2, .agg cB.toArray] ?_ Tryz.func7 (by kernel_rfl) (by kernel_rfl) (CS cA cB x5.heap.size x5 ((((ow1).call b2).call b5).weaken (Nat.le_refl _) (by omega)).rd (((ow2).call b5).weaken (Nat.le_refl _) (by omega)).rd (Nat.le_refl _)) ?_
          · simp [Act.eval, Act.put]
          rintro ee x6 ⟨cS, rfl, ow6, b6⟩
          have z6 := b6.size
          have bb6 : Below w1.heap.size w1 x6 := bb5.trans (b6.mono bb5.size)
          refine ⟨_, rfl, ?_⟩
          refine hKC.out _ _ (KS _ bb6) (fun hHeld => ?_)
          clear hKC KC
          try simp only [List.getElem_toArray, List.getElem_cons_succ, List.getElem_cons_zero, Act.put, List.setIfInBounds_toArray, List.set_cons_zero, List.set_cons_succ]
          have oS := ow6
          have bX := (X5).call b6
          have hl := oS.len.trans zf2
          have h1 := oS.one
          refine za8 (o := _) rfl (by kernel_rfl) (by kernel_rfl) rfl rfl 40 (.tmp 12) (.tmp 37) rfl (x2.heap.size) ?_ (cs := cS) (old := rwZ) ?_ bX zaw hl rfl h1 ?_
          · simp [Act.eval, Act.put]
          · simp [Act.eval, Act.put]
          intro w9 X9 C9 z9
          try simp only [List.getElem_toArray, List.getElem_cons_succ, List.getElem_cons_zero, Act.put, List.setIfInBounds_toArray, List.set_cons_zero, List.set_cons_succ]
          have zB := B0.size
          have z0 := bb6.size
          have HF : Hid (Box w9 (x2.heap.size) cS.toArray 40 ∧ OwnT zah w9 (x5.heap.size) (x6.heap.size) q cS ∧ Below w1.heap.size w1 w9 ∧ w1.heap.size ≤ x2.heap.size ∧ x2.heap.size < w9.heap.size ∧ w1.heap.size ≤ x5.heap.size ∧ x6.heap.size ≤ w9.heap.size ∧ (x2.heap.size < x5.heap.size ∨ x6.heap.size ≤ x2.heap.size)) := ⟨X9, oS.chgk C9 (fun b hb => by simp only [List.mem_cons, List.not_mem_nil, or_false] at hb; omega), bb6.trans (C9.bel (fun b hb => by simp only [List.mem_cons, List.not_mem_nil, or_false] at hb; omega) bb6.size), by omega, by omega, by omega, by omega, by omega⟩
          clear oS X9 C9 KS bX hl h1
          go_wp2
          go_meet
          exact ⟨_, _, _, _, rfl, HF.out⟩
      · have b7:=bAl x1 (.cells rwZ.toArray 40)
        have X7 := zaz x1 rwZ.toArray 40
        refine zbz rfl 40 rfl zck ?_
        obtain ⟨x7, hx7⟩ : ∃ x, x = (x1.alloc (.cells rwZ.toArray 40)) := ⟨_, rfl⟩
        rw [← hx7] at b7 X7 ⊢
        clear hx7
        have z7 := b7.size
        have y7 : x1.heap.size < x7.heap.size := X7.lt
        have bb7 : Below w1.heap.size w1 x7 := bb1.trans (b7.mono bb1.size)
        refine hKC.out _ _ (KS _ bb7) (fun hHeld => ?_)
        clear hKC KC
        try simp only [List.getElem_toArray, List.getElem_cons_succ, List.getElem_cons_zero, Act.put, List.setIfInBounds_toArray, List.set_cons_zero, List.set_cons_succ]
        refine zar (i := 6) (o := _) rfl (by kernel_rfl) (fun KC hKC => ?_)
        refine zay rfl 9 _ _ rfl #[.agg #[.int .i64 r.stamp, .slice o1 r.bytes.1 k1]] ?_ Tryz.func9 (by kernel_rfl) (by kernel_rfl) (CT2 x7 bb7) ?_
        · simp [Act.eval, Act.put]
        rintro ee x8 ⟨cB, rfl, ow8, b8⟩
        have z8 := b8.size
        have bb8 : Below w1.heap.size w1 x8 := bb7.trans (b8.mono bb7.size)
        refine ⟨_, rfl, ?_⟩
        refine hKC.out _ _ (KS _ bb8) (fun hHeld => ?_)
        clear hKC KC
        try simp only [List.getElem_toArray, List.getElem_cons_succ, List.getElem_cons_zero, Act.put, List.setIfInBounds_toArray, List.set_cons_zero, List.set_cons_succ]
        refine zar (i := 7) (o := _) rfl (by kernel_rfl) (fun KC hKC => ?_)
        refine zay rfl 7 _ _ rfl #[.agg cA.toArray, .int .i64 i0, .int .i64 i1, .int .i64 i2, .agg cB.toArray] ?_ Tryz.func7 (by kernel_rfl) (by kernel_rfl) (CS cA cB x8.heap.size x8 ((((ow1).call b7).call b8).weaken (Nat.le_refl _) (by omega)).rd ((ow8).weaken (Nat.le_refl _) (by omega)).rd (Nat.le_refl _)) ?_
        · simp [Act.eval, Act.put]
        rintro ee x9 ⟨cS, rfl, ow9, b9⟩
        have z9 := b9.size
        have bb9 : Below w1.heap.size w1 x9 := bb8.trans (b9.mono bb8.size)
        refine ⟨_, rfl, ?_⟩
        refine hKC.out _ _ (KS _ bb9) (fun hHeld => ?_)
        clear hKC KC
        try simp only [List.getElem_toArray, List.getElem_cons_succ, List.getElem_cons_zero, Act.put, List.setIfInBounds_toArray, List.set_cons_zero, List.set_cons_succ]
        have oS := ow9
        have bX := ((X7).call b8).call b9
        have hl := oS.len.trans zf2
        have h1 := oS.one
        refine za8 (o := _) rfl (by kernel_rfl) (by kernel_rfl) rfl rfl 40 (.tmp 12) (.tmp 37) rfl (x1.heap.size) ?_ (cs := cS) (old := rwZ) ?_ bX zaw hl rfl h1 ?_
        · simp [Act.eval, Act.put]
        · simp [Act.eval, Act.put]
        intro w9 X9 C9 z9
        try simp only [List.getElem_toArray, List.getElem_cons_succ, List.getElem_cons_zero, Act.put, List.setIfInBounds_toArray, List.set_cons_zero, List.set_cons_succ]
        have zB := B0.size
        have z0 := bb9.size
        have HF : Hid (Box w9 (x1.heap.size) cS.toArray 40 ∧ OwnT zah w9 (x8.heap.size) (x9.heap.size) q cS ∧ Below w1.heap.size w1 w9 ∧ w1.heap.size ≤ x1.heap.size ∧ x1.heap.size < w9.heap.size ∧ w1.heap.size ≤ x8.heap.size ∧ x9.heap.size ≤ w9.heap.size ∧ (x1.heap.size < x8.heap.size ∨ x9.heap.size ≤ x1.heap.size)) := ⟨X9, oS.chgk C9 (fun b hb => by simp only [List.mem_cons, List.not_mem_nil, or_false] at hb; omega), bb9.trans (C9.bel (fun b hb => by simp only [List.mem_cons, List.not_mem_nil, or_false] at hb; omega) bb9.size), by omega, by omega, by omega, by omega, by omega⟩
        clear oS X9 C9 KS bX hl h1
        go_wp2
        go_meet
        exact ⟨_, _, _, _, rfl, HF.out⟩
    · have b10:=bAl w1.drew (.cells rwZ.toArray 40)
      have X10 := zaz w1.drew rwZ.toArray 40
      refine zbz rfl 40 rfl zck ?_
      obtain ⟨x10, hx10⟩ : ∃ x, x = (w1.drew.alloc (.cells rwZ.toArray 40)) := ⟨_, rfl⟩
      rw [← hx10] at b10 X10 ⊢
      clear hx10
      have z10 := b10.size
      have y10 : w1.drew.heap.size < x10.heap.size := X10.lt
      have bb10 : Below w1.heap.size w1 x10 := B0.trans (b10.mono B0.size)
      refine hKC.out _ _ (KS _ bb10) (fun hHeld => ?_)
      clear hKC KC
      try simp only [List.getElem_toArray, List.getElem_cons_succ, List.getElem_cons_zero, Act.put, List.setIfInBounds_toArray, List.set_cons_zero, List.set_cons_succ]
      refine zar (i := 1) (o := _) rfl (by kernel_rfl) (fun KC hKC => ?_)
      refine zay rfl 8 _ _ rfl #[.agg (rwV v0 v1 v2 v3 v4 v5 v6 v7 v8 vp0 vl0 vq0 vp1 vl1 vq1 vp2 vl2 vq2 v9 v10 vb).toArray] ?_ Tryz.func8 (by kernel_rfl) (by kernel_rfl) (CT x10 bb10) ?_
      · simp [Act.eval, Act.put]
      rintro ee x11 ⟨cA, rfl, ow11, b11⟩
      have z11 := b11.size
      have bb11 : Below w1.heap.size w1 x11 := bb10.trans (b11.mono bb10.size)
      refine ⟨_, rfl, ?_⟩
      refine hKC.out _ _ (KS _ bb11) (fun hHeld => ?_)
      clear hKC KC
      try simp only [List.getElem_toArray, List.getElem_cons_succ, List.getElem_cons_zero, Act.put, List.setIfInBounds_toArray, List.set_cons_zero, List.set_cons_succ]
      refine zar (i := 6) (o := _) rfl (by kernel_rfl) (fun KC hKC => ?_)
      refine zay rfl 9 _ _ rfl #[.agg #[.int .i64 r.stamp, .slice o1 r.bytes.1 k1]] ?_ Tryz.func9 (by kernel_rfl) (by kernel_rfl) (CT2 x11 bb11) ?_
      · simp [Act.eval, Act.put]
      rintro ee x12 ⟨cB, rfl, ow12, b12⟩
      have z12 := b12.size
      have bb12 : Below w1.heap.size w1 x12 := bb11.trans (b12.mono bb11.size)
      refine ⟨_, rfl, ?_⟩
      refine hKC.out _ _ (KS _ bb12) (fun hHeld => ?_)
      clear hKC KC
      try simp only [List.getElem_toArray, List.getElem_cons_succ, List.getElem_cons_zero, Act.put, List.setIfInBounds_toArray, List.set_cons_zero, List.set_cons_succ]
      refine zar (i := 7) (o := _) rfl (by kernel_rfl) (fun KC hKC => ?_)
      refine zay rfl 7 _ _ rfl #[.agg cA.toArray, .int .i64 i0, .int .i64 i1, .int .i64 i2, .agg cB.toArray] ?_ Tryz.func7 (by kernel_rfl) (by kernel_rfl) (CS cA cB x12.heap.size x12 (((ow11).call b12).weaken (Nat.le_refl _) (by omega)).rd ((ow12).weaken (Nat.le_refl _) (by omega)).rd (Nat.le_refl _)) ?_
      · simp [Act.eval, Act.put]
      rintro ee x13 ⟨cS, rfl, ow13, b13⟩
      have z13 := b13.size
      have bb13 : Below w1.heap.size w1 x13 := bb12.trans (b13.mono bb12.size)
      refine ⟨_, rfl, ?_⟩
      refine hKC.out _ _ (KS _ bb13) (fun hHeld => ?_)
      clear hKC KC
      try simp only [List.getElem_toArray, List.getElem_cons_succ, List.getElem_cons_zero, Act.put, List.setIfInBounds_toArray, List.set_cons_zero, List.set_cons_succ]
      have oS := ow13
      have bX := (((X10).call b11).call b12).call b13
      have hl := oS.len.trans zf2
      have h1 := oS.one
      refine za8 (o := _) rfl (by kernel_rfl) (by kernel_rfl) rfl rfl 40 (.tmp 12) (.tmp 37) rfl (w1.drew.heap.size) ?_ (cs := cS) (old := rwZ) ?_ bX zaw hl rfl h1 ?_
      · simp [Act.eval, Act.put]
      · simp [Act.eval, Act.put]
      intro w9 X9 C9 z9
      try simp only [List.getElem_toArray, List.getElem_cons_succ, List.getElem_cons_zero, Act.put, List.setIfInBounds_toArray, List.set_cons_zero, List.set_cons_succ]
      have zB := B0.size
      have z0 := bb13.size
      have HF : Hid (Box w9 (w1.drew.heap.size) cS.toArray 40 ∧ OwnT zah w9 (x12.heap.size) (x13.heap.size) q cS ∧ Below w1.heap.size w1 w9 ∧ w1.heap.size ≤ w1.drew.heap.size ∧ w1.drew.heap.size < w9.heap.size ∧ w1.heap.size ≤ x12.heap.size ∧ x13.heap.size ≤ w9.heap.size ∧ (w1.drew.heap.size < x12.heap.size ∨ x13.heap.size ≤ w1.drew.heap.size)) := ⟨X9, oS.chgk C9 (fun b hb => by simp only [List.mem_cons, List.not_mem_nil, or_false] at hb; omega), bb13.trans (C9.bel (fun b hb => by simp only [List.mem_cons, List.not_mem_nil, or_false] at hb; omega) bb13.size), by omega, by omega, by omega, by omega, by omega⟩
      clear oS X9 C9 KS bX hl h1
      go_wp2
      go_meet
      exact ⟨_, _, _, _, rfl, HF.out⟩
  case rest =>
  obtain ⟨bS, lS, hS, cS, rfl, S4, OS4, B4, s1, s2, s3, s4, s5⟩ := hcut
  obtain ⟨W4, rfl⟩ : ∃ x, x = wc := ⟨_, rfl⟩
  obtain ⟨sc, s0, s1, s2, s3, s4, s5, s6, s7, s8, sp0, sl0, sq0, sp1, sl1, sq1, sp2, sl2, sq2, s9, s10, sb, rfl⟩ := zg6 OS4.rd
  have z1 : w.heap.size + 1 < w1.heap.size := HT1.out.b2.lt
  have z4 : w1.heap.size ≤ W4.heap.size := B4.size
  have P4 := HT1.out.call B4
  go_wp2_with (refine zam 28 (.tmp 5) rfl rfl (w.heap.size) rfl P4.b1 Tryz.underlying28 zd4 rfl ?_)
  refine (CT _ B4).mono ?_
  rintro e w5 ⟨cX, rfl, oX, b5⟩
  obtain ⟨x0, x1, x2, x3, x4, x5, x6, x7, x8, xp0, xl0, xq0, xp1, xl1, xq1, xp2, xl2, xq2, x9, x10, xb, rfl⟩ := zg7 oX
  have z5 : W4.heap.size ≤ w5.heap.size := b5.size
  have B5 := B4.trans (b5.mono (by omega))
  have S5 := S4.call b5
  have OS5 := OS4.call b5
  clear P4 b5 B4 S4 OS4
  go_upto_region 10 with (refine zbU 38 13 (.tmp 39) _ _ 15 rfl rfl rfl rfl rfl rfl rfl rfl ziF rfl rfl oX.one ?_)
  have bA:=bAl w5 (.cells (rwV x0 x1 x2 x3 x4 x5 x6 x7 x8 xp0 xl0 xq0 xp1 xl1 xq1 xp2 xl2 xq2 x9 x10 xb).toArray 38)
  have X6:=zaz w5 (rwV x0 x1 x2 x3 x4 x5 x6 x7 x8 xp0 xl0 xq0 xp1 xl1 xq1 xp2 xl2 xq2 x9 x10 xb).toArray 38
  obtain ⟨W6, hW6⟩ : ∃ x, x = w5.alloc (.cells (rwV x0 x1 x2 x3 x4 x5 x6 x7 x8 xp0 xl0 xq0 xp1 xl1 xq1 xp2 xl2 xq2 x9 x10 xb).toArray 38) := ⟨_, rfl⟩
  rw [← hW6] at bA X6 ⊢
  have B6 := B5.trans (bA.mono (by omega))
  have S6 := S5.call bA
  have OS6 := OS5.call bA
  have OX6 := oX.call bA
  have z6 : w5.heap.size < W6.heap.size := X6.lt
  have P6 := HT1.out.call B6
  clear bA hW6 oX B5 S5 OS5
  go_wp2_with (refine zam 31 (.tmp 9) rfl rfl (w.heap.size + 1) rfl P6.b2 Tryz.underlying31 zei rfl ?_)
  refine (CT2 _ B6).mono ?_
  rintro e wr ⟨cR, rfl, oR, br⟩
  obtain ⟨p1, l1, rfl⟩ := secT oR
  have zr : W6.heap.size ≤ wr.heap.size := br.size
  have Br := B6.trans (br.mono (by omega))
  have Sr := S6.call br
  have OSr := OS6.call br
  have Xr := X6.call br
  have OXr := OX6.call br
  clear P6 br B6 S6 OS6 X6 OX6
  go_upto_region 11 with (refine zbU 43 14 (.tmp 41) _ _ 2 rfl rfl rfl rfl rfl rfl rfl rfl ziW rfl rfl oR.one ?_)
  have bA:=bAl wr (.cells #[.int .i64 r.stamp, .slice p1 r.bytes.1 l1] 43)
  have Y6:=zaz wr #[.int .i64 r.stamp, .slice p1 r.bytes.1 l1] 43
  obtain ⟨Wr, hWr⟩ : ∃ x, x = wr.alloc (.cells #[.int .i64 r.stamp, .slice p1 r.bytes.1 l1] 43) := ⟨_, rfl⟩
  rw [← hWr] at bA Y6 ⊢
  have B6 := Br.trans (bA.mono (by omega))
  have S6 := Sr.call bA
  have OS6 := OSr.call bA
  have X6 := Xr.call bA
  have OX6 := OXr.call bA
  have OY6 := oR.call bA
  have zr6 : wr.heap.size < Wr.heap.size := Y6.lt
  clear bA hWr oR Br Sr OSr Xr OXr
  go_wp2_with (first | (refine zam 38 (.tmp 13) rfl rfl (w5.heap.size) rfl X6 Tryz.underlying38 zbI rfl ?_) | (refine zam 43 (.tmp 14) rfl rfl (wr.heap.size) rfl Y6 Tryz.underlying43 zgS rfl ?_))
  refine (CI _ _ Wr.heap.size _ (OX6.weaken (Nat.le_refl _) (by omega)).rd (OY6.weaken (Nat.le_refl _) (by omega)).rd (Nat.le_refl _)).mono ?_
  rintro e w7 ⟨cG, rfl, oG, b7⟩
  obtain ⟨gc, g0, g1, g2, g3, g4, g5, g6, g7, g8, gp0, gl0, gq0, gp1, gl1, gq1, gp2, gl2, gq2, g9, g10, gb, rfl⟩ := zg6 oG.rd
  have z7 : Wr.heap.size ≤ w7.heap.size := b7.size
  have B7 := B6.trans (b7.mono (by omega))
  have S7 := S6.call b7
  have OS7 := OS6.call b7
  have X7 := X6.call b7
  have OX7 := OX6.call b7
  have Y7 := Y6.call b7
  have OY7 := OY6.call b7
  clear b7 B6 S6 OS6 X6 OX6 Y6 OY6
  go_upto_region 12 with (refine zbU 40 15 (.tmp 47) _ _ 16 rfl rfl rfl rfl rfl rfl rfl rfl zck rfl rfl oG.one ?_)
  have bA:=bAl w7 (.cells (.int .i64 gc::rwV g0 g1 g2 g3 g4 g5 g6 g7 g8 gp0 gl0 gq0 gp1 gl1 gq1 gp2 gl2 gq2 g9 g10 gb).toArray 40)
  have G8:=zaz w7 (.int .i64 gc::rwV g0 g1 g2 g3 g4 g5 g6 g7 g8 gp0 gl0 gq0 gp1 gl1 gq1 gp2 gl2 gq2 g9 g10 gb).toArray 40
  obtain ⟨W8, hW8⟩ : ∃ x, x = w7.alloc (.cells (.int .i64 gc::rwV g0 g1 g2 g3 g4 g5 g6 g7 g8 gp0 gl0 gq0 gp1 gl1 gq1 gp2 gl2 gq2 g9 g10 gb).toArray 40) := ⟨_, rfl⟩
  rw [← hW8] at bA G8 ⊢
  have B8 := B7.trans (bA.mono (by omega))
  have S8 := S7.call bA
  have OS8 := OS7.call bA
  have X8 := X7.call bA
  have OX8 := OX7.call bA
  have Y8 := Y7.call bA
  have OY8 := OY7.call bA
  have OG8 := oG.call bA
  have z8 : w7.heap.size < W8.heap.size := G8.lt
  clear bA hW8 oG B7 S7 OS7 X7 OX7 Y7 OY7
  go_wp2_with (first | (refine zam 40 (.tmp 15) rfl rfl (w7.heap.size) rfl G8 Tryz.underlying40 zaw rfl ?_) | (refine zam 40 (.tmp 12) rfl rfl (bS) rfl S8 Tryz.underlying40 zaw rfl ?_))
  refine (CE _ _ _ _ _ OG8.rd OS8.rd (by omega) (by omega)).mono ?_
  rintro e w9 ⟨rfl, b9⟩
  have z9 : W8.heap.size ≤ w9.heap.size := b9.size
  have B9 := B8.trans (b9.mono (by omega))
  have S9 : Hid (Box w9 bS (.int .i64 sc::rwV s0 s1 s2 s3 s4 s5 s6 s7 s8 sp0 sl0 sq0 sp1 sl1 sq1 sp2 sl2 sq2 s9 s10 sb).toArray 40) := S8.call b9
  have OS9 : Hid (OwnT zah w9 lS hS q (.int .i64 sc::rwV s0 s1 s2 s3 s4 s5 s6 s7 s8 sp0 sl0 sq0 sp1 sl1 sq1 sp2 sl2 sq2 s9 s10 sb)) := OS8.call b9
  have X9 : Hid (Box w9 w5.heap.size (rwV x0 x1 x2 x3 x4 x5 x6 x7 x8 xp0 xl0 xq0 xp1 xl1 xq1 xp2 xl2 xq2 x9 x10 xb).toArray 38) := X8.call b9
  have OX9 : Hid (OwnT zad w9 W4.heap.size w5.heap.size d (rwV x0 x1 x2 x3 x4 x5 x6 x7 x8 xp0 xl0 xq0 xp1 xl1 xq1 xp2 xl2 xq2 x9 x10 xb)) := OX8.call b9
  have Y9 : Hid (Box w9 wr.heap.size #[.int .i64 r.stamp, .slice p1 r.bytes.1 l1] 43) := Y8.call b9
  have OY9 : Hid (OwnT zac w9 W6.heap.size wr.heap.size r [.int .i64 r.stamp, .slice p1 r.bytes.1 l1]) := OY8.call b9
  have G9 : Hid (Box w9 w7.heap.size (.int .i64 gc::rwV g0 g1 g2 g3 g4 g5 g6 g7 g8 gp0 gl0 gq0 gp1 gl1 gq1 gp2 gl2 gq2 g9 g10 gb).toArray 40) := G8.call b9
  have OG9 : Hid (OwnT zah w9 Wr.heap.size w7.heap.size q (.int .i64 gc::rwV g0 g1 g2 g3 g4 g5 g6 g7 g8 gp0 gl0 gq0 gp1 gl1 gq1 gp2 gl2 gq2 g9 g10 gb)) := OG8.call b9
  have HB9 : Hid (Below w1.heap.size w1 w9) := B9
  have P9 : Hid (Two w w9 (rwV v0 v1 v2 v3 v4 v5 v6 v7 v8 vp0 vl0 vq0 vp1 vl1 vq1 vp2 vl2 vq2 v9 v10 vb).toArray #[.int .i64 r.stamp, .slice o1 r.bytes.1 k1] 28 31) := HT1.out.call B9
  have CTc := fun w' (hb : Below w9.heap.size w9 w') => CT w' (HB9.out.trans (hb.mono (by omega)))
  clear b9 B8 S8 OS8 X8 OX8 Y8 OY8 G8 OG8 B9
  go_upto_region 14 with fail
  go_cut [56] (fun v wx => v = .bool false ∧ Below w9.heap.size w9 wx)
  case first =>
    have KS : ∀ w', Below w9.heap.size w9 w' → (Box w' (w5.heap.size) (rwV x0 x1 x2 x3 x4 x5 x6 x7 x8 xp0 xl0 xq0 xp1 xl1 xq1 xp2 xl2 xq2 x9 x10 xb).toArray 38 ∧ Box w' (w.heap.size) (rwV v0 v1 v2 v3 v4 v5 v6 v7 v8 vp0 vl0 vq0 vp1 vl1 vq1 vp2 vl2 vq2 v9 v10 vb).toArray 28) := fun w' hb => ⟨(X9.out).call hb, (P9.out.b1).call hb⟩
    have B0 : Below w9.heap.size w9 w9.drew := zcU _
    refine zbc 4 (fun w' => Box w' (w5.heap.size) (rwV x0 x1 x2 x3 x4 x5 x6 x7 x8 xp0 xl0 xq0 xp1 xl1 xq1 xp2 xl2 xq2 x9 x10 xb).toArray 38 ∧ Box w' (w.heap.size) (rwV v0 v1 v2 v3 v4 v5 v6 v7 v8 vp0 vl0 vq0 vp1 vl1 vq1 vp2 vl2 vq2 v9 v10 vb).toArray 28) (by kernel_rfl) (KS _ B0) (fun hHeld => ?_)
    refine zaa (i := 0) (oi := _) 16 rfl (by kernel_rfl) (fun _ _ _ h => h) (zby 38 (.tmp 13) rfl rfl (w5.heap.size) rfl (cs := (rwV x0 x1 x2 x3 x4 x5 x6 x7 x8 xp0 xl0 xq0 xp1 xl1 xq1 xp2 xl2 xq2 x9 x10 xb)) (fun w' h => h.1) Tryz.underlying38 zbI rfl) (by assumption) ?_
    try simp only [List.getElem_toArray, List.getElem_cons_succ, List.getElem_cons_zero, Act.put, List.setIfInBounds_toArray, List.set_cons_zero, List.set_cons_succ]
    refine zaa (i := 1) (oi := _) 16 rfl (by kernel_rfl) (fun _ _ _ h => h) (zby 28 (.tmp 5) rfl rfl (w.heap.size) rfl (cs := (rwV v0 v1 v2 v3 v4 v5 v6 v7 v8 vp0 vl0 vq0 vp1 vl1 vq1 vp2 vl2 vq2 v9 v10 vb)) (fun w' h => h.2) Tryz.underlying28 zd4 rfl) (by assumption) ?_
    try simp only [List.getElem_toArray, List.getElem_cons_succ, List.getElem_cons_zero, Act.put, List.setIfInBounds_toArray, List.set_cons_zero, List.set_cons_succ]
    refine zar (i := 2) (o := _) rfl (by kernel_rfl) (fun KC hKC => ?_)
    refine zay rfl 8 _ _ rfl #[.agg (rwV v0 v1 v2 v3 v4 v5 v6 v7 v8 vp0 vl0 vq0 vp1 vl1 vq1 vp2 vl2 vq2 v9 v10 vb).toArray] ?_ Tryz.func8 (by kernel_rfl) (by kernel_rfl) (CTc _ B0) ?_
    · simp [Act.eval, Act.put]
    rintro ee wb ⟨cs', rfl, oR, bb⟩
    have bR : Below w9.heap.size w9 wb := B0.trans (bb.mono B0.size)
    refine ⟨_, rfl, ?_⟩
    refine hKC.out _ _ (KS _ bR) (fun hHeld => ?_)
    clear hKC KC
    try simp only [List.getElem_toArray, List.getElem_cons_succ, List.getElem_cons_zero, Act.put, List.setIfInBounds_toArray, List.set_cons_zero, List.set_cons_succ]
    refine zar (i := 3) (o := _) rfl (by kernel_rfl) (fun KC hKC => ?_)
    refine zay rfl 12 _ _ rfl #[.agg (rwV x0 x1 x2 x3 x4 x5 x6 x7 x8 xp0 xl0 xq0 xp1 xl1 xq1 xp2 xl2 xq2 x9 x10 xb).toArray, .agg cs'.toArray] ?_ Tryz.func12 (by kernel_rfl) (by kernel_rfl) (CW _ _ _ _ _ ((OX9.out).call bR).rd oR.rd (Nat.le_trans (by omega) bR.size) (Nat.le_refl _)) ?_
    · simp [Act.eval, Act.put]
    rintro ee wc' ⟨rfl, bc⟩
    have bC : Below w9.heap.size w9 wc' := bR.trans (bc.mono bR.size)
    refine ⟨_, rfl, ?_⟩
    refine hKC.out _ _ (KS _ bC) (fun hHeld => ?_)
    clear hKC KC
    try simp only [List.getElem_toArray, List.getElem_cons_succ, List.getElem_cons_zero, Act.put, List.setIfInBounds_toArray, List.set_cons_zero, List.set_cons_succ]
    refine zbl (o := _) rfl (by kernel_rfl) (fun KC hKC => ?_)
    go_simp
    refine hKC.out _ _ ?_
    clear hKC KC
    try simp only [List.getElem_toArray, List.getElem_cons_succ, List.getElem_cons_zero, Act.put, List.setIfInBounds_toArray, List.set_cons_zero, List.set_cons_succ]
    refine zbm (by kernel_rfl) ?_ _
    go_wp2
    go_meet
    exact ⟨rfl, bC⟩
  case rest =>
  obtain ⟨rfl, b10⟩ := hcut
  obtain ⟨wa, rfl⟩ : ∃ x, x = wc := ⟨_, rfl⟩
  clear CTc
  have za : w9.heap.size ≤ wa.heap.size := b10.size
  have Ba : Hid (Below w1.heap.size w1 wa) := HB9.out.trans (b10.mono (by omega))
  have Sa : Hid (Box wa bS (.int .i64 sc::rwV s0 s1 s2 s3 s4 s5 s6 s7 s8 sp0 sl0 sq0 sp1 sl1 sq1 sp2 sl2 sq2 s9 s10 sb).toArray 40) := S9.out.call b10
  have OSa : Hid (OwnT zah wa lS hS q (.int .i64 sc::rwV s0 s1 s2 s3 s4 s5 s6 s7 s8 sp0 sl0 sq0 sp1 sl1 sq1 sp2 sl2 sq2 s9 s10 sb)) := OS9.out.call b10
  have Xa : Hid (Box wa w5.heap.size (rwV x0 x1 x2 x3 x4 x5 x6 x7 x8 xp0 xl0 xq0 xp1 xl1 xq1 xp2 xl2 xq2 x9 x10 xb).toArray 38) := X9.out.call b10
  have OXa : Hid (OwnT zad wa W4.heap.size w5.heap.size d (rwV x0 x1 x2 x3 x4 x5 x6 x7 x8 xp0 xl0 xq0 xp1 xl1 xq1 xp2 xl2 xq2 x9 x10 xb)) := OX9.out.call b10
  have Ya : Hid (Box wa wr.heap.size #[.int .i64 r.stamp, .slice p1 r.bytes.1 l1] 43) := Y9.out.call b10
  have OYa : Hid (OwnT zac wa W6.heap.size wr.heap.size r [.int .i64 r.stamp, .slice p1 r.bytes.1 l1]) := OY9.out.call b10
  have Ga : Hid (Box wa w7.heap.size (.int .i64 gc::rwV g0 g1 g2 g3 g4 g5 g6 g7 g8 gp0 gl0 gq0 gp1 gl1 gq1 gp2 gl2 gq2 g9 g10 gb).toArray 40) := G9.out.call b10
  have OGa : Hid (OwnT zah wa Wr.heap.size w7.heap.size q (.int .i64 gc::rwV g0 g1 g2 g3 g4 g5 g6 g7 g8 gp0 gl0 gq0 gp1 gl1 gq1 gp2 gl2 gq2 g9 g10 gb)) := OG9.out.call b10
  have Pa : Hid (Two w wa (rwV v0 v1 v2 v3 v4 v5 v6 v7 v8 vp0 vl0 vq0 vp1 vl1 vq1 vp2 vl2 vq2 v9 v10 vb).toArray #[.int .i64 r.stamp, .slice o1 r.bytes.1 k1] 28 31) := HT1.out.call Ba.out
  have CTc := fun w' (hb : Below wa.heap.size wa w') => CT2 w' (Ba.out.trans (hb.mono (by omega)))
  clear b10 HB9 S9 OS9 X9 OX9 Y9 OY9 G9 OG9 P9
  go_upto_region 16 with fail
  go_cut [61] (fun v wx => v = .bool false ∧ Below wa.heap.size wa wx)
  case first =>
    have KS : ∀ w', Below wa.heap.size wa w' → (Box w' (wr.heap.size) #[.int .i64 r.stamp, .slice p1 r.bytes.1 l1] 43 ∧ Box w' (w.heap.size + 1) #[.int .i64 r.stamp, .slice o1 r.bytes.1 k1] 31) := fun w' hb => ⟨(Ya.out).call hb, (Pa.out.b2).call hb⟩
    have B0 : Below wa.heap.size wa wa.drew := zcU _
    refine zbc 4 (fun w' => Box w' (wr.heap.size) #[.int .i64 r.stamp, .slice p1 r.bytes.1 l1] 43 ∧ Box w' (w.heap.size + 1) #[.int .i64 r.stamp, .slice o1 r.bytes.1 k1] 31) (by kernel_rfl) (KS _ B0) (fun hHeld => ?_)
    refine zaa (i := 0) (oi := _) 16 rfl (by kernel_rfl) (fun _ _ _ h => h) (zby 43 (.tmp 14) rfl rfl (wr.heap.size) rfl (cs := [.int .i64 r.stamp, .slice p1 r.bytes.1 l1]) (fun w' h => h.1) Tryz.underlying43 zgS rfl) (by assumption) ?_
    try simp only [List.getElem_toArray, List.getElem_cons_succ, List.getElem_cons_zero, Act.put, List.setIfInBounds_toArray, List.set_cons_zero, List.set_cons_succ]
    refine zaa (i := 1) (oi := _) 16 rfl (by kernel_rfl) (fun _ _ _ h => h) (zby 31 (.tmp 9) rfl rfl (w.heap.size + 1) rfl (cs := [.int .i64 r.stamp, .slice o1 r.bytes.1 k1]) (fun w' h => h.2) Tryz.underlying31 zei rfl) (by assumption) ?_
    try simp only [List.getElem_toArray, List.getElem_cons_succ, List.getElem_cons_zero, Act.put, List.setIfInBounds_toArray, List.set_cons_zero, List.set_cons_succ]
    refine zar (i := 2) (o := _) rfl (by kernel_rfl) (fun KC hKC => ?_)
    refine zay rfl 9 _ _ rfl #[.agg #[.int .i64 r.stamp, .slice o1 r.bytes.1 k1]] ?_ Tryz.func9 (by kernel_rfl) (by kernel_rfl) (CTc _ B0) ?_
    · simp [Act.eval, Act.put]
    rintro ee wb ⟨cs', rfl, oR, bb⟩
    have bR : Below wa.heap.size wa wb := B0.trans (bb.mono B0.size)
    refine ⟨_, rfl, ?_⟩
    refine hKC.out _ _ (KS _ bR) (fun hHeld => ?_)
    clear hKC KC
    try simp only [List.getElem_toArray, List.getElem_cons_succ, List.getElem_cons_zero, Act.put, List.setIfInBounds_toArray, List.set_cons_zero, List.set_cons_succ]
    refine zar (i := 3) (o := _) rfl (by kernel_rfl) (fun KC hKC => ?_)
    refine zay rfl 13 _ _ rfl #[.agg #[.int .i64 r.stamp, .slice p1 r.bytes.1 l1], .agg cs'.toArray] ?_ Tryz.func13 (by kernel_rfl) (by kernel_rfl) (CW2 _ _ _ _ _ ((OYa.out).call bR).rd oR.rd (Nat.le_trans (by omega) bR.size) (Nat.le_refl _)) ?_
    · simp [Act.eval, Act.put]
    rintro ee wc' ⟨rfl, bc⟩
    have bC : Below wa.heap.size wa wc' := bR.trans (bc.mono bR.size)
    refine ⟨_, rfl, ?_⟩
    refine hKC.out _ _ (KS _ bC) (fun hHeld => ?_)
    clear hKC KC
    try simp only [List.getElem_toArray, List.getElem_cons_succ, List.getElem_cons_zero, Act.put, List.setIfInBounds_toArray, List.set_cons_zero, List.set_cons_succ]
    refine zbl (o := _) rfl (by kernel_rfl) (fun KC hKC => ?_)
    go_simp
    refine hKC.out _ _ ?_
    clear hKC KC
    try simp only [List.getElem_toArray, List.getElem_cons_succ, List.getElem_cons_zero, Act.put, List.setIfInBounds_toArray, List.set_cons_zero, List.set_cons_succ]
    refine zbm (by kernel_rfl) ?_ _
    go_wp2
    go_meet
    exact ⟨rfl, bC⟩
  case rest =>
  obtain ⟨rfl, b10⟩ := hcut
  obtain ⟨w10, rfl⟩ : ∃ x, x = wc := ⟨_, rfl⟩
  clear CTc
  have z10 : wa.heap.size ≤ w10.heap.size := b10.size
  have B10 := Ba.out.trans (b10.mono (by omega))
  have S10 := Sa.out.call b10
  have OS10 := OSa.out.call b10
  have X10 := Xa.out.call b10
  have OX10 := OXa.out.call b10
  have Y10 := Ya.out.call b10
  have OY10 := OYa.out.call b10
  have G10 := Ga.out.call b10
  have OG10 := OGa.out.call b10
  clear b10 Ba Sa OSa Xa OXa Ya OYa Ga OGa Pa
  go_wp2_with (refine zam 38 (.tmp 13) rfl rfl (w5.heap.size) rfl X10 Tryz.underlying38 zbI rfl ?_)
  refine (CK OX10).mono ?_
  rintro e wk ⟨rfl, OXk, ck⟩
  have zk : w10.heap.size ≤ wk.heap.size := ck.size
  have Bk := B10.trans (ck.bel (B := w1.heap.size) (by omega) (by omega))
  have Sk := S10.chg ck (.inl (by omega))
  have OSk := OS10.chg ck (.inl (by omega))
  have Yk := Y10.chg ck (.inr (by omega))
  have OYk := OY10.chg ck (.inr (by omega))
  have Gk := G10.chg ck (.inr (by omega))
  have OGk := OG10.chg ck (.inr (by omega))
  clear OXk ck B10 S10 OS10 X10 OX10 Y10 OY10 G10 OG10
  go_wp2_with (refine zam 43 (.tmp 14) rfl rfl (wr.heap.size) rfl Yk Tryz.underlying43 zgS rfl ?_)
  refine (CK2 OYk).mono ?_
  rintro e w11 ⟨rfl, OY11, c11⟩
  have hm0 : ¬ (M2 : Int) < 0 := by omega
  have z11 : wk.heap.size ≤ w11.heap.size := c11.size
  have B11 := Bk.trans (c11.bel (B := w1.heap.size) (by omega) (by omega))
  have S11 := Sk.chg c11 (.inl (by omega))
  have OS11 := OSk.chg c11 (.inl (by omega))
  have G11 := Gk.chg c11 (.inr (by omega))
  have OG11 := OGk.chg c11 (.inr (by omega))
  have u_0 : w11.cell? ⟨w7.heap.size, 0, none⟩ = some (.int .i64 gc) := G11.cell 0
  have u_1 : w11.cell? ⟨w7.heap.size, 1, none⟩ = some (.int .i64 g0) := G11.cell 1
  have u_2 : w11.cell? ⟨w7.heap.size, 2, none⟩ = some (.int .i64 g1) := G11.cell 2
  have u_3 : w11.cell? ⟨w7.heap.size, 3, none⟩ = some (.int .i64 g2) := G11.cell 3
  have u_4 : w11.cell? ⟨w7.heap.size, 4, none⟩ = some (.int .i64 g3) := G11.cell 4
  have u_5 : w11.cell? ⟨w7.heap.size, 5, none⟩ = some (.int .i64 g4) := G11.cell 5
  have u_6 : w11.cell? ⟨w7.heap.size, 6, none⟩ = some (.int .i64 g5) := G11.cell 6
  have u_7 : w11.cell? ⟨w7.heap.size, 7, none⟩ = some (.int .i64 g6) := G11.cell 7
  have u_8 : w11.cell? ⟨w7.heap.size, 8, none⟩ = some (.int .i64 g7) := G11.cell 8
  have u_9 : w11.cell? ⟨w7.heap.size, 9, none⟩ = some (.int .i64 g8) := G11.cell 9
  have u_10 : w11.cell? ⟨w7.heap.size, 10, none⟩ = some (.slice gp0 gl0 gq0) := G11.cell 10
  have u_11 : w11.cell? ⟨w7.heap.size, 11, none⟩ = some (.slice gp1 gl1 gq1) := G11.cell 11
  have u_12 : w11.cell? ⟨w7.heap.size, 12, none⟩ = some (.slice gp2 gl2 gq2) := G11.cell 12
  have u_13 : w11.cell? ⟨w7.heap.size, 13, none⟩ = some (.int .i64 g9) := G11.cell 13
  have u_14 : w11.cell? ⟨w7.heap.size, 14, none⟩ = some (.int .i64 g10) := G11.cell 14
  have u_15 : w11.cell? ⟨w7.heap.size, 15, none⟩ = some (.bool gb) := G11.cell 15
  have y_0 : w11.cell? ⟨bS, 0, none⟩ = some (.int .i64 sc) := S11.cell 0
  have y_1 : w11.cell? ⟨bS, 1, none⟩ = some (.int .i64 s0) := S11.cell 1
  have y_2 : w11.cell? ⟨bS, 2, none⟩ = some (.int .i64 s1) := S11.cell 2
  have y_3 : w11.cell? ⟨bS, 3, none⟩ = some (.int .i64 s2) := S11.cell 3
  have y_4 : w11.cell? ⟨bS, 4, none⟩ = some (.int .i64 s3) := S11.cell 4
  have y_5 : w11.cell? ⟨bS, 5, none⟩ = some (.int .i64 s4) := S11.cell 5
  have y_6 : w11.cell? ⟨bS, 6, none⟩ = some (.int .i64 s5) := S11.cell 6
  have y_7 : w11.cell? ⟨bS, 7, none⟩ = some (.int .i64 s6) := S11.cell 7
  have y_8 : w11.cell? ⟨bS, 8, none⟩ = some (.int .i64 s7) := S11.cell 8
  have y_9 : w11.cell? ⟨bS, 9, none⟩ = some (.int .i64 s8) := S11.cell 9
  have y_10 : w11.cell? ⟨bS, 10, none⟩ = some (.slice sp0 sl0 sq0) := S11.cell 10
  have y_11 : w11.cell? ⟨bS, 11, none⟩ = some (.slice sp1 sl1 sq1) := S11.cell 11
  have y_12 : w11.cell? ⟨bS, 12, none⟩ = some (.slice sp2 sl2 sq2) := S11.cell 12
  have y_13 : w11.cell? ⟨bS, 13, none⟩ = some (.int .i64 s9) := S11.cell 13
  have y_14 : w11.cell? ⟨bS, 14, none⟩ = some (.int .i64 s10) := S11.cell 14
  have y_15 : w11.cell? ⟨bS, 15, none⟩ = some (.bool sb) := S11.cell 15
  clear OY11 c11 Bk Sk OSk Yk OYk Gk OGk
  go_wp2_with fail
  refine (CE _ _ _ _ _ OG11.rd OS11.rd (by omega) (by omega)).mono ?_
  rintro e w12 ⟨rfl, b12⟩
  have z12 : w11.heap.size ≤ w12.heap.size := b12.size
  have B12 := B11.trans (b12.mono (by omega))
  have S12 := S11.call b12
  have OS12 := OS11.call b12
  have G12 := G11.call b12
  have OG12 := OG11.call b12
  clear b12 B11 S11 OS11 G11 OG11 u_0 u_1 u_2 u_3 u_4 u_5 u_6 u_7 u_8 u_9 u_10 u_11 u_12 u_13 u_14 u_15 y_0 y_1 y_2 y_3 y_4 y_5 y_6 y_7 y_8 y_9 y_10 y_11 y_12 y_13 y_14 y_15
  go_wp2_with (refine zam 40 (.tmp 15) rfl rfl (w7.heap.size) rfl G12 Tryz.underlying40 zaw rfl ?_)
  refine (CM OG12).mono ?_
  rintro e w13 ⟨rfl, OG13, c13⟩
  have z13 : w12.heap.size ≤ w13.heap.size := c13.size
  have B13 := B12.trans (c13.bel (B := w1.heap.size) (by omega) (by omega))
  have S13 := S12.chg c13 (.inl (by omega))
  have OS13 := OS12.chg c13 (.inl (by omega))
  have G13 := G12.chg c13 (.inr (by omega))
  clear c13 B12 S12 OS12 G12 OG12
  go_wp2_with (refine zam 40 (.tmp 15) rfl rfl (w7.heap.size) rfl G13 Tryz.underlying40 zaw rfl ?_)
  refine (CH _ _ _ OG13.rd (by omega)).mono ?_
  rintro e w14 ⟨rfl, b14⟩
  have z14 : w13.heap.size ≤ w14.heap.size := b14.size
  have B14 : Hid (Below w1.heap.size w1 w14) := B13.trans (b14.mono (by omega))
  have S14 : Hid (Box w14 bS (.int .i64 sc::rwV s0 s1 s2 s3 s4 s5 s6 s7 s8 sp0 sl0 sq0 sp1 sl1 sq1 sp2 sl2 sq2 s9 s10 sb).toArray 40) := S13.call b14
  have OS14 : Hid (OwnT zah w14 lS hS q (.int .i64 sc::rwV s0 s1 s2 s3 s4 s5 s6 s7 s8 sp0 sl0 sq0 sp1 sl1 sq1 sp2 sl2 sq2 s9 s10 sb)) := OS13.call b14
  have G14 : Hid (Box w14 w7.heap.size (.int .i64 gc::rwV g0 g1 g2 g3 g4 g5 g6 g7 g8 gp0 gl0 gq0 gp1 gl1 gq1 gp2 gl2 gq2 g9 g10 gb).toArray 40) := G13.call b14
  have OG14 : Hid (OwnT zah w14 Wr.heap.size w7.heap.size (zbk 1 q) (.int .i64 gc::rwV g0 g1 g2 g3 g4 g5 g6 g7 g8 gp0 gl0 gq0 gp1 gl1 gq1 gp2 gl2 gq2 g9 g10 gb)) := OG13.call b14
  have P14 := HT1.out.call B14.out
  clear b14 B13 S13 OS13 G13 OG13
  have hn0 : ¬ (N : Int) < 0 := by omega
  have CTb := fun w' (hb : Below w14.heap.size w14 w') => CT w' (B14.out.trans (hb.mono (by omega)))
  have CT2b := fun w' (hb : Below w14.heap.size w14 w') => CT2 w' (B14.out.trans (hb.mono (by omega)))
  go_upto_region 31 with fail
  go_cut [19] (fun v wx => ∃ b lo hi cS, v = .pointer (some ⟨b, 0, none⟩) ∧ Box wx b (cS : List Value).toArray 40 ∧ OwnT zah wx lo hi q cS ∧ Below w14.heap.size w14 wx ∧ w14.heap.size ≤ b ∧ b < wx.heap.size ∧ w14.heap.size ≤ lo ∧ hi ≤ wx.heap.size ∧ (b < lo ∨ hi ≤ b))
  case first =>
    have TD := P14
    have KS : ∀ w', Below w14.heap.size w14 w' → (Box w' w.heap.size (rwV v0 v1 v2 v3 v4 v5 v6 v7 v8 vp0 vl0 vq0 vp1 vl1 vq1 vp2 vl2 vq2 v9 v10 vb).toArray 28 ∧ Box w' (w.heap.size + 1) #[.int .i64 r.stamp, .slice o1 r.bytes.1 k1] 31) := fun w' hb => ⟨TD.b1.call hb, TD.b2.call hb⟩
    have B0 : Below w14.heap.size w14 w14.drew := zcU _
    refine zbc 9 (fun w' => Box w' w.heap.size (rwV v0 v1 v2 v3 v4 v5 v6 v7 v8 vp0 vl0 vq0 vp1 vl1 vq1 vp2 vl2 vq2 v9 v10 vb).toArray 28 ∧ Box w' (w.heap.size + 1) #[.int .i64 r.stamp, .slice o1 r.bytes.1 k1] 31) (by kernel_rfl) (KS _ B0) (fun hHeld => ?_)
    refine zaa (i := 0) (oi := _) 16 rfl (by kernel_rfl) (fun _ _ _ h => h) (zby 28 (.tmp 5) rfl rfl (w.heap.size) rfl (cs := (rwV v0 v1 v2 v3 v4 v5 v6 v7 v8 vp0 vl0 vq0 vp1 vl1 vq1 vp2 vl2 vq2 v9 v10 vb)) (fun w' h => h.1) Tryz.underlying28 zd4 rfl) (by assumption) ?_
    try simp only [List.getElem_toArray, List.getElem_cons_succ, List.getElem_cons_zero, Act.put, List.setIfInBounds_toArray, List.set_cons_zero, List.set_cons_succ]
    refine zi7 2 (v:=?_) rfl ?_ ?_
    rotate_left
    · intro w' hSw
      go_simp
      try with_reducible rfl
    try simp only [List.getElem_toArray, List.getElem_cons_succ, List.getElem_cons_zero, Act.put, List.setIfInBounds_toArray, List.set_cons_zero, List.set_cons_succ]
    refine zi7 3 (v:=?_) rfl ?_ ?_
    rotate_left
    · intro w' hSw
      go_simp
      try with_reducible rfl
    try simp only [List.getElem_toArray, List.getElem_cons_succ, List.getElem_cons_zero, Act.put, List.setIfInBounds_toArray, List.set_cons_zero, List.set_cons_succ]
    refine zi7 4 (v:=?_) rfl ?_ ?_
    rotate_left
    · intro w' hSw
      go_simp
      try with_reducible rfl
    try simp only [List.getElem_toArray, List.getElem_cons_succ, List.getElem_cons_zero, Act.put, List.setIfInBounds_toArray, List.set_cons_zero, List.set_cons_succ]
    refine zaa (i := 5) (oi := _) 16 rfl (by kernel_rfl) (fun _ _ _ h => h) (zby 31 (.tmp 9) rfl rfl (w.heap.size + 1) rfl (cs := [.int .i64 r.stamp, .slice o1 r.bytes.1 k1]) (fun w' h => h.2) Tryz.underlying31 zei rfl) (by assumption) ?_
    try simp only [List.getElem_toArray, List.getElem_cons_succ, List.getElem_cons_zero, Act.put, List.setIfInBounds_toArray, List.set_cons_zero, List.set_cons_succ]
    refine zbX (i := 1) (j := 8) (oi := _) (oj := _) rfl rfl (by kernel_rfl) (by decide) (fun KC hKC => ?_) (fun KC hKC => ?_)
    · refine zay rfl 8 _ _ rfl #[.agg (rwV v0 v1 v2 v3 v4 v5 v6 v7 v8 vp0 vl0 vq0 vp1 vl1 vq1 vp2 vl2 vq2 v9 v10 vb).toArray] ?_ Tryz.func8 (by kernel_rfl) (by kernel_rfl) (CTb w14.drew B0) ?_
      · simp [Act.eval, Act.put]
      rintro ee x1 ⟨cA, rfl, ow1, b1⟩
      have z1 := b1.size
      have bb1 : Below w14.heap.size w14 x1 := B0.trans (b1.mono B0.size)
      refine ⟨_, rfl, ?_⟩
      refine hKC.out _ _ (KS _ bb1) (fun hHeld => ?_)
      clear hKC KC
      try simp only [List.getElem_toArray, List.getElem_cons_succ, List.getElem_cons_zero, Act.put, List.setIfInBounds_toArray, List.set_cons_zero, List.set_cons_succ]
      refine zbX (i := 6) (j := 8) (oi := _) (oj := _) rfl rfl (by kernel_rfl) (by decide) (fun KC hKC => ?_) (fun KC hKC => ?_)
      · refine zay rfl 9 _ _ rfl #[.agg #[.int .i64 r.stamp, .slice o1 r.bytes.1 k1]] ?_ Tryz.func9 (by kernel_rfl) (by kernel_rfl) (CT2b x1 bb1) ?_
        · simp [Act.eval, Act.put]
        rintro ee x2 ⟨cB, rfl, ow2, b2⟩
        have z2 := b2.size
        have bb2 : Below w14.heap.size w14 x2 := bb1.trans (b2.mono bb1.size)
        refine ⟨_, rfl, ?_⟩
        refine hKC.out _ _ (KS _ bb2) (fun hHeld => ?_)
        clear hKC KC
        try simp only [List.getElem_toArray, List.getElem_cons_succ, List.getElem_cons_zero, Act.put, List.setIfInBounds_toArray, List.set_cons_zero, List.set_cons_succ]
        refine zbX (i := 7) (j := 8) (oi := _) (oj := _) rfl rfl (by kernel_rfl) (by decide) (fun KC hKC => ?_) (fun KC hKC => ?_)
        · refine zay rfl 10 _ _ rfl #[.agg cA.toArray, .int .i64 i0, .int .i64 i1, .int .i64 i2, .agg cB.toArray] ?_ Tryz.func10 (by kernel_rfl) (by kernel_rfl) (CI cA cB x2.heap.size x2 (((ow1).call b2).weaken (Nat.le_refl _) (by omega)).rd ((ow2).weaken (Nat.le_refl _) (by omega)).rd (Nat.le_refl _)) ?_
          · simp [Act.eval, Act.put]
          rintro ee x3 ⟨cS, rfl, ow3, b3⟩
          have z3 := b3.size
          have bb3 : Below w14.heap.size w14 x3 := bb2.trans (b3.mono bb2.size)
          refine ⟨_, rfl, ?_⟩
          refine hKC.out _ _ (KS _ bb3) (fun hHeld => ?_)
          clear hKC KC
          try simp only [List.getElem_toArray, List.getElem_cons_succ, List.getElem_cons_zero, Act.put, List.setIfInBounds_toArray, List.set_cons_zero, List.set_cons_succ]
          refine zar (i := 8) (o := _) rfl (by kernel_rfl) (fun KC hKC => ?_)
          have b4:=bAl x3 (.cells rwZ.toArray 40)
          have X4 := zaz x3 rwZ.toArray 40
          refine zbz rfl 40 rfl zck ?_
          obtain ⟨x4, hx4⟩ : ∃ x, x = (x3.alloc (.cells rwZ.toArray 40)) := ⟨_, rfl⟩
          rw [← hx4] at b4 X4 ⊢
          clear hx4
          have z4 := b4.size
          have y4 : x3.heap.size < x4.heap.size := X4.lt
          have bb4 : Below w14.heap.size w14 x4 := bb3.trans (b4.mono bb3.size)
          refine hKC.out _ _ (KS _ bb4) (fun hHeld => ?_)
          clear hKC KC
          try simp only [List.getElem_toArray, List.getElem_cons_succ, List.getElem_cons_zero, Act.put, List.setIfInBounds_toArray, List.set_cons_zero, List.set_cons_succ]
          have oS := (ow3).call b4
          have bX := X4
          have hl := oS.len.trans zf2
          have h1 := oS.one
          refine za8 (o := _) rfl (by kernel_rfl) (by kernel_rfl) rfl rfl 40 (.tmp 19) (.tmp 94) rfl (x3.heap.size) ?_ (cs := cS) (old := rwZ) ?_ bX zaw hl rfl h1 ?_
          · simp [Act.eval, Act.put]
          · simp [Act.eval, Act.put]
          intro w9 X9 C9 z9
          try simp only [List.getElem_toArray, List.getElem_cons_succ, List.getElem_cons_zero, Act.put, List.setIfInBounds_toArray, List.set_cons_zero, List.set_cons_succ]
          have zB := B0.size
          have z0 := bb4.size
          have HF : Hid (Box w9 (x3.heap.size) cS.toArray 40 ∧ OwnT zah w9 (x2.heap.size) (x3.heap.size) q cS ∧ Below w14.heap.size w14 w9 ∧ w14.heap.size ≤ x3.heap.size ∧ x3.heap.size < w9.heap.size ∧ w14.heap.size ≤ x2.heap.size ∧ x3.heap.size ≤ w9.heap.size ∧ (x3.heap.size < x2.heap.size ∨ x3.heap.size ≤ x3.heap.size)) := ⟨X9, oS.chgk C9 (fun b hb => by simp only [List.mem_cons, List.not_mem_nil, or_false] at hb; omega), bb4.trans (C9.bel (fun b hb => by simp only [List.mem_cons, List.not_mem_nil, or_false] at hb; omega) bb4.size), by omega, by omega, by omega, by omega, by omega⟩
          clear oS X9 C9 KS bX hl h1
          go_wp2
          go_meet
          exact ⟨_, _, _, _, rfl, HF.out⟩
        · have b5:=bAl x2 (.cells rwZ.toArray 40)
          have X5 := zaz x2 rwZ.toArray 40
          refine zbz rfl 40 rfl zck ?_
          obtain ⟨x5, hx5⟩ : ∃ x, x = (x2.alloc (.cells rwZ.toArray 40)) := ⟨_, rfl⟩
          rw [← hx5] at b5 X5 ⊢
          clear hx5
          have z5 := b5.size
          have y5 : x2.heap.size < x5.heap.size := X5.lt
          have bb5 : Below w14.heap.size w14 x5 := bb2.trans (b5.mono bb2.size)
          refine hKC.out _ _ (KS _ bb5) (fun hHeld => ?_)
          clear hKC KC
          try simp only [List.getElem_toArray, List.getElem_cons_succ, List.getElem_cons_zero, Act.put, List.setIfInBounds_toArray, List.set_cons_zero, List.set_cons_succ]
          refine zar (i := 7) (o := _) rfl (by kernel_rfl) (fun KC hKC => ?_)
          refine zay rfl 10 _ _ rfl #[.agg cA.toArray, .int .i64 i0, .int .i64 i1, .int .i64 i2, .agg cB.toArray] ?_ Tryz.func10 (by kernel_rfl) (by kernel_rfl) (CI cA cB x5.heap.size x5 ((((ow1).call b2).call b5).weaken (Nat.le_refl _) (by omega)).rd (((ow2).call b5).weaken (Nat.le_refl _) (by omega)).rd (Nat.le_refl _)) ?_
          · simp [Act.eval, Act.put]
          rintro ee x6 ⟨cS, rfl, ow6, b6⟩
          have z6 := b6.size
          have bb6 : Below w14.heap.size w14 x6 := bb5.trans (b6.mono bb5.size)
          refine ⟨_, rfl, ?_⟩
          refine hKC.out _ _ (KS _ bb6) (fun hHeld => ?_)
          clear hKC KC
          try simp only [List.getElem_toArray, List.getElem_cons_succ, List.getElem_cons_zero, Act.put, List.setIfInBounds_toArray, List.set_cons_zero, List.set_cons_succ]
          have oS := ow6
          have bX := (X5).call b6
          have hl := oS.len.trans zf2
          have h1 := oS.one
          refine za8 (o := _) rfl (by kernel_rfl) (by kernel_rfl) rfl rfl 40 (.tmp 19) (.tmp 94) rfl (x2.heap.size) ?_ (cs := cS) (old := rwZ) ?_ bX zaw hl rfl h1 ?_
          · simp [Act.eval, Act.put]
          · simp [Act.eval, Act.put]
          intro w9 X9 C9 z9
          try simp only [List.getElem_toArray, List.getElem_cons_succ, List.getElem_cons_zero, Act.put, List.setIfInBounds_toArray, List.set_cons_zero, List.set_cons_succ]
          have zB := B0.size
          have z0 := bb6.size
          have HF : Hid (Box w9 (x2.heap.size) cS.toArray 40 ∧ OwnT zah w9 (x5.heap.size) (x6.heap.size) q cS ∧ Below w14.heap.size w14 w9 ∧ w14.heap.size ≤ x2.heap.size ∧ x2.heap.size < w9.heap.size ∧ w14.heap.size ≤ x5.heap.size ∧ x6.heap.size ≤ w9.heap.size ∧ (x2.heap.size < x5.heap.size ∨ x6.heap.size ≤ x2.heap.size)) := ⟨X9, oS.chgk C9 (fun b hb => by simp only [List.mem_cons, List.not_mem_nil, or_false] at hb; omega), bb6.trans (C9.bel (fun b hb => by simp only [List.mem_cons, List.not_mem_nil, or_false] at hb; omega) bb6.size), by omega, by omega, by omega, by omega, by omega⟩
          clear oS X9 C9 KS bX hl h1
          go_wp2
          go_meet
          exact ⟨_, _, _, _, rfl, HF.out⟩
      · have b7:=bAl x1 (.cells rwZ.toArray 40)
        have X7 := zaz x1 rwZ.toArray 40
        refine zbz rfl 40 rfl zck ?_
        obtain ⟨x7, hx7⟩ : ∃ x, x = (x1.alloc (.cells rwZ.toArray 40)) := ⟨_, rfl⟩
        rw [← hx7] at b7 X7 ⊢
        clear hx7
        have z7 := b7.size
        have y7 : x1.heap.size < x7.heap.size := X7.lt
        have bb7 : Below w14.heap.size w14 x7 := bb1.trans (b7.mono bb1.size)
        refine hKC.out _ _ (KS _ bb7) (fun hHeld => ?_)
        clear hKC KC
        try simp only [List.getElem_toArray, List.getElem_cons_succ, List.getElem_cons_zero, Act.put, List.setIfInBounds_toArray, List.set_cons_zero, List.set_cons_succ]
        refine zar (i := 6) (o := _) rfl (by kernel_rfl) (fun KC hKC => ?_)
        refine zay rfl 9 _ _ rfl #[.agg #[.int .i64 r.stamp, .slice o1 r.bytes.1 k1]] ?_ Tryz.func9 (by kernel_rfl) (by kernel_rfl) (CT2b x7 bb7) ?_
        · simp [Act.eval, Act.put]
        rintro ee x8 ⟨cB, rfl, ow8, b8⟩
        have z8 := b8.size
        have bb8 : Below w14.heap.size w14 x8 := bb7.trans (b8.mono bb7.size)
        refine ⟨_, rfl, ?_⟩
        refine hKC.out _ _ (KS _ bb8) (fun hHeld => ?_)
        clear hKC KC
        try simp only [List.getElem_toArray, List.getElem_cons_succ, List.getElem_cons_zero, Act.put, List.setIfInBounds_toArray, List.set_cons_zero, List.set_cons_succ]
        refine zar (i := 7) (o := _) rfl (by kernel_rfl) (fun KC hKC => ?_)
        refine zay rfl 10 _ _ rfl #[.agg cA.toArray, .int .i64 i0, .int .i64 i1, .int .i64 i2, .agg cB.toArray] ?_ Tryz.func10 (by kernel_rfl) (by kernel_rfl) (CI cA cB x8.heap.size x8 ((((ow1).call b7).call b8).weaken (Nat.le_refl _) (by omega)).rd ((ow8).weaken (Nat.le_refl _) (by omega)).rd (Nat.le_refl _)) ?_
        · simp [Act.eval, Act.put]
        rintro ee x9 ⟨cS, rfl, ow9, b9⟩
        have z9 := b9.size
        have bb9 : Below w14.heap.size w14 x9 := bb8.trans (b9.mono bb8.size)
        refine ⟨_, rfl, ?_⟩
        refine hKC.out _ _ (KS _ bb9) (fun hHeld => ?_)
        clear hKC KC
        try simp only [List.getElem_toArray, List.getElem_cons_succ, List.getElem_cons_zero, Act.put, List.setIfInBounds_toArray, List.set_cons_zero, List.set_cons_succ]
        have oS := ow9
        have bX := ((X7).call b8).call b9
        have hl := oS.len.trans zf2
        have h1 := oS.one
        refine za8 (o := _) rfl (by kernel_rfl) (by kernel_rfl) rfl rfl 40 (.tmp 19) (.tmp 94) rfl (x1.heap.size) ?_ (cs := cS) (old := rwZ) ?_ bX zaw hl rfl h1 ?_
        · simp [Act.eval, Act.put]
        · simp [Act.eval, Act.put]
        intro w9 X9 C9 z9
        try simp only [List.getElem_toArray, List.getElem_cons_succ, List.getElem_cons_zero, Act.put, List.setIfInBounds_toArray, List.set_cons_zero, List.set_cons_succ]
        have zB := B0.size
        have z0 := bb9.size
        have HF : Hid (Box w9 (x1.heap.size) cS.toArray 40 ∧ OwnT zah w9 (x8.heap.size) (x9.heap.size) q cS ∧ Below w14.heap.size w14 w9 ∧ w14.heap.size ≤ x1.heap.size ∧ x1.heap.size < w9.heap.size ∧ w14.heap.size ≤ x8.heap.size ∧ x9.heap.size ≤ w9.heap.size ∧ (x1.heap.size < x8.heap.size ∨ x9.heap.size ≤ x1.heap.size)) := ⟨X9, oS.chgk C9 (fun b hb => by simp only [List.mem_cons, List.not_mem_nil, or_false] at hb; omega), bb9.trans (C9.bel (fun b hb => by simp only [List.mem_cons, List.not_mem_nil, or_false] at hb; omega) bb9.size), by omega, by omega, by omega, by omega, by omega⟩
        clear oS X9 C9 KS bX hl h1
        go_wp2
        go_meet
        exact ⟨_, _, _, _, rfl, HF.out⟩
    · have b10:=bAl w14.drew (.cells rwZ.toArray 40)
      have X10 := zaz w14.drew rwZ.toArray 40
      refine zbz rfl 40 rfl zck ?_
      obtain ⟨x10, hx10⟩ : ∃ x, x = (w14.drew.alloc (.cells rwZ.toArray 40)) := ⟨_, rfl⟩
      rw [← hx10] at b10 X10 ⊢
      clear hx10
      have z10 := b10.size
      have y10 : w14.drew.heap.size < x10.heap.size := X10.lt
      have bb10 : Below w14.heap.size w14 x10 := B0.trans (b10.mono B0.size)
      refine hKC.out _ _ (KS _ bb10) (fun hHeld => ?_)
      clear hKC KC
      try simp only [List.getElem_toArray, List.getElem_cons_succ, List.getElem_cons_zero, Act.put, List.setIfInBounds_toArray, List.set_cons_zero, List.set_cons_succ]
      refine zar (i := 1) (o := _) rfl (by kernel_rfl) (fun KC hKC => ?_)
      refine zay rfl 8 _ _ rfl #[.agg (rwV v0 v1 v2 v3 v4 v5 v6 v7 v8 vp0 vl0 vq0 vp1 vl1 vq1 vp2 vl2 vq2 v9 v10 vb).toArray] ?_ Tryz.func8 (by kernel_rfl) (by kernel_rfl) (CTb x10 bb10) ?_
      · simp [Act.eval, Act.put]
      rintro ee x11 ⟨cA, rfl, ow11, b11⟩
      have z11 := b11.size
      have bb11 : Below w14.heap.size w14 x11 := bb10.trans (b11.mono bb10.size)
      refine ⟨_, rfl, ?_⟩
      refine hKC.out _ _ (KS _ bb11) (fun hHeld => ?_)
      clear hKC KC
      try simp only [List.getElem_toArray, List.getElem_cons_succ, List.getElem_cons_zero, Act.put, List.setIfInBounds_toArray, List.set_cons_zero, List.set_cons_succ]
      refine zar (i := 6) (o := _) rfl (by kernel_rfl) (fun KC hKC => ?_)
      refine zay rfl 9 _ _ rfl #[.agg #[.int .i64 r.stamp, .slice o1 r.bytes.1 k1]] ?_ Tryz.func9 (by kernel_rfl) (by kernel_rfl) (CT2b x11 bb11) ?_
      · simp [Act.eval, Act.put]
      rintro ee x12 ⟨cB, rfl, ow12, b12⟩
      have z12 := b12.size
      have bb12 : Below w14.heap.size w14 x12 := bb11.trans (b12.mono bb11.size)
      refine ⟨_, rfl, ?_⟩
      refine hKC.out _ _ (KS _ bb12) (fun hHeld => ?_)
      clear hKC KC
      try simp only [List.getElem_toArray, List.getElem_cons_succ, List.getElem_cons_zero, Act.put, List.setIfInBounds_toArray, List.set_cons_zero, List.set_cons_succ]
      refine zar (i := 7) (o := _) rfl (by kernel_rfl) (fun KC hKC => ?_)
      refine zay rfl 10 _ _ rfl #[.agg cA.toArray, .int .i64 i0, .int .i64 i1, .int .i64 i2, .agg cB.toArray] ?_ Tryz.func10 (by kernel_rfl) (by kernel_rfl) (CI cA cB x12.heap.size x12 (((ow11).call b12).weaken (Nat.le_refl _) (by omega)).rd ((ow12).weaken (Nat.le_refl _) (by omega)).rd (Nat.le_refl _)) ?_
      · simp [Act.eval, Act.put]
      rintro ee x13 ⟨cS, rfl, ow13, b13⟩
      have z13 := b13.size
      have bb13 : Below w14.heap.size w14 x13 := bb12.trans (b13.mono bb12.size)
      refine ⟨_, rfl, ?_⟩
      refine hKC.out _ _ (KS _ bb13) (fun hHeld => ?_)
      clear hKC KC
      try simp only [List.getElem_toArray, List.getElem_cons_succ, List.getElem_cons_zero, Act.put, List.setIfInBounds_toArray, List.set_cons_zero, List.set_cons_succ]
      have oS := ow13
      have bX := (((X10).call b11).call b12).call b13
      have hl := oS.len.trans zf2
      have h1 := oS.one
      refine za8 (o := _) rfl (by kernel_rfl) (by kernel_rfl) rfl rfl 40 (.tmp 19) (.tmp 94) rfl (w14.drew.heap.size) ?_ (cs := cS) (old := rwZ) ?_ bX zaw hl rfl h1 ?_
      · simp [Act.eval, Act.put]
      · simp [Act.eval, Act.put]
      intro w9 X9 C9 z9
      try simp only [List.getElem_toArray, List.getElem_cons_succ, List.getElem_cons_zero, Act.put, List.setIfInBounds_toArray, List.set_cons_zero, List.set_cons_succ]
      have zB := B0.size
      have z0 := bb13.size
      have HF : Hid (Box w9 (w14.drew.heap.size) cS.toArray 40 ∧ OwnT zah w9 (x12.heap.size) (x13.heap.size) q cS ∧ Below w14.heap.size w14 w9 ∧ w14.heap.size ≤ w14.drew.heap.size ∧ w14.drew.heap.size < w9.heap.size ∧ w14.heap.size ≤ x12.heap.size ∧ x13.heap.size ≤ w9.heap.size ∧ (w14.drew.heap.size < x12.heap.size ∨ x13.heap.size ≤ w14.drew.heap.size)) := ⟨X9, oS.chgk C9 (fun b hb => by simp only [List.mem_cons, List.not_mem_nil, or_false] at hb; omega), bb13.trans (C9.bel (fun b hb => by simp only [List.mem_cons, List.not_mem_nil, or_false] at hb; omega) bb13.size), by omega, by omega, by omega, by omega, by omega⟩
      clear oS X9 C9 KS bX hl h1
      go_wp2
      go_meet
      exact ⟨_, _, _, _, rfl, HF.out⟩
  case rest =>
  obtain ⟨bH, lH, hH, cH, rfl, H17, OH17, b17, t1, t2, t3, t4, t5⟩ := hcut
  obtain ⟨W17, rfl⟩ : ∃ x, x = wc := ⟨_, rfl⟩
  obtain ⟨hc, h0, h1, h2, h3, h4, h5, h6, h7, h8, hp0, hl0, hq0, hp1, hl1, hq1, hp2, hl2, hq2, h9, h10, hb, rfl⟩ := zg6 OH17.rd
  have z17 : w14.heap.size ≤ W17.heap.size := b17.size
  have B17 := B14.out.trans (b17.mono (by omega))
  have S17 := S14.out.call b17
  have OS17 := OS14.out.call b17
  have G17 := G14.out.call b17
  have OG17 := OG14.out.call b17
  clear b17 B14 S14 OS14 G14 OG14 P14 CTb CT2b
  go_wp2_with (first | (refine zam 40 (.tmp 19) rfl rfl (bH) rfl H17 Tryz.underlying40 zaw rfl ?_) | (refine zam 40 (.tmp 12) rfl rfl (bS) rfl S17 Tryz.underlying40 zaw rfl ?_))
  refine (CE _ _ _ _ _ OH17.rd OS17.rd (by omega) (by omega)).mono ?_
  rintro e w18 ⟨rfl, b18⟩
  have z18 : W17.heap.size ≤ w18.heap.size := b18.size
  have B18 := B17.trans (b18.mono (by omega))
  have G18 := G17.call b18
  have OG18 := OG17.call b18
  clear b18 B17 S17 OS17 G17 OG17 OH17 H17
  go_wp2_with (refine zam 40 (.tmp 15) rfl rfl (w7.heap.size) rfl G18 Tryz.underlying40 zaw rfl ?_)
  refine (CH _ _ _ OG18.rd (by omega)).mono ?_
  rintro e w19 ⟨rfl, b19⟩
  have HB : Hid (Below w.heap.size w w19) := (HT1.out.call (B18.trans (b19.mono (by omega)))).bel
  clear b19 B18 G18 OG18
  go_wp2
  go_ret
  exact ⟨rfl, HB.out⟩
set_option maxRecDepth 100000 in
theorem zce (os : Os) (started : os.Started) (H : Type) (enc : TypeId × Value → H) :
    ReturnsInHanded {} Tryz.checked os 3 .any (Rows.fnExactWriteBlockSpec.pre6 enc Tryz.prog Tryz.f3 Rows.fnExactWriteBlockRow.domain false) (Rows.fnExactWriteBlockSpec.post enc Tryz.prog Tryz.f3 false true false false) := by
  refine returnsInHanded_of_change (C := Tryz.checked) zhE started (by kernel_rfl) Tryz.func3
    (ChangeSpec.witness6 (enc := enc) (C := Tryz.checked) false ⟨#[], #[.agg (rwV 0 0 0 0 0 0 0 0 0 none 0 0 none 0 0 none 0 0 0 0 false).toArray, .int .i64 0, .int .i64 0, .int .i64 0, .agg #[.int .i64 0, .slice none 0 0]], []⟩ 8 (by kernel_rfl) (by kernel_rfl) (by kernel_rfl) (by kernel_rfl)) ?_
  intro W base args ds gs before hval0 hW hcnd _
  have hval : ∀ (j : Nat) t v, Tryz.f3.params[j]? = some t → args[j]? = some v → Value.okWide Tryz.prog W .any base t v := hval0
  have hW' := hW
  obtain ⟨p, q, hA0, hV, rfl, hfz, hnd⟩ := hW
  have hA : DataW.TrodAll enc Tryz.prog W 0 (fun _ => true) true Tryz.f3.params.toList args.toList ds p := hA0
  rw [Tryz.params3] at hA hval
  obtain ⟨v0, vs0, d0, ds0, p0, q0, hargs, rfl, rfl, h0, r0⟩ := trodAll_cons hA
  obtain ⟨v1, vs1, d1, ds1, p1, q1, rfl, rfl, rfl, h1, r1⟩ := trodAll_cons r0
  obtain ⟨v2, vs2, d2, ds2, p2, q2, rfl, rfl, rfl, h2, r2⟩ := trodAll_cons r1
  obtain ⟨v3, vs3, d3, ds3, p3, q3, rfl, rfl, rfl, h3, r3⟩ := trodAll_cons r2
  obtain ⟨v4, vs4, d4, ds4, p4, q4, rfl, rfl, rfl, h4, r4⟩ := trodAll_cons r3
  obtain ⟨rfl, rfl, rfl⟩ := trodAll_nil r4
  obtain rfl : args = #[v0, v1, v2, v3, v4] := by cases args; simp_all
  obtain ⟨rfl, rfl⟩ := trodVars_none hV
  have k0 := h0
  have lt0 : ∀ x ∈ p0, x.block < W.heap.size := by obtain ⟨m, hm⟩ := k0; exact DataW.trod_lt m _ _ _ hm
  have k4 := h4
  have lt4 : ∀ x ∈ p4, x.block < W.heap.size := by obtain ⟨m, hm⟩ := k4; exact DataW.trod_lt m _ _ _ hm
  obtain ⟨cs0, a0, rfl, rd0⟩ := zcV zhd Tryz.underlying28 (hval 0 28 v0 rfl rfl) h0
  obtain ⟨n1, rfl, rfl, rfl, hn1⟩ := open_int Tryz.underlying2 (hval 1 2 v1 rfl rfl) h1
  obtain ⟨n2, rfl, rfl, rfl, hn2⟩ := open_int Tryz.underlying2 (hval 2 2 v2 rfl rfl) h2
  obtain ⟨n3, rfl, rfl, rfl, hn3⟩ := open_int Tryz.underlying2 (hval 3 2 v3 rfl rfl) h3
  obtain ⟨cs4, a4, rfl, rd4⟩ := zcV zet Tryz.underlying31 (hval 4 31 v4 rfl rfl) h4
  clear hA0 hval0
  refine (zcy a0 cs0 n1 n2 n3 a4 cs4 W rd0 (bounds_i64 hn1) (bounds_i64 hn2) (bounds_i64 hn3) rd4).mono fun e W' ⟨he, bel⟩ => ?_
  subst he
  exact ⟨_, rfl, _, _, _, [], _, [], hW', trodAll_mk1 (shut_bool Tryz.underlying4 _), (trodAll_cons_mk (Below.trod zes (by kernel_rfl) (of_decide_eq_true (by kernel_rfl)) k0 bel lt0) (trodAll_cons_mk (shut_int Tryz.underlying2 hn1) (trodAll_cons_mk (shut_int Tryz.underlying2 hn2) (trodAll_cons_mk (shut_int Tryz.underlying2 hn3) (trodAll_cons_mk (Below.trod zes (by kernel_rfl) (of_decide_eq_true (by kernel_rfl)) k4 bel lt4) trodAll_mk0))))), rfl, bel.frame _, fun h => by cases h⟩
end Go.Proofs.YtonemlgejkapbaaGreat
