/- l7Append of the specification. -/
import Derived.Test.YthbpmbgfddpffaaGreatZPcleanas
set_option linter.unusedVariables false
set_option linter.unusedSimpArgs false
set_option maxHeartbeats 16000000
namespace Go.Proofs.YthbpmbgfddpffaaGreat
open Go.RowKit F256
set_option maxRecDepth 20000 in
theorem ziC (v0 v1 v2 v3 v4 v5 v6 v7 v8 vp0 vl0 vq0 vp1 vl1 vq1 vp2 vl2 vq2 v9 v10 vb:_) (b:Bool) (w:World) (h1:∀ x,x∈([.int .i64 v0,.int .i64 v1,.int .i64 v2,.int .i64 v3,.int .i64 v4,.int .i64 v5,.int .i64 v6,.int .i64 v7,.int .i64 v8,.slice vp0 vl0 vq0,.slice vp1 vl1 vq1,.slice vp2 vl2 vq2,.int .i64 v9,.int .i64 v10,.bool vb]:List Value)→x.oneCell'=true) :
 Calls Tryz.prog 19 #[.agg #[.int .i64 v0,.int .i64 v1,.int .i64 v2,.int .i64 v3,.int .i64 v4,.int .i64 v5,.int .i64 v6,.int .i64 v7,.int .i64 v8,.slice vp0 vl0 vq0,.slice vp1 vl1 vq1,.slice vp2 vl2 vq2,.int .i64 v9,.int .i64 v10,.bool vb],.bool b] w fun e w'=>e=.returned (.agg #[.int .i64 (if b=true then 0 else 9),.int .i64 v0,.int .i64 v1,.int .i64 v2,.int .i64 v3,.int .i64 v4,.int .i64 v5,.int .i64 v6,.int .i64 v7,.int .i64 v8,.slice vp0 vl0 vq0,.slice vp1 vl1 vq1,.slice vp2 vl2 vq2,.int .i64 v9,.int .i64 v10,.bool vb])∧Below w.heap.size w w':=by
 have T0:=zaz w (rwV v0 v1 v2 v3 v4 v5 v6 v7 v8 vp0 vl0 vq0 vp1 vl1 vq1 vp2 vl2 vq2 v9 v10 vb).toArray rwZ.toArray 34 36
 have o0:∀ c:Int,∀ x,x∈((.int .i64 c::rwV v0 v1 v2 v3 v4 v5 v6 v7 v8 vp0 vl0 vq0 vp1 vl1 vq1 vp2 vl2 vq2 v9 v10 vb):List Value)→x.oneCell'=true:=fun c x hx=>by
  rcases List.mem_cons.1 hx with rfl | h
  ·rfl
  ·exact h1 x h
 clear h1
 cases b with
 | true=>
  go_enter Tryz.func19,Tryz.ntmps19
  go_wp2_with (first | (refine zav 34 (.tmp 2) rfl rfl (w.heap.size) rfl (T0.b1) Tryz.underlying34 zbL rfl ?_) | (refine zbb 36 _ _ rfl rfl (w.heap.size+1) rfl (cs:=(.int .i64 0::rwV v0 v1 v2 v3 v4 v5 v6 v7 v8 vp0 vl0 vq0 vp1 vl1 vq1 vp2 vl2 vq2 v9 v10 vb)) rfl T0.b2 za3 rfl rfl (o0 0) ?_;intro w9 X9 C9 z9))
  refine zcz Tryz.results19 rfl X9 Tryz.underlying36 za3 rfl rfl ?_;exact ⟨rfl,T0.bel.trans (C9.bel (fun b hb=>by simp at hb;omega) T0.bel.size)⟩
 | false=>
  go_enter Tryz.func19,Tryz.ntmps19
  go_wp2_with (first | (refine zav 34 (.tmp 2) rfl rfl (w.heap.size) rfl (T0.b1) Tryz.underlying34 zbL rfl ?_) | (refine zbb 36 _ _ rfl rfl (w.heap.size+1) rfl (cs:=(.int .i64 9::rwV v0 v1 v2 v3 v4 v5 v6 v7 v8 vp0 vl0 vq0 vp1 vl1 vq1 vp2 vl2 vq2 v9 v10 vb)) rfl T0.b2 za3 rfl rfl (o0 9) ?_;intro w9 X9 C9 z9))
  refine zcz Tryz.results19 rfl X9 Tryz.underlying36 za3 rfl rfl ?_;exact ⟨rfl,T0.bel.trans (C9.bel (fun b hb=>by simp at hb;omega) T0.bel.size)⟩
theorem SpP.after {o:Outc} {B:Nat} {w w1 w2:World} {K K1:List Nat} {e:Ending} (hk:∀ b,b∈K1→b∈K∨w.heap.size≤b) (hc:ChgL (B::K) w w1) (h:SpP o B w1 K1 e w2):SpP o B w K e w2:=by
 have hz:=hc.size
 cases o with
 | done c d=>
  obtain ⟨h1,K',h2,h3,h4⟩:=h
  exact ⟨h1,K',h2,fun b hb=>by
   rcases h3 b hb with h | h
   ·exact hk b h
   ·exact .inr (by omega),zcj hc hk h4⟩
 | cut d=>
  obtain ⟨h1,K',h2,h3,h4⟩:=h
  exact ⟨h1,K',h2,fun b hb=>by
   rcases h3 b hb with h | h
   ·exact hk b h
   ·exact .inr (by omega),zcj hc hk h4⟩
theorem SpB.below {w w':World} {B:Nat} {d:WorldD} {K:List Nat} (h:SpB w B d K) (hb:Below w.heap.size w w'):SpB w' B d K:=by
 obtain ⟨cs,h1,h2⟩:=h;exact ⟨cs,h1.below hb h1.lt,Lay.own_kept _ h2.own (fun b hk=>hb.block b (zae.own_lt h2.own b hk)),h2.nd,h2.ne⟩
theorem SpB.Klt {w:World} {B:Nat} {d:WorldD} {K:List Nat} (h:SpB w B d K):∀ b,b∈K→b<w.heap.size:=by
 obtain ⟨cs,_,h2⟩:=h;exact fun b hb=>zae.own_lt h2.own b hb
noncomputable def undOf (d:WorldD) (t:Int) (l:List Nat):Nat×(Nat→RecD):=((zbU (und d.shape t (fun i=>recT d.tapes.2 2 (l.getD i 0)) l.length) l.length).length,fun i=>recT d.tapes.2 2 (l.getD (zck (und d.shape t (fun i=>recT d.tapes.2 2 (l.getD i 0)) l.length) l.length i) 0))
theorem not_eq {a b:Bool} (h:(!a)=b):a=!b:=by subst h;simp
theorem zms {w:World} {lo hi g n cap:Nat} {x:Nat→RecD} {ce:Nat→List Value} (V:View zab 85 w lo hi (.slice (some ⟨g,0,none⟩) n cap) n x ce) {i:Nat} (hi':i<n) :
 w.cell? ⟨g,i*9,none⟩=some (.int .i64 (x i).kind)∧w.cell? ⟨g,i*9+1,none⟩=some (.int .i64 (x i).seq):=by
 obtain ⟨ao6,cap6,ao7,cap7,ao8,cap8,ec,-⟩:=zaD (V.each i hi');have h0:=V.cell hi' (show 0<zab.sz by decide);have h1:=V.cell hi' (show 1<zab.sz by decide);rw [ec] at h0 h1;exact ⟨h0,h1⟩
theorem zm4 {cs:List Value} (h:cs.length=9):(Tryz.prog.info? 30).map (·.size)=some cs.length:=by rw [h];kernel_rfl
theorem zc2 {n:Nat} {args:Array Value} {w:World} {R:Ending→World→Prop} (h:Calls Tryz.prog n args w R):Calls Tryz.prog n (args++#[]) w R:=by rw [Array.append_empty];exact h
set_option maxRecDepth 100000 in
theorem zjE (B:Nat) (d:WorldD) (K:List Nat) (w:World) (hX:SpB w B d K) (hf:FitC d) :
 Calls Tryz.prog 18 #[.pointer (some ⟨B,0,none⟩)] w (SpP (za0 d) B w K):=by
 have HX:=hid hX;have HF:=hid hf;have zB:=hX.lt;have HKLT:=hid hX.Klt;obtain ⟨cs,hBx,hO⟩:=hX;obtain ⟨ao1,cap1,ao2,cap2,ao3,cap3,rfl,-⟩:=zaV hO.T.rd;have rdw:zae.rd w w.heap.size d (rwW d ao1 cap1 ao2 cap2 ao3 cap3):=hO.T.rd;have h2:d.tapes.1=2:=hf.1.form.2.2;have hn0:(d.tapes.2 0).recs.1≤400000:=Nat.le_trans (hf.1.few 0 (by omega)) (by decide);have hn1:(d.tapes.2 1).recs.1≤400000:=Nat.le_trans (hf.1.few 1 (by omega)) (by decide);have bD:Below w.heap.size w w.drew:=⟨rfl,rfl,rfl,Nat.le_refl _,fun _ _=>rfl⟩;have BXD:Box w.drew B (rwW d ao1 cap1 ao2 cap2 ao3 cap3).toArray 34:=hBx;have CC0:=zhd d (rwW d ao1 cap1 ao2 cap2 ao3 cap3) w.heap.size B w.drew (zae.rd_below rdw bD (Nat.le_refl _)) (Nat.le_refl _) BXD h2 hn0 hn1;have CC:=zc2 CC0;have hkd:∀ {l:List Nat},Cnt (recT d.tapes.2 2) (lenT d.tapes.2 2) l→∀ i,i<l.length→InP (recT d.tapes.2 2 (l.getD i 0)).kind 1 4:=fun hCt i hi'=>zjt hf.1 ((hCt.mem _).1 (by rw [zdH hi'];exact List.getElem_mem hi')).1;obtain ⟨cS,hcS⟩:∃ c:List Value,c=(rwS d.shape):=⟨_,rfl⟩;have HCS:=hid hcS
 have hlS:cS.length=9:=by rw [hcS];rfl
 have rng:∀ W,Box W B (rwW d ao1 cap1 ao2 cap2 ao3 cap3).toArray 34→W.rangeAt B 0 cS:=fun W hW j v hv=>by
  rw [hcS] at hv;rw [Nat.zero_add];have hj:j<9:=(List.getElem?_eq_some_iff.1 hv).1;refine (hW.cell j).trans ?_;rw [← hv]
  match j,hj with
  | 0,_=>rfl
  | 1,_=>rfl
  | 2,_=>rfl
  | 3,_=>rfl
  | 4,_=>rfl
  | 5,_=>rfl
  | 6,_=>rfl
  | 7,_=>rfl
  | 8,_=>rfl
 have HRNG:=hid rng;have rS:=rng _ BXD;clear hcS rng CC0 hf hO rdw
 go_enter Tryz.func18,Tryz.ntmps18
 go_upto_region 1 with fail
 refine zay 6 (fun w'=>w'.rangeAt B 0 cS) zgA rS (fun hHeld=>?_);refine zn9 0 rfl ?_
 try simp only [Act.put,SL]
 refine zoa 1 rfl ?_
 try simp only [Act.put,SL]
 refine zn9 2 rfl ?_
 try simp only [Act.put,SL]
 refine zaf (i:=3) (oi:=_) 16 rfl (by kernel_rfl) (fun _ _ _ h=>h) (yieldsIf_load_mid (by kernel_rfl) 30 (.tmp 7) rfl B (0) (by simp [Act.eval,Act.put]) cS _ (fun w h=>h) Tryz.underlying30 rfl (zm4 hlS)) (by assumption) ?_
 try simp only [Act.put,SL]
 refine zn9 4 rfl ?_
 try simp only [Act.put,SL]
 refine zbo (i:=5) (o:=_) rfl (by kernel_rfl) (fun KC hKC=>?_);refine zaQ (by kernel_rfl) (.func 41) 41 #[] _ _ rfl (by simp [Act.eval,Act.put]) #[.pointer (some ⟨B,0,none⟩)] (by simp [Act.eval,Act.put]) Tryz.func41 (by kernel_rfl) (by kernel_rfl) CC ?_;rintro e w2 ⟨v2,l,ce,lo2,rfl,hCt,hlo2,V,b2⟩;refine ⟨_,rfl,?_⟩;have BX2:Box w2 B (rwW d ao1 cap1 ao2 cap2 ao3 cap3).toArray 34:=BXD.below b2 zB;refine hKC _ _ (HRNG.out _ BX2) ?_;clear hKC KC
 try simp only [Act.put,SL]
 obtain rfl:=zmm hCt;have z2:w.heap.size≤w2.heap.size:=b2.size
 have hlen:(cntL d).length≤1000000:=by
  have h1:=(hCt.sum (fun _=>0)).2
  have e2:lenT d.tapes.2 2=(d.tapes.2 0).recs.1+(d.tapes.2 1).recs.1:=by simp [lenT]
  omega
 have CU0:=zjD d.shape HF.out.1.shape v2 (cntL d).length (clnX d) w2.heap.size w2 (V.rd z2) (Nat.le_refl _) (by omega) (hkd hCt);rw [show zal d.shape=.agg cS.toArray by rw [HCS.out];rfl] at CU0;have CU:=zc2 CU0;have HB2:=hid (bD.trans b2);clear CU0 V b2 CC rS bD hCt hkd BX2;refine zas (i:=6) (o:=_) rfl (by kernel_rfl) (by kernel_rfl) (fun KC hKC=>?_);refine zaQ (by kernel_rfl) (.func 40) 40 #[] _ _ rfl (by simp [Act.eval,Act.put]) #[.agg cS.toArray,v2] (by simp [Act.eval,Act.put]) Tryz.func40 (by kernel_rfl) (by kernel_rfl) CU ?_;rintro e w5 ⟨u,cu,rfl,V5,-,b5⟩;refine ⟨_,rfl,?_⟩;refine hKC _ _ ?_;clear hKC KC
 try simp only [Act.put,SL]
 refine znS 7 (v:=?_) rfl ?_ ?_
 rotate_left
 ·intro w' hSw;go_simp;try with_reducible rfl
 try simp only [Act.put,SL]
 refine zar (by kernel_rfl) ?_ _;obtain ⟨m,hm⟩:∃ m,m=clnM d:=⟨_,rfl⟩;obtain ⟨Y,hY⟩:∃ Y,Y=clnY d:=⟨_,rfl⟩;have z5:w2.heap.size≤w5.heap.size:=b5.size
 have hm1:m≤1000000:=by rw [hm];exact Nat.le_trans (zhf _ _) hlen
 have V6:View zab 85 w5 (w2.heap.size+1) w2.heap.size u m Y cu:=by rw [hm,hY];exact V5
 have HB5:=hid (HB2.out.trans (b5.mono z2))
 have HCL:Hid (za0 d=runO (stkF (fun j=>Y (selF (cmpP Y) m j))) (zai (cmpP Y) m).length 0 d):=by rw [hm,hY];exact rfl
 have hKK:(zai (cmpP Y) m).length≤1000000:=by rw [hm,hY];exact zmp HF.out.1
 have X5:SpB w5 B d K:=HX.out.below HB5.out;have HX5:=hid X5;obtain ⟨au,cau,hu⟩:=V6.form;subst hu;have HV:=hid V6;have HFT:Hid (Fit2 (2*((zai (cmpP Y) m).length-(zai (cmpP Y) 0).length)) d):=HF.out.2.less (by omega)
 have HOO:Hid (runO (stkF (fun j=>Y (selF (cmpP Y) m j))) ((zai (cmpP Y) m).length-(zai (cmpP Y) 0).length) (zai (cmpP Y) 0).length d=za0 d):=by rw [HCL.out];rfl
 clear V5 V6 CU b5 hm hY X5 hHeld;go_wp2
 go_loopw [4] (fun z wr=>∃ (i:Nat) (d1:WorldD) (K1:List Nat),i≤m∧z=.int .i64 i∧SpB wr B d1 K1∧(∀ x,x∈K1→x∈K∨w5.heap.size≤x)∧ChgL (B::K) w5 wr∧Fit2 (2*((zai (cmpP Y) m).length-(zai (cmpP Y) i).length)) d1∧runO (stkF (fun j=>Y (selF (cmpP Y) m j))) ((zai (cmpP Y) m).length-(zai (cmpP Y) i).length) (zai (cmpP Y) i).length d1=za0 d) (fun z _=>m-(intOf z).toNat)
 case atStart=>exact ⟨0,d,K,Nat.zero_le _,rfl,HX5.out,fun x hx=>.inl hx,ChgL.refl _ _,HFT.out,HOO.out⟩
 case round=>
  clear HX5 HFT HOO;obtain ⟨i,d1,K1,him,rfl,hX1,hK1,hC1,hF1,hO1⟩:=hrel;have HX1:=hid hX1;have HK1:=hid hK1;have HC1:=hid hC1;have HF1:=hid hF1;have HO:=hid hO1;have zr:=hC1.size;have zw5:=HB5.out.size;clear hX1 hK1 hF1 hO1
  by_cases hlt:i<m
  ·obtain ⟨g,cg,hg⟩:=HV.out.form0 (by omega)
   have hau:au=some ⟨g,0,none⟩:=by cases hg;rfl
   subst hau;have hgb:=HV.out.row.lt g rfl
   have heq:wr.heap[g]?=w5.heap[g]?:=hC1.block g hgb.2 (fun h=>by
    rcases List.mem_cons.1 h with e | e
    ·omega
    ·have:=HKLT.out g e;omega)
   have HEQ:=hid heq;have hks:=zms HV.out hlt;have HKS:=hid hks
   have i1:(0:Int)≤(i:Int):=by omega
   have i2:(i:Int)<(m:Int):=by omega
   clear hg hC1
   go_upto_region 5 with fail
   go_cut [47] (fun cb wy=>∃ t:Bool,cb=.bool t∧t=!(cmpP Y i)∧Below wr.heap.size wr wy)
   case first=>
    by_cases h0:i=0
    ·have HP:Hid (cmpP Y i=true):=by rw [h0];exact rfl
     have j5:¬ ((0:Int)<(i:Int)):=by omega
     have j6:decide ((0:Int)<(i:Int))=false:=decide_eq_false j5;have j7:decide (0<i)=false:=decide_eq_false (by omega);clear heq hks h0;refine WQ.region (by kernel_rfl) (by kernel_rfl) ?_
     repeat (first | (apply WQ.skip;(case hw=>rfl);intro K hK;go_simp;apply hK;clear hK K) | (apply WQ.want;(case hw=>rfl);intro K hK;go_simp;first | (apply hK;clear hK K) | (apply Exists.intro;apply And.intro;(case left=>intro p;(first | fail));apply hK;clear hK K)))
     refine WQ.nil ?_;intro w7 hw7;have b7:=zaF hw7;clear hw7;go_wp2
     go_meet
     exact ⟨_,rfl,by rw [HP.out];rfl,b7⟩
    ·obtain ⟨j,hj⟩:∃ j,i=j+1:=⟨i-1,by omega⟩
     have hkj:=zms HV.out (show j<m by omega);have p0:wr.cell? ⟨g,i*9,none⟩=some (.int .i64 (Y i).kind):=(World.cell?_of_block (a:=⟨g,i*9,none⟩) heq).trans hks.1;have p1:wr.cell? ⟨g,i*9+1,none⟩=some (.int .i64 (Y i).seq):=(World.cell?_of_block (a:=⟨g,i*9+1,none⟩) heq).trans hks.2;have r0:wr.cell? ⟨g,j*9,none⟩=some (.int .i64 (Y j).kind):=(World.cell?_of_block (a:=⟨g,j*9,none⟩) heq).trans hkj.1;have r1:wr.cell? ⟨g,j*9+1,none⟩=some (.int .i64 (Y j).seq):=(World.cell?_of_block (a:=⟨g,j*9+1,none⟩) heq).trans hkj.2;have pk0:=cell_regrown p0;have pk1:=cell_regrown p1;have rk0:=cell_regrown r0;have rk1:=cell_regrown r1
     have j1:(0:Int)≤(j:Int):=by omega
     have j2:(j:Int)<(m:Int):=by omega
     have j5:(0:Int)<(i:Int):=by omega
     have j6:decide ((0:Int)<(i:Int))=true:=decide_eq_true j5;have j7:decide (0<i)=true:=decide_eq_true (by omega)
     have zs:IntKind.i64.wrap ((i:Int)-1)=(j:Int):=by rw [IntKind.wrap_i64];omega
     have HPE:Hid (cmpP Y i=!(zdL (Y i) (Y j))):=by rw [hj];exact rfl
     clear heq hks hkj h0 hj
     by_cases c1:(Y i).kind=(Y j).kind
     ·have c1d:((Y i).kind==(Y j).kind)=true:=by simp [c1]
      by_cases c2:(Y i).seq=(Y j).seq
      ·have c2d:((Y i).seq==(Y j).seq)=true:=by simp [c2]
       have HS:Hid (zdL (Y i) (Y j)=true):=decide_eq_true ⟨c1,c2⟩;clear c1 c2;refine WQ.region (by kernel_rfl) (by kernel_rfl) ?_
       repeat (first | (apply WQ.skip;(case hw=>rfl);intro K hK;go_simp;apply hK;clear hK K) | (apply WQ.want;(case hw=>rfl);intro K hK;go_simp;first | (apply hK;clear hK K) | (apply Exists.intro;apply And.intro;(case left=>intro p;(first | fail));apply hK;clear hK K)))
       refine WQ.nil ?_;intro w7 hw7;have b7:=zaF hw7;clear hw7;go_wp2
       go_meet
       exact ⟨_,rfl,by rw [HPE.out,HS.out];rfl,b7⟩
      ·have c2d:((Y i).seq==(Y j).seq)=false:=by simp [c2]
       have HS:Hid (zdL (Y i) (Y j)=false):=decide_eq_false (fun h=>c2 h.2);clear c1 c2;refine WQ.region (by kernel_rfl) (by kernel_rfl) ?_
       repeat (first | (apply WQ.skip;(case hw=>rfl);intro K hK;go_simp;apply hK;clear hK K) | (apply WQ.want;(case hw=>rfl);intro K hK;go_simp;first | (apply hK;clear hK K) | (apply Exists.intro;apply And.intro;(case left=>intro p;(first | fail));apply hK;clear hK K)))
       refine WQ.nil ?_;intro w7 hw7;have b7:=zaF hw7;clear hw7;go_wp2
       go_meet
       exact ⟨_,rfl,by rw [HPE.out,HS.out];rfl,b7⟩
     ·have c1d:((Y i).kind==(Y j).kind)=false:=by simp [c1]
      have HS:Hid (zdL (Y i) (Y j)=false):=decide_eq_false (fun h=>c1 h.1);clear c1;refine WQ.region (by kernel_rfl) (by kernel_rfl) ?_
      repeat (first | (apply WQ.skip;(case hw=>rfl);intro K hK;go_simp;apply hK;clear hK K) | (apply WQ.want;(case hw=>rfl);intro K hK;go_simp;first | (apply hK;clear hK K) | (apply Exists.intro;apply And.intro;(case left=>intro p;(first | fail));apply hK;clear hK K)))
      refine WQ.nil ?_;intro w7 hw7;have b7:=zaF hw7;clear hw7;go_wp2
      go_meet
      exact ⟨_,rfl,by rw [HPE.out,HS.out];rfl,b7⟩
   case rest=>
    obtain ⟨t,rfl,ht,b7⟩:=hcut;obtain ⟨w7,rfl⟩:∃ y,y=wc:=⟨_,rfl⟩;clear heq hks;have z7:=b7.size;have X7:=hid (HX1.out.below b7);have HC7:=hid (HC1.out.after (b7.mono zr));have HE7:Hid (w7.heap[g]?=w5.heap[g]?):=(b7.block g (by omega)).trans HEQ.out
    cases t with
    | true=>
     have HP:=hid (not_eq ht.symm);clear b7 ht
     have HN:Hid ((zai (cmpP Y) (i+1)).length=(zai (cmpP Y) i).length):=by show (zai (cmpP Y) (i+1)).length=(zai (cmpP Y) i).length;rw [zbM HP.out]
     go_wp2
     go_roundw
     case rel=>exact ⟨i+1,d1,K1,by omega,by go_num,X7.out,HK1.out,HC7.out,by rw [HN.out];exact HF1.out,by rw [HN.out];exact HO.out⟩
     case measure=>simp [intOf];omega
    | false=>
     have HP:=hid (not_eq ht.symm);clear ht;have hat:=zdM (p:=cmpP Y) HP.out m hlt;have hat1:selF (cmpP Y) m (zai (cmpP Y) i).length=i:=hat.1;have hat2:(zai (cmpP Y) i).length<(zai (cmpP Y) m).length:=hat.2
     have HST:Hid (stkF (fun j=>Y (selF (cmpP Y) m j)) (zai (cmpP Y) i).length=runO (zaE (Y i).kind (Y i).seq) 2 0):=by
      show runO (zaE (Y (selF (cmpP Y) m (zai (cmpP Y) i).length)).kind (Y (selF (cmpP Y) m (zai (cmpP Y) i).length)).seq) 2 0=_
      rw [hat1]
     have HNX:Hid ((zai (cmpP Y) (i+1)).length=(zai (cmpP Y) i).length+1):=by
      show (zai (cmpP Y) (i+1)).length=(zai (cmpP Y) i).length+1
      rw [zbm,if_pos (show cmpP Y i=true from HP.out)];simp
     obtain ⟨mm,hmm⟩:∃ mm,(zai (cmpP Y) m).length-(zai (cmpP Y) i).length=mm+1:=⟨(zai (cmpP Y) m).length-(zai (cmpP Y) i).length-1,by omega⟩
     have HMM:Hid ((zai (cmpP Y) m).length-(zai (cmpP Y) (i+1)).length=mm):=by show (zai (cmpP Y) m).length-(zai (cmpP Y) (i+1)).length=mm;rw [HNX.out];omega
     have hF2:Fit2 (2*(mm+1)) d1:=by have:=HF1.out;rw [hmm] at this;exact this
     have HF2:=hid hF2
     have HO2:Hid ((runO (zaE (Y i).kind (Y i).seq) 2 0 d1).next (runO (stkF (fun j=>Y (selF (cmpP Y) m j))) mm ((zai (cmpP Y) i).length+1))=za0 d):=by
      have h9:=HO.out;rw [hmm] at h9;have h8:(stkF (fun j=>Y (selF (cmpP Y) m j)) (zai (cmpP Y) i).length d1).next (runO (stkF (fun j=>Y (selF (cmpP Y) m j))) mm ((zai (cmpP Y) i).length+1))=za0 d:=h9;rw [HST.out] at h8;exact h8
     have bD:Below w7.heap.size w7 w7.drew:=⟨rfl,rfl,rfl,Nat.le_refl _,fun _ _=>rfl⟩;have CS:=zdO B d1 K1 (Y i).kind (Y i).seq w7.drew (X7.out.below bD) (hF2.less (by omega));have CSa:=zc2 CS;have q0:w7.drew.cell? ⟨g,i*9,none⟩=some (.int .i64 (Y i).kind):=(World.cell?_of_block (a:=⟨g,i*9,none⟩) HE7.out).trans HKS.out.1;have q1:w7.drew.cell? ⟨g,i*9+1,none⟩=some (.int .i64 (Y i).seq):=(World.cell?_of_block (a:=⟨g,i*9+1,none⟩) HE7.out).trans HKS.out.2;obtain ⟨oc,hoc⟩:∃ y,y=runO (zaE (Y i).kind (Y i).seq) 2 0 d1:=⟨_,rfl⟩;have HOC:=hid hoc;rw [← hoc] at CSa;clear CS hoc hF2 hmm hat hat1 hat2 b7
     go_upto_region 6 with fail
     refine zay 11 (fun w'=>w'.cell? ⟨g,i*9,none⟩=some (.int .i64 (Y i).kind)∧w'.cell? ⟨g,i*9+1,none⟩=some (.int .i64 (Y i).seq)) zgA ⟨q0,q1⟩ (fun hHeld=>?_);refine zn9 0 rfl ?_
     try simp only [Act.put,SL]
     refine zn9 1 rfl ?_
     try simp only [Act.put,SL]
     refine zn9 2 rfl ?_
     try simp only [Act.put,SL]
     refine zoa 3 rfl ?_
     try simp only [Act.put,SL]
     refine zn9 4 rfl ?_
     try simp only [Act.put,SL]
     refine zoa 5 rfl ?_
     try simp only [Act.put,SL]
     refine zn9 6 rfl ?_
     try simp only [Act.put,SL]
     refine zn9 7 rfl ?_
     try simp only [Act.put,SL]
     refine zoa 8 rfl ?_
     try simp only [Act.put,SL]
     refine zn9 9 rfl ?_
     try simp only [Act.put,SL]
     refine zoa 10 rfl ?_
     try simp only [Act.put,SL]
     cases oc with
     | cut d2=>
      refine zas (i:=11) (o:=_) rfl (by kernel_rfl) (by kernel_rfl) (fun KC hKC=>?_);refine zaQ (by kernel_rfl) (.func 42) 42 #[] _ _ rfl (by simp [Act.eval,Act.put]) #[.pointer (some ⟨B,0,none⟩),.int .i64 (Y i).kind,.int .i64 (Y i).seq] (by simp [Act.eval,Act.put]) Tryz.func42 (by kernel_rfl) (by kernel_rfl) CSa ?_;rintro e w8 ⟨rfl,K5,X5,s5,C5⟩;refine ⟨_,rfl,?_⟩;refine hKC _ _ ?_;clear hKC KC
      try simp only [Act.put,SL]
      refine znS 12 (v:=?_) rfl ?_ ?_
      rotate_left
      ·intro w' hSw;go_simp;try with_reducible rfl
      try simp only [Act.put,SL]
      refine zar (by kernel_rfl) ?_ _
      have HEND:Hid (za0 d=.cut d2):=by
       show za0 d=.cut d2
       rw [← HO2.out,← HOC.out];rfl
      have HSP:Hid (SpP (.cut d2) B w K (.returned (.bool false)) w8):=SpP.after (o:=.cut d2) (fun b hb=>(HK1.out b hb).imp id (fun h=>by omega)) ((ChgL.of_below HB5.out).trans (HC7.out.after (bD.mono (Nat.le_trans zr z7)))) ⟨rfl,K5,X5,s5,C5⟩;clear CSa X5 s5 C5;go_wp2;go_ret;rw [HEND.out];exact HSP.out
     | done c2 d2=>
      refine zas (i:=11) (o:=_) rfl (by kernel_rfl) (by kernel_rfl) (fun KC hKC=>?_);refine zaQ (by kernel_rfl) (.func 42) 42 #[] _ _ rfl (by simp [Act.eval,Act.put]) #[.pointer (some ⟨B,0,none⟩),.int .i64 (Y i).kind,.int .i64 (Y i).seq] (by simp [Act.eval,Act.put]) Tryz.func42 (by kernel_rfl) (by kernel_rfl) CSa ?_;rintro e w8 ⟨rfl,K5,X5,s5,C5⟩;refine ⟨_,rfl,?_⟩;refine hKC _ _ ?_;clear hKC KC
      try simp only [Act.put,SL]
      refine znS 12 (v:=?_) rfl ?_ ?_
      rotate_left
      ·intro w' hSw;go_simp;try with_reducible rfl
      try simp only [Act.put,SL]
      refine zar (by kernel_rfl) ?_ _;have c0:c2=0:=zcn _ _ _ _ _ _ _ HOC.out.symm;subst c0;have HF3:Hid (Fit2 (2*mm) d2):=zhm (y:=fun _=>Y i) (j:=0) HF2.out HOC.out.symm
      have HO3:Hid (runO (stkF (fun j=>Y (selF (cmpP Y) m j))) mm ((zai (cmpP Y) i).length+1) d2=za0 d):=by
       have h9:=HO2.out;rw [← HOC.out] at h9
       have h8:runO (stkF (fun j=>Y (selF (cmpP Y) m j))) mm ((zai (cmpP Y) i).length+1) d2=za0 d:=by simpa [Outc.next] using h9
       exact h8
      have HX5:=hid X5;have HC8:=hid (zcj (HC7.out.after (bD.mono (Nat.le_trans zr z7))) HK1.out C5)
      have HK5:Hid (∀ x,x∈K5→x∈K∨w5.heap.size≤x):=fun x hx=>by
       rcases s5 x hx with h | h
       ·exact HK1.out x h
       ·have h7:w7.drew.heap.size=w7.heap.size:=rfl
        exact .inr (by omega)
      clear CSa X5 s5 C5;go_wp2
      go_roundw
      case rel=>exact ⟨i+1,d2,K5,by omega,by go_num,HX5.out,HK5.out,HC8.out,by rw [HMM.out];exact HF3.out,by rw [HMM.out,HNX.out];exact HO3.out⟩
      case measure=>simp [intOf];omega
  ·obtain rfl:i=m:=by omega
   have HE:Hid (za0 d=.done 0 d1):=by
    show za0 d=.done 0 d1
    rw [← HO.out,Nat.sub_self];rfl
   clear hC1;go_wp2;go_ret;rw [HE.out];exact SpP.after (o:=.done 0 d1) (fun b hb=>.inl hb) (ChgL.of_below HB5.out) ⟨rfl,K1,HX1.out,HK1.out,HC1.out⟩
end Go.Proofs.YthbpmbgfddpffaaGreat
