/- SpentRecs: both faces. -/
import Derived.Test.YtajibninhikdgaaGreatRows
import Derived.Test.YtajibninhikdgaaGreatZPspentao
set_option linter.unusedVariables false
set_option linter.unusedSimpArgs false
set_option maxHeartbeats 16000000
namespace Go.Proofs.YtajibninhikdgaaGreat
open Go.RowKit F256
noncomputable def zej (d:WorldD) (l:List Nat):Nat×(Nat→RecD):=((zbl (spa d.shape (fun i=>recT d.tapes.2 2 (l.getD i 0)) l.length) l.length).length,fun i=>recT d.tapes.2 2 (l.getD (zbN (spa d.shape (fun i=>recT d.tapes.2 2 (l.getD i 0)) l.length) l.length i) 0))
def SpnAns (d:WorldD) (q:RecsResultD):Prop:=(∃ x,x≠0∧WldAns d x∧q=⟨x,(0,fun _=>rec0)⟩)∨(WldAns d 0∧∃ l,Cnt (recT d.tapes.2 2) (lenT d.tapes.2 2) l∧q=⟨0,zej d l⟩)
theorem SpnAns.one {d:WorldD} {p q:RecsResultD} (h:SpnAns d p) (k:SpnAns d q):p=q:=by
 rcases h with ⟨x,h1,h2,rfl⟩ | ⟨h1,l,hl,rfl⟩<;>rcases k with ⟨y,k1,k2,rfl⟩ | ⟨k1,m,hm,rfl⟩
 ·rw [h2.one k2]
 ·exact absurd (h2.one k1) h1
 ·exact absurd (k2.one h1) k1
 ·rw [hl.uniq hm]
theorem zf5 {d:WorldD} (h2:d.tapes.1=2) (hsz:zbn d≤1048576) {l:List Nat} (h:Cnt (recT d.tapes.2 2) (lenT d.tapes.2 2) l):(szSl zaH) (zej d l)≤1048576:=by
 have h1:=zkH h2 hsz h;have h3:=zkV (spa d.shape (fun i=>recT d.tapes.2 2 (l.getD i 0)) l.length) (fun i=>zaH (recT d.tapes.2 2 (l.getD i 0))) l.length;have e1:(szSl zaH) (l.length,fun i=>recT d.tapes.2 2 (l.getD i 0))=l.length+sumN (fun i=>zaH (recT d.tapes.2 2 (l.getD i 0))) l.length:=rfl
 show (zbl (spa d.shape (fun i=>recT d.tapes.2 2 (l.getD i 0)) l.length) l.length).length+sumN (fun i=>zaH (recT d.tapes.2 2 (l.getD (zbN (spa d.shape (fun i=>recT d.tapes.2 2 (l.getD i 0)) l.length) l.length i) 0))) (zbl (spa d.shape (fun i=>recT d.tapes.2 2 (l.getD i 0)) l.length) l.length).length≤1048576
 rw [e1] at h1;have h4:=h3.1;have h5:=h3.2;omega
set_option maxRecDepth 20000 in
theorem zhW (d:WorldD) (cs:List Value) (hi:Nat) (w:World) (h:zan.rd w hi d cs) (hhi:hi≤w.heap.size) (hsz:zbn d≤1048576) :
 Calls Tryz.prog 7 #[.agg cs.toArray] w (zjZ (SpnAns d) w):=by
 have h':=h;obtain ⟨ao1,cap1,ao2,cap2,ao3,cap3,rfl,g1,g2,g3,k0,k4,k5⟩:=za4 h';have HRD:=hid h;have HG3:=hid g3;have HSZ:=hid hsz;clear h h' hsz g1 g2 g3 k0 k4 k5;have T0:=zaD w (rwW d ao1 cap1 ao2 cap2 ao3 cap3).toArray #[.int .i64 0,.slice none 0 0] 38 32
 go_enter Tryz.func7,Tryz.ntmps7
 go_wp2_with (refine zaF 38 (.tmp 1) rfl rfl (w.heap.size) rfl (T0.b1) Tryz.underlying38 zfl rfl ?_)
 refine (zfY d _ hi _ (zan.rd_below HRD.out T0.bel hhi) (Nat.le_trans hhi T0.bel.size) (zee HSZ.out)).mono ?_;rintro e w1 ⟨x,rfl,hx,b1⟩;have HT1:=hid (T0.call b1);have HX:=hid hx;have z1:w.heap.size+1<w1.heap.size:=HT1.out.b2.lt;clear b1 T0 hx
 by_cases hx0:x=0
 case neg=>
  have hne:(x != 0)=true:=by simp [hx0]
  go_wp2_with (refine zcf 32 _ _ rfl rfl (w.heap.size+1) rfl (cs:=[.int .i64 x,.slice none 0 0]) rfl (HT1.out.b2) zcn rfl rfl ((zdL w1 x (zdO HX.out) 0 0).one) ?_;intro w9 X9 C9 z9)
  refine zd1 Tryz.results7 rfl X9 Tryz.underlying32 zcn rfl rfl ?_;have zz:=C9.size;exact ⟨⟨x,(0,fun _=>rec0)⟩,[.int .i64 x,.slice none 0 0],rfl,.inl ⟨x,hx0,HX.out,rfl⟩,zdL w9 x (zdO HX.out) _ _,HT1.out.bel.trans (C9.bel (fun b hb=>by simp at hb;omega) HT1.out.bel.size)⟩
 subst hx0;have HOK:=hid (WldAns.ok HX.out);have h2:d.tapes.1=2:=HOK.out.form.2.2;have hn0:(d.tapes.2 0).recs.1≤400000:=Nat.le_trans (HOK.out.few 0 (by omega)) (by decide);have hn1:(d.tapes.2 1).recs.1≤400000:=Nat.le_trans (HOK.out.few 1 (by omega)) (by decide);have HH2:=hid h2;clear h2;have CR:=zf1 d (rwW d ao1 cap1 ao2 cap2 ao3 cap3) hi w1 (zan.rd_below HRD.out HT1.out.bel hhi) (Nat.le_trans hhi HT1.out.bel.size) HOK.out
 go_wp2_with (refine zaF 38 (.tmp 1) rfl rfl (w.heap.size) rfl (HT1.out.b1) Tryz.underlying38 zfl rfl ?_)
 refine CR.mono ?_;rintro e w2 ⟨B,l,ce,v,b1,b2,b3,b4,b5,rfl,hCt,hLd,hRd,bb2⟩;have HL:=hid hCt;have HT2:=hid (HT1.out.call bb2);have z2:w1.heap.size≤w2.heap.size:=bb2.size
 have hlen:l.length≤1000000:=by
  have h1:=(hCt.sum (fun _=>0)).2
  have e2:lenT d.tapes.2 2=(d.tapes.2 0).recs.1+(d.tapes.2 1).recs.1:=by simp [lenT]
  omega
 have CU:=ze0 hLd HOK.out.shape hCt.csd hlen (by omega) hRd (fun i hi'=>zhQ HOK.out ((hCt.mem _).1 (by rw [zc5 hi'];exact List.getElem_mem hi')).1);clear hLd hRd bb2 CR HT1
 go_wp2_with fail
 refine CU.mono ?_;rintro e w5 ⟨u,cu5,rfl,-,hrd,b5'⟩;have HT5:=hid (HT2.out.call b5');have z5:w2.heap.size≤w5.heap.size:=b5'.size;have CT:=zgS u (zej d l) w5.heap.size w5 hrd (Nat.le_refl _) (zf5 HH2.out HSZ.out hCt);clear hrd b5' CU HT2 hCt
 go_wp2_with fail
 refine CT.mono ?_;rintro e w3 ⟨cs3,rfl,O3,bb3⟩;have HT3:=hid (HT5.out.call bb3);obtain ⟨a3,c3,rfl⟩:=zeh O3;have HO3:=hid O3;clear O3 bb3 CT HT5
 go_wp2_with (refine zcf 32 _ _ rfl rfl (w.heap.size+1) rfl (cs:=[.int .i64 0,.slice a3 (zej d l).1 c3]) rfl (HT3.out.b2) zcn rfl rfl (HO3.out.one) ?_;intro w9 X9 C9 z9)
 refine zd1 Tryz.results7 rfl X9 Tryz.underlying32 zcn rfl rfl ?_;have zz:=C9.size;have O9:=(HO3.out.chgk C9 (fun b hb=>by simp at hb;omega)).weaken (lo':=w.heap.size) (hi':=w9.heap.size) (by omega) zz;exact ⟨_,_,rfl,.inr ⟨HX.out,l,HL.out,rfl⟩,O9,HT3.out.bel.trans (C9.bel (fun b hb=>by simp at hb;omega) HT3.out.bel.size)⟩
set_option maxRecDepth 20000 in
theorem zhX (d:WorldD) (cs:List Value) (hi:Nat) (w:World) (h:zan.rd w hi d cs) (hhi:hi≤w.heap.size) (hsz:zbn d≤1048576) :
 Calls Tryz.prog 5 #[.agg cs.toArray] w (zjZ (SpnAns d) w):=by
 have h':=h;obtain ⟨ao1,cap1,ao2,cap2,ao3,cap3,rfl,g1,g2,g3,k0,k4,k5⟩:=za4 h';have HRD:=hid h;have HG3:=hid g3;have HSZ:=hid hsz;clear h h' hsz g1 g2 g3 k0 k4 k5;have T0:=zaD w (rwW d ao1 cap1 ao2 cap2 ao3 cap3).toArray #[.int .i64 0,.slice none 0 0] 38 32
 go_enter Tryz.func5,Tryz.ntmps5
 go_wp2_with (refine zaF 38 (.tmp 1) rfl rfl (w.heap.size) rfl (T0.b1) Tryz.underlying38 zfl rfl ?_)
 refine (zfZ d _ hi _ (zan.rd_below HRD.out T0.bel hhi) (Nat.le_trans hhi T0.bel.size) (zee HSZ.out)).mono ?_;rintro e w1 ⟨x,rfl,hx,b1⟩;have HT1:=hid (T0.call b1);have HX:=hid hx;have z1:w.heap.size+1<w1.heap.size:=HT1.out.b2.lt;clear b1 T0 hx
 by_cases hx0:x=0
 case neg=>
  have hne:(x != 0)=true:=by simp [hx0]
  go_wp2_with (refine zcf 32 _ _ rfl rfl (w.heap.size+1) rfl (cs:=[.int .i64 x,.slice none 0 0]) rfl (HT1.out.b2) zcn rfl rfl ((zdL w1 x (zdO HX.out) 0 0).one) ?_;intro w9 X9 C9 z9)
  refine zd1 Tryz.results5 rfl X9 Tryz.underlying32 zcn rfl rfl ?_;have zz:=C9.size;exact ⟨⟨x,(0,fun _=>rec0)⟩,[.int .i64 x,.slice none 0 0],rfl,.inl ⟨x,hx0,HX.out,rfl⟩,zdL w9 x (zdO HX.out) _ _,HT1.out.bel.trans (C9.bel (fun b hb=>by simp at hb;omega) HT1.out.bel.size)⟩
 subst hx0;have HOK:=hid (WldAns.ok HX.out);have h2:d.tapes.1=2:=HOK.out.form.2.2;have hn0:(d.tapes.2 0).recs.1≤400000:=Nat.le_trans (HOK.out.few 0 (by omega)) (by decide);have hn1:(d.tapes.2 1).recs.1≤400000:=Nat.le_trans (HOK.out.few 1 (by omega)) (by decide);have bD:Below w1.heap.size w1 w1.drew:=⟨rfl,rfl,rfl,Nat.le_refl _,fun _ _=>rfl⟩;have HTD:=hid (HT1.out.call bD);have CC0:=zfQ d (rwW d ao1 cap1 ao2 cap2 ao3 cap3) hi w.heap.size w1.drew (zan.rd_below HRD.out HTD.out.bel hhi) (Nat.le_trans hhi HTD.out.bel.size) HTD.out.b1 h2 hn0 hn1;have CC:=ze1 CC0;have zD:w1.drew.heap.size=w1.heap.size:=rfl;obtain ⟨cS,hcS⟩:∃ c:List Value,c=(rwS d.shape):=⟨_,rfl⟩;have HCS:=hid hcS
 have hlS:cS.length=9:=by rw [hcS];rfl
 have rng:∀ W,Box W w.heap.size (rwW d ao1 cap1 ao2 cap2 ao3 cap3).toArray 38→W.rangeAt w.heap.size 0 cS:=fun W hW j v hv=>by
  rw [hcS] at hv;rw [Nat.zero_add];have hj:j<9:=(List.getElem?_eq_some_iff.1 hv).1;refine (hW.cell j).trans ?_;rw [← hv]
  match j,hj with
  | 0,_=>rfl
  | 1,_=>rfl
  | 2,_=>rfl
  | 3,_=>rfl
  | 4,_=>rfl
  | 5,_=>rfl
  | 6,_=>rfl
  | 7,_=>rfl
  | 8,_=>rfl
 have HRNG:=hid rng;have rS:=rng _ HTD.out.b1;clear hcS rng CC0
 go_upto_region 4 with fail
 refine zax 3 (fun w'=>w'.rangeAt w.heap.size 0 cS) zbC rS (fun hHeld=>?_);refine zlN 0 rfl ?_
 try simp only [Act.put,SL]
 refine zaf (i:=1) (oi:=_) 16 rfl (by kernel_rfl) (fun _ _ _ h=>h) (yieldsIf_load_mid (by kernel_rfl) 34 (.tmp 10) rfl w.heap.size (0) (by simp [Act.eval,Act.put]) cS _ (fun w h=>h) Tryz.underlying34 rfl (zly hlS)) (by assumption) ?_
 try simp only [Act.put,SL]
 refine za3 (i:=2) (o:=_) rfl (by kernel_rfl) (fun KC hKC=>?_);refine zaY (by kernel_rfl) (.func 19) 19 #[] _ _ rfl (by simp [Act.eval,Act.put]) #[.pointer (some ⟨w.heap.size,0,none⟩)] (by simp [Act.eval,Act.put]) Tryz.func19 (by kernel_rfl) (by kernel_rfl) CC ?_;rintro e w2 ⟨v2,l,ce,lo2,rfl,hCt,hlo2,V,b2⟩;refine ⟨_,rfl,?_⟩;have HT2:=hid (HTD.out.call b2);refine hKC _ _ (HRNG.out _ HT2.out.b1) ?_;clear hKC KC
 try simp only [Act.put,SL]
 have HL:=hid hCt;have z2:w1.heap.size≤w2.heap.size:=b2.size
 have hlen:l.length≤1000000:=by
  have h1:=(hCt.sum (fun _=>0)).2
  have e2:lenT d.tapes.2 2=(d.tapes.2 0).recs.1+(d.tapes.2 1).recs.1:=by simp [lenT]
  omega
 have hh2:hi≤w2.heap.size:=by omega
 have CU0:=zhR d.shape HOK.out.shape v2 l.length (fun i=>recT d.tapes.2 2 (l.getD i 0)) w2.heap.size w2 (V.rd hh2) (Nat.le_refl _) (by omega) (fun i hi'=>zhQ HOK.out ((hCt.mem _).1 (by rw [zc5 hi'];exact List.getElem_mem hi')).1);rw [show zae d.shape=.agg cS.toArray by rw [HCS.out];rfl] at CU0;have CU:=ze1 CU0;clear CU0 V b2 CC rS;refine zar (i:=3) (o:=_) rfl (by kernel_rfl) (by kernel_rfl) (fun KC hKC=>?_);refine zaY (by kernel_rfl) (.func 18) 18 #[] _ _ rfl (by simp [Act.eval,Act.put]) #[.agg cS.toArray,v2] (by simp [Act.eval,Act.put]) Tryz.func18 (by kernel_rfl) (by kernel_rfl) CU ?_;rintro e w5 ⟨u,rfl,hrd,b5⟩;refine ⟨_,rfl,?_⟩;refine hKC _ _ ?_;clear hKC KC
 try simp only [Act.put,SL]
 have HT5:=hid (HT2.out.call b5);have z5:w2.heap.size≤w5.heap.size:=b5.size;have CT0:=zf0 u (zej d l) w5.heap.size w5 hrd (Nat.le_refl _) (zf5 h2 HSZ.out hCt);have CT:=ze1 CT0;clear CT0 hrd b5 CU HT2 hCt;refine zar (i:=4) (o:=_) rfl (by kernel_rfl) (by kernel_rfl) (fun KC hKC=>?_);refine zaY (by kernel_rfl) (.func 17) 17 #[] _ _ rfl (by simp [Act.eval,Act.put]) #[u] (by simp [Act.eval,Act.put]) Tryz.func17 (by kernel_rfl) (by kernel_rfl) CT ?_;rintro e w3 ⟨v3,rfl,O3,b3⟩;refine ⟨_,rfl,?_⟩;refine hKC _ _ ?_;clear hKC KC
 try simp only [Act.put,SL]
 have HT3:=hid (HT5.out.call b3);obtain ⟨a3,c3,rfl⟩:=zgL O3;have HO3:Hid (OwnT zaz w3 w5.heap.size w3.heap.size ⟨0,zej d l⟩ [.int .i64 0,.slice a3 (zej d l).1 c3]):=zfO (n:=(zej d l).1) (f:=(zej d l).2) O3 0 (by decide);clear O3 b3 CT HT5;refine zlz 5 (v:=?_) rfl ?_ ?_
 rotate_left
 ·intro w' hSw;go_simp;try with_reducible rfl
 try simp only [Act.put,SL]
 refine zar (i:=6) (o:=_) rfl (by kernel_rfl) (by kernel_rfl) (fun KC hKC=>?_);refine zfg 32 _ _ rfl rfl (w.heap.size+1) (by simp [Act.eval,Act.put]) (cs:=[.int .i64 0,.slice a3 (zej d l).1 c3]) (old:=[.int .i64 0,.slice none 0 0]) (by simp [Act.eval,Act.put]) (HT3.out.b2) zcn rfl rfl (HO3.out.one) ?_;intro w9 X9 C9 z9;refine hKC _ _ ?_;clear hKC KC
 try simp only [Act.put,SL]
 refine zas (by kernel_rfl) ?_ _;go_wp2;refine zd1 Tryz.results5 rfl X9 Tryz.underlying32 zcn rfl rfl ?_;have zz:=C9.size;have O9:=(HO3.out.chgk C9 (fun b hb=>by simp at hb;omega)).weaken (lo':=w.heap.size) (hi':=w9.heap.size) (by omega) zz;exact ⟨_,_,rfl,.inr ⟨HX.out,l,HL.out,rfl⟩,O9,HT3.out.bel.trans (C9.bel (fun b hb=>by simp at hb;omega) HT3.out.bel.size)⟩
end Go.Proofs.YtajibninhikdgaaGreat
namespace Go.Proofs.YtajibninhikdgaaGreat
open Go.RowKit
section
variable {ops:Array Oper} {Q:Exit→Act→World→Prop} {md:Region.Mode} {S:World→Prop} {L:Nat}
theorem zfw {o:Oper} {a:Act} (T:TypeId) (x:Operand) (ho:o.op=.load T x) (hg:o.guard=none) (b:Nat) (hx:a.eval x=.pointer (some ⟨b,0,none⟩)) {cs:List Value} (hB:∀ w,S w→Box w b cs.toArray T) {fs:Array Field} (hu:Tryz.prog.underlying T=some (.struct fs)) {n:Nat} (hi:(Tryz.prog.info? T).map (·.size)=some n) (hl:cs.length=n):YieldsIf Tryz.prog ops S o (.agg cs.toArray) a:=by
 refine .inl ⟨by simp [Region.wanted,hg],fun w hS=>?_⟩;unfold execOp
 simp only [ho,hx,Instr.loadAt,Instr.sureAddr,Sem.run_bind,Sem.run_pure,Result.andThen_ok,run_loadVar_row w b T T cs.toArray (0,0) (.struct fs) (hB w hS) hu rfl (by rw [hi];simp [hl])]
end
theorem zjg (w:World):Below w.heap.size w w.drew:=⟨rfl,rfl,rfl,Nat.le_refl _,fun _ _=>rfl⟩
end Go.Proofs.YtajibninhikdgaaGreat
namespace Go.Proofs.YtajibninhikdgaaGreat
open Go.RowKit F256
set_option maxRecDepth 20000 in
theorem ze2:EqV zaz 8:=fun c1 c2 d h1 h2 w r1 r2 u1 u2=>by
 obtain ⟨ao1,cap1,rfl,g1,-⟩:=zb9 r1;obtain ⟨bao1,bcap1,rfl,q1,-⟩:=zb9 r2;clear r1 r2;have G1:=hid g1;have E1:=hid q1;clear g1 q1
 go_enter Tryz.func8,Tryz.ntmps8
 go_wp2_with fail
 have T0:=zaD w #[.int .i64 d.code,.slice ao1 d.recs.1 cap1] #[.int .i64 d.code,.slice bao1 d.recs.1 bcap1] 32 32;refine (zgq _ _ d.recs h1 h2 _ ((zab.slice 83).rd_below G1.out T0.bel u1) ((zab.slice 83).rd_below E1.out T0.bel u2) (Nat.le_trans u1 T0.bel.size) (Nat.le_trans u2 T0.bel.size)).mono ?_;rintro e w1 ⟨rfl,b1⟩;have T1:Two w w1 #[.int .i64 d.code,.slice ao1 d.recs.1 cap1] #[.int .i64 d.code,.slice bao1 d.recs.1 bcap1] 32 32:=T0.call b1;clear T0 b1;have B:=hid T1.bel;clear T1;go_wp2;go_ret;exact ⟨rfl,B.out⟩
theorem zd2:MkV zaz zbf zbW 11:=fun cs d L j w h nd hj=>by
 obtain ⟨ao1,cap1,K1,rfl,hLL,o1,k0⟩:=zdn h;clear h;have hLM:=hLL.symm;subst hLM;unfold zbf at hj ⊢;have Z1:=(zab.slice 83).own_lt o1;have bz:=bAl w (.cells #[.int .i64 d.code,.slice ao1 d.recs.1 cap1] 32);have B0:Hid (Box (w.alloc (.cells #[.int .i64 d.code,.slice ao1 d.recs.1 cap1] 32)) w.heap.size #[.int .i64 d.code,.slice ao1 d.recs.1 cap1] 32):=zao _ _ _;have CH0:Hid (ChgL (K1) w (w.alloc (.cells #[.int .i64 d.code,.slice ao1 d.recs.1 cap1] 32))):=ChgL.of_below bz;have O0_1:Hid ((zab.slice 83).own (w.alloc (.cells #[.int .i64 d.code,.slice ao1 d.recs.1 cap1] 32)) d.recs [.slice ao1 d.recs.1 cap1] K1):=(zab.slice 83).own_kept o1 (fun b hb=>bz.block b (Z1 b hb));clear bz o1
 go_enter Tryz.func11,Tryz.ntmps11
 go_wp2_with fail
 refine (zeB _ d.recs K1 (j) _ O0_1.out nd (by omega)).mono ?_;rintro e w1 ⟨rfl,p1,q1⟩;have O1_1:=hid p1;have B1:Hid (Box w1 w.heap.size #[.int .i64 d.code,.slice ao1 d.recs.1 cap1] 32):=(q1.block w.heap.size B0.out.lt (fun hb=>by have:=Z1 _ hb;omega)).trans B0.out;have CH1:Hid (ChgL (K1) w w1):=CH0.out.sub q1 (fun b hb=>hb);clear p1 q1;go_wp2;go_ret;exact ⟨zdl (by omega),zdJ (zbW j d) O1_1.out k0,CH1.out⟩
theorem zd3:HdV zaz zbf zbW 12:=fun cs d hi j w h hhi hj=>by
 obtain ⟨ao1,cap1,rfl,r1,-⟩:=zb9 h;clear h;unfold zbf at hj ⊢;have R1:=hid r1;clear r1
 change Calls Tryz.prog 12 #[.agg #[.int .i64 d.code,.slice ao1 d.recs.1 cap1],.int .i64 j] w _
 go_enter Tryz.func12,Tryz.ntmps12
 go_wp2_with fail
 have T0:=zaE w #[.int .i64 d.code,.slice ao1 d.recs.1 cap1] 32;refine (zhr _ d.recs hi (j) _ ((zab.slice 83).rd_below R1.out T0.bel hhi) (Nat.le_trans hhi T0.bel.size) (by omega)).mono ?_;rintro e w1 ⟨rfl,b1⟩;have T1:One w w1 #[.int .i64 d.code,.slice ao1 d.recs.1 cap1] 32:=T0.call b1
 have hz1:¬ (((j+(cSl zaO) d.recs:Nat):Int)<0):=by omega
 have HB:=hid T1.bel;clear b1 T1;go_wp2;go_ret;exact ⟨zdl (by omega),HB.out⟩
end Go.Proofs.YtajibninhikdgaaGreat
namespace Go.Proofs.YtajibninhikdgaaGreat
open Go.ChangeShapes Go.WideShapes Go.ChangeAt Go.RowKit F256
theorem zcg {w:World} {hi:Nat} {d:RecsResultD} {cs:List Value} (h:zaz.rd w hi d cs):∃ v0 vp vl vq,cs=[.int .i64 v0,.slice vp vl vq]:=by
 obtain ⟨p1,pc1,rfl,-⟩:=zb9 h;exact ⟨_,_,_,_,rfl⟩
theorem zch:(Tryz.prog.info? 32).map (fun i=>(i.zero.map (·.cells),i.size))=some (some #[.int .i64 0,.slice none 0 0],2):=by kernel_rfl
theorem zlX (d:WorldD):∃ q,SpnAns d q:=by
 obtain ⟨x,hx⟩:=zkw d
 by_cases h:x=0
 ·subst h
  obtain ⟨l,hl⟩:=zk4 (recT d.tapes.2 2) (lenT d.tapes.2 2);exact ⟨_,.inr ⟨hx,l,hl,rfl⟩⟩
 ·exact ⟨_,.inl ⟨x,h,hx,rfl⟩⟩
theorem zlY {d:WorldD} {q:RecsResultD} (hq:SpnAns d q) (hsz:zbn d≤1048576):zbf q≤90000000:=by
 rcases hq with ⟨x,_,_,rfl⟩ | ⟨h0,l,hl,rfl⟩
 ·exact Nat.zero_le _
 ·have h1:=zkI (zej d l)
  have h2:=zf5 (WldAns.ok h0).form.2.2 hsz hl
  show (cSl zaO) (zej d l)≤_
  omega
theorem zkp {d:WorldD} {q:RecsResultD} {w:World} {f:Nat} {args:Array Value} (hq:SpnAns d q) (h:Calls Tryz.prog f args w (zjZ (SpnAns d) w)):Calls Tryz.prog f args w fun e w'=>∃ cs,e=.returned (.agg cs.toArray)∧OwnT zaz w' w.heap.size w'.heap.size q cs∧Below w.heap.size w w':=
 h.mono fun e w' ⟨d',cs,h1,h2,h3,h4⟩=>⟨cs,h1,by rw [hq.one h2];exact h3,h4⟩
theorem zds:(Tryz.prog.info? 32).map (·.size)=some 2:=by kernel_rfl
set_option maxRecDepth 20000 in
theorem zc8 (d:WorldD) (cs:List Value)  (w:World) (rd0:zan.rd w w.heap.size d cs)  :
 Calls Tryz.prog 3 #[.agg cs.toArray] w fun e w'=>e=.returned (.bool true)∧Below w.heap.size w w':=by
 obtain ⟨v0,v1,v2,v3,v4,v5,v6,v7,v8,vp0,vl0,vq0,vp1,vl1,vq1,vp2,vl2,vq2,v9,v10,vb,rfl⟩:=zj4 rd0;have HR:=hid rd0
 skip
 clear rd0 ;have T0:=zaE w (rwV v0 v1 v2 v3 v4 v5 v6 v7 v8 vp0 vl0 vq0 vp1 vl1 vq1 vp2 vl2 vq2 v9 v10 vb).toArray 28
 go_enter Tryz.func3,Tryz.ntmps3
 go_wp2_with (refine zaF 28 (.tmp 1) rfl rfl (w.heap.size) rfl T0.b1 Tryz.underlying28 zeD rfl ?_)
 refine (ziF _ d w.heap.size 1048576 _ (zan.rd_below HR.out T0.bel (Nat.le_refl _)) T0.bel.size (by omega)).mono ?_;rintro e w1 ⟨x,rfl,hx,b1⟩;have T1:=T0.call b1;have HT1:=hid T1;clear b1 T0
 rcases hx with rfl | ⟨hsz,hx⟩
 ·clear T1
  go_wp2;go_ret;exact ⟨rfl,HT1.out.bel⟩
 have hx0:¬ x<0:=by omega
 clear hx;obtain ⟨q,hq⟩:=zlX d;obtain ⟨N,hN⟩:∃ N,N=1+zbf q:=⟨_,rfl⟩
 have hj:1+zbf q≤100000000:=by have:=zlY hq hsz;omega
 obtain ⟨M,hM⟩:∃ M,M=1+zdd d:=⟨_,rfl⟩
 have hk:1+zdd d≤100000000:=by have:=ziK d;omega
 have CT:∀ w',Below w1.heap.size w1 w'→Calls Tryz.prog 6 #[.agg (rwV v0 v1 v2 v3 v4 v5 v6 v7 v8 vp0 vl0 vq0 vp1 vl1 vq1 vp2 vl2 vq2 v9 v10 vb).toArray] w' fun e w''=>∃ cs',e=.returned (.agg cs'.toArray)∧OwnT zan w'' w'.heap.size w''.heap.size d cs'∧Below w'.heap.size w' w'':=fun w' hb=>
  zix _ d w.heap.size w' (zan.rd_below (zan.rd_below HR.out HT1.out.bel (Nat.le_refl _)) hb HT1.out.bel.size) (Nat.le_trans HT1.out.bel.size hb.size) hsz
 have CS:=fun (cs':List Value) (hi:Nat) (w':World) (h1:zan.rd w' hi d cs') (h2:hi≤w'.heap.size)=>zkp hq (zhX d  cs' hi w' h1 h2 hsz);have CI:=fun (cs':List Value) (hi:Nat) (w':World) (h1:zan.rd w' hi d cs') (h2:hi≤w'.heap.size)=>zkp hq (zhW d  cs' hi w' h1 h2 hsz);have CE:=fun c1 c2 h1 h2 w'=>ze2 c1 c2 q h1 h2 w';have CW:=fun c1 c2 h1 h2 w'=>ziB c1 c2 d h1 h2 w';have CM:=fun {w':World} {lo hi:Nat} {cs:List Value} (h:OwnT zaz w' lo hi q cs)=>zkZ zd2 h 1 hj;have CK:=fun {w':World} {lo hi:Nat} {cs:List Value} (h:OwnT zan w' lo hi d cs)=>zkZ zgs h 1 hk;have CH:=fun (cs:List Value) (hi:Nat) (w':World) (h:zaz.rd w' hi (zbW 1 q) cs) (hh:hi≤w'.heap.size)=>zd3 cs q hi 1 w' h hh hj;rw [← hN] at CM CH;rw [← hM] at CK;clear hN hM hj hk hq hsz
 go_wp2_with (refine zaF 28 (.tmp 1) rfl rfl (w.heap.size) rfl T1.b1 Tryz.underlying28 zeD rfl ?_)
 refine (CT _ (Below.refl _ _)).mono ?_;rintro e w2 ⟨c2,rfl,o2,b2⟩;have z1:w.heap.size<w1.heap.size:=T1.b1.lt;clear T1
 go_wp2_with fail
 refine (CS _ _ _ o2.rd (Nat.le_refl _)).mono ?_;rintro e w3 ⟨cS,rfl,oS,b3⟩;obtain ⟨s0,sp,sl,sq,rfl⟩:=zcg oS.rd;have z2:w1.heap.size≤w2.heap.size:=b2.size;have z3:w2.heap.size≤w3.heap.size:=b3.size;have B3:Below w1.heap.size w1 w3:=b2.trans (b3.mono b2.size);clear o2 b2 b3
 go_upto_region 6 with (refine zbe 32 4 (.tmp 18) _ _ 2 rfl rfl rfl rfl rfl rfl rfl rfl zch rfl rfl oS.one ?_)
 have bA:=bAl w3 (.cells #[.int .i64 s0,.slice sp sl sq] 32);have S4:=zao w3 #[.int .i64 s0,.slice sp sl sq] 32;obtain ⟨W4,hW4⟩:∃ x,x=w3.alloc (.cells #[.int .i64 s0,.slice sp sl sq] 32):=⟨_,rfl⟩;rw [← hW4] at bA S4 ⊢;have B4:=B3.trans (bA.mono (by omega));have P4:=HT1.out.call B4;have OS4:=oS.call bA;have z4:w3.heap.size<W4.heap.size:=S4.lt;clear bA hW4 oS B3
 go_wp2_with (refine zaF 28 (.tmp 1) rfl rfl (w.heap.size) rfl P4.b1 Tryz.underlying28 zeD rfl ?_)
 refine (CT _ B4).mono ?_;rintro e w5 ⟨cX,rfl,oX,b5⟩;obtain ⟨x0,x1,x2,x3,x4,x5,x6,x7,x8,xp0,xl0,xq0,xp1,xl1,xq1,xp2,xl2,xq2,x9,x10,xb,rfl⟩:=zkO oX;have z5:W4.heap.size≤w5.heap.size:=b5.size;have B5:=B4.trans (b5.mono (by omega));have S5:=S4.call b5;have OS5:=OS4.call b5;clear P4 b5 B4 S4 OS4
 go_upto_region 7 with (refine zbe 38 5 (.tmp 20) _ _ 15 rfl rfl rfl rfl rfl rfl rfl rfl zlI rfl rfl oX.one ?_)
 have bA:=bAl w5 (.cells (rwV x0 x1 x2 x3 x4 x5 x6 x7 x8 xp0 xl0 xq0 xp1 xl1 xq1 xp2 xl2 xq2 x9 x10 xb).toArray 38);have X6:=zao w5 (rwV x0 x1 x2 x3 x4 x5 x6 x7 x8 xp0 xl0 xq0 xp1 xl1 xq1 xp2 xl2 xq2 x9 x10 xb).toArray 38;obtain ⟨W6,hW6⟩:∃ x,x=w5.alloc (.cells (rwV x0 x1 x2 x3 x4 x5 x6 x7 x8 xp0 xl0 xq0 xp1 xl1 xq1 xp2 xl2 xq2 x9 x10 xb).toArray 38):=⟨_,rfl⟩;rw [← hW6] at bA X6 ⊢;have B6:=B5.trans (bA.mono (by omega));have S6:=S5.call bA;have OS6:=OS5.call bA;have OX6:=oX.call bA;have z6:w5.heap.size<W6.heap.size:=X6.lt;clear bA hW6 oX B5 S5 OS5
 go_wp2_with (refine zaF 38 (.tmp 5) rfl rfl (w5.heap.size) rfl X6 Tryz.underlying38 zfl rfl ?_)
 refine (CI _ _ _ OX6.rd (by omega)).mono ?_;rintro e w7 ⟨cG,rfl,oG,b7⟩;obtain ⟨g0,gp,gl,gq,rfl⟩:=zcg oG.rd;have z7:W6.heap.size≤w7.heap.size:=b7.size;have B7:=B6.trans (b7.mono (by omega));have S7:=S6.call b7;have OS7:=OS6.call b7;have X7:=X6.call b7;have OX7:=OX6.call b7;clear b7 B6 S6 OS6 X6 OX6
 go_upto_region 8 with (refine zbe 32 6 (.tmp 22) _ _ 2 rfl rfl rfl rfl rfl rfl rfl rfl zch rfl rfl oG.one ?_)
 have bA:=bAl w7 (.cells #[.int .i64 g0,.slice gp gl gq] 32);have G8:=zao w7 #[.int .i64 g0,.slice gp gl gq] 32;obtain ⟨W8,hW8⟩:∃ x,x=w7.alloc (.cells #[.int .i64 g0,.slice gp gl gq] 32):=⟨_,rfl⟩;rw [← hW8] at bA G8 ⊢;have B8:=B7.trans (bA.mono (by omega));have S8:=S7.call bA;have OS8:=OS7.call bA;have X8:=X7.call bA;have OX8:=OX7.call bA;have OG8:=oG.call bA;have z8:w7.heap.size<W8.heap.size:=G8.lt;clear bA hW8 oG B7 S7 OS7 X7 OX7
 go_wp2_with (first | (refine zaF 32 (.tmp 6) rfl rfl (w7.heap.size) rfl G8 Tryz.underlying32 zds rfl ?_) | (refine zaF 32 (.tmp 4) rfl rfl (w3.heap.size) rfl S8 Tryz.underlying32 zds rfl ?_))
 refine (CE _ _ _ _ _ OG8.rd OS8.rd (by omega) (by omega)).mono ?_;rintro e w9 ⟨rfl,b9⟩;have z9:W8.heap.size≤w9.heap.size:=b9.size;have B9:=B8.trans (b9.mono (by omega));have S9:=hid (S8.call b9);have OS9:=hid (OS8.call b9);have X9:=hid (X8.call b9);have OX9:=hid (OX8.call b9);have G9:=hid (G8.call b9);have OG9:=hid (OG8.call b9);have HB9:=hid B9;have P9:=hid (HT1.out.call B9);have CTc:=fun w' (hb:Below w9.heap.size w9 w')=>CT w' (HB9.out.trans (hb.mono (by omega)));clear b9 B8 S8 OS8 X8 OX8 G8 OG8 B9
 go_upto_region 10 with fail
 go_cut [31] (fun v wx=>v=.bool false∧Below w9.heap.size w9 wx)
 case first=>
  have KS:∀ w',Below w9.heap.size w9 w'→(Box w' (w5.heap.size) (rwV x0 x1 x2 x3 x4 x5 x6 x7 x8 xp0 xl0 xq0 xp1 xl1 xq1 xp2 xl2 xq2 x9 x10 xb).toArray 38∧Box w' (w.heap.size) (rwV v0 v1 v2 v3 v4 v5 v6 v7 v8 vp0 vl0 vq0 vp1 vl1 vq1 vp2 vl2 vq2 v9 v10 vb).toArray 28):=fun w' hb=>⟨(X9.out).call hb,(P9.out.b1).call hb⟩;have B0:Below w9.heap.size w9 w9.drew:=zjg _;refine zeJ 4 (fun w'=>Box w' (w5.heap.size) (rwV x0 x1 x2 x3 x4 x5 x6 x7 x8 xp0 xl0 xq0 xp1 xl1 xq1 xp2 xl2 xq2 x9 x10 xb).toArray 38∧Box w' (w.heap.size) (rwV v0 v1 v2 v3 v4 v5 v6 v7 v8 vp0 vl0 vq0 vp1 vl1 vq1 vp2 vl2 vq2 v9 v10 vb).toArray 28) (by kernel_rfl) (KS _ B0) (fun hHeld=>?_);refine zaI (i:=0) (oi:=_) 16 rfl (by kernel_rfl) (fun _ _ _ h=>h) (zfw 38 (.tmp 5) rfl rfl (w5.heap.size) rfl (cs:=(rwV x0 x1 x2 x3 x4 x5 x6 x7 x8 xp0 xl0 xq0 xp1 xl1 xq1 xp2 xl2 xq2 x9 x10 xb)) (fun w' h=>h.1) Tryz.underlying38 zfl rfl) (by assumption) ?_
  try simp only [Act.put,SL]
  refine zaI (i:=1) (oi:=_) 16 rfl (by kernel_rfl) (fun _ _ _ h=>h) (zfw 28 (.tmp 1) rfl rfl (w.heap.size) rfl (cs:=(rwV v0 v1 v2 v3 v4 v5 v6 v7 v8 vp0 vl0 vq0 vp1 vl1 vq1 vp2 vl2 vq2 v9 v10 vb)) (fun w' h=>h.2) Tryz.underlying28 zeD rfl) (by assumption) ?_
  try simp only [Act.put,SL]
  refine zbQ (i:=2) (o:=_) rfl (by kernel_rfl) (fun KC hKC=>?_);refine zco rfl 6 _ _ rfl #[.agg (rwV v0 v1 v2 v3 v4 v5 v6 v7 v8 vp0 vl0 vq0 vp1 vl1 vq1 vp2 vl2 vq2 v9 v10 vb).toArray] ?_ Tryz.func6 (by kernel_rfl) (by kernel_rfl) (CTc _ B0) ?_
  ·simp [Act.eval,Act.put]
  rintro ee wb ⟨cs',rfl,oR,bb⟩;have bR:Below w9.heap.size w9 wb:=B0.trans (bb.mono B0.size);refine ⟨_,rfl,?_⟩;refine hKC.out _ _ (KS _ bR) (fun hHeld=>?_);clear hKC KC
  try simp only [Act.put,SL]
  refine zbQ (i:=3) (o:=_) rfl (by kernel_rfl) (fun KC hKC=>?_);refine zco rfl 9 _ _ rfl #[.agg (rwV x0 x1 x2 x3 x4 x5 x6 x7 x8 xp0 xl0 xq0 xp1 xl1 xq1 xp2 xl2 xq2 x9 x10 xb).toArray,.agg cs'.toArray] ?_ Tryz.func9 (by kernel_rfl) (by kernel_rfl) (CW _ _ _ _ _ ((OX9.out).call bR).rd oR.rd (Nat.le_trans (by omega) bR.size) (Nat.le_refl _)) ?_
  ·simp [Act.eval,Act.put]
  rintro ee wc' ⟨rfl,bc⟩;have bC:Below w9.heap.size w9 wc':=bR.trans (bc.mono bR.size);refine ⟨_,rfl,?_⟩;refine hKC.out _ _ (KS _ bC) (fun hHeld=>?_);clear hKC KC
  try simp only [Act.put,SL]
  refine zeH (o:=_) rfl (by kernel_rfl) (fun KC hKC=>?_);go_simp;refine hKC.out _ _ ?_;clear hKC KC
  try simp only [Act.put,SL]
  refine zeI (by kernel_rfl) ?_ _;go_wp2
  go_meet
  exact ⟨rfl,bC⟩
 case rest=>
  obtain ⟨rfl,b10⟩:=hcut;obtain ⟨w10,rfl⟩:∃ x,x=wc:=⟨_,rfl⟩;clear CTc;have z10:w9.heap.size≤w10.heap.size:=b10.size;have B10:=HB9.out.trans (b10.mono (by omega));have S10:=S9.out.call b10;have OS10:=OS9.out.call b10;have X10:=X9.out.call b10;have OX10:=OX9.out.call b10;have G10:=G9.out.call b10;have OG10:=OG9.out.call b10;clear b10 HB9 S9 OS9 X9 OX9 G9 OG9 P9
  have hm0:¬ (M:Int)<0:=by omega
  go_wp2_with (refine zaF 38 (.tmp 5) rfl rfl (w5.heap.size) rfl X10 Tryz.underlying38 zfl rfl ?_)
  refine (CK OX10).mono ?_;rintro e w11 ⟨rfl,OX11,c11⟩;have z11:w10.heap.size≤w11.heap.size:=c11.size;have B11:=B10.trans (c11.bel (B:=w1.heap.size) (by omega) (by omega));have S11:=S10.chg c11 (.inl (by omega));have OS11:=OS10.chg c11 (.inl (by omega));have G11:=G10.chg c11 (.inr (by omega));have OG11:=OG10.chg c11 (.inr (by omega));have u_0:w11.cell? ⟨w7.heap.size,0,none⟩=some (.int .i64 g0):=G11.cell 0;have u_1:w11.cell? ⟨w7.heap.size,1,none⟩=some (.slice gp gl gq):=G11.cell 1;have y_0:w11.cell? ⟨w3.heap.size,0,none⟩=some (.int .i64 s0):=S11.cell 0;have y_1:w11.cell? ⟨w3.heap.size,1,none⟩=some (.slice sp sl sq):=S11.cell 1;clear OX11 c11 B10 S10 OS10 X10 OX10 G10 OG10
  go_wp2_with fail
  refine (CE _ _ _ _ _ OG11.rd OS11.rd (by omega) (by omega)).mono ?_;rintro e w12 ⟨rfl,b12⟩;have z12:w11.heap.size≤w12.heap.size:=b12.size;have B12:=B11.trans (b12.mono (by omega));have S12:=S11.call b12;have OS12:=OS11.call b12;have G12:=G11.call b12;have OG12:=OG11.call b12;clear b12 B11 S11 OS11 G11 OG11 u_0 u_1 y_0 y_1
  go_wp2_with (refine zaF 32 (.tmp 6) rfl rfl (w7.heap.size) rfl G12 Tryz.underlying32 zds rfl ?_)
  refine (CM OG12).mono ?_;rintro e w13 ⟨rfl,OG13,c13⟩;have z13:w12.heap.size≤w13.heap.size:=c13.size;have B13:=B12.trans (c13.bel (B:=w1.heap.size) (by omega) (by omega));have S13:=S12.chg c13 (.inl (by omega));have OS13:=OS12.chg c13 (.inl (by omega));have G13:=G12.chg c13 (.inr (by omega));clear c13 B12 S12 OS12 G12 OG12
  go_wp2_with (refine zaF 32 (.tmp 6) rfl rfl (w7.heap.size) rfl G13 Tryz.underlying32 zds rfl ?_)
  refine (CH _ _ _ OG13.rd (by omega)).mono ?_;rintro e w14 ⟨rfl,b14⟩;have z14:w13.heap.size≤w14.heap.size:=b14.size;have B14:=B13.trans (b14.mono (by omega));have S14:=S13.call b14;have OS14:=OS13.call b14;have G14:=G13.call b14;have OG14:=OG13.call b14;have P14:=HT1.out.call B14;clear b14 B13 S13 OS13 G13 OG13
  have hn0:¬ (N:Int)<0:=by omega
  go_wp2_with (refine zaF 28 (.tmp 1) rfl rfl (w.heap.size) rfl P14.b1 Tryz.underlying28 zeD rfl ?_)
  refine (CT _ B14).mono ?_;rintro e w15 ⟨c15,rfl,o15,b15⟩
  go_wp2_with fail
  refine (CI _ _ _ o15.rd (Nat.le_refl _)).mono ?_;rintro e w16 ⟨cH,rfl,oH,b16⟩;obtain ⟨h0,hp,hl,hq,rfl⟩:=zcg oH.rd;have z15:w14.heap.size≤w15.heap.size:=b15.size;have z16:w15.heap.size≤w16.heap.size:=b16.size;have B16:=(B14.trans (b15.mono (by omega))).trans (b16.mono (by omega));have S16:=(S14.call b15).call b16;have OS16:=(OS14.call b15).call b16;have G16:=(G14.call b15).call b16;have OG16:=(OG14.call b15).call b16;clear P14 o15 b15 b16 B14 S14 OS14 G14 OG14
  go_upto_region 25 with (refine zbe 32 10 (.tmp 56) _ _ 2 rfl rfl rfl rfl rfl rfl rfl rfl zch rfl rfl oH.one ?_)
  have bA:=bAl w16 (.cells #[.int .i64 h0,.slice hp hl hq] 32);have H17:=zao w16 #[.int .i64 h0,.slice hp hl hq] 32;obtain ⟨W17,hW17⟩:∃ x,x=w16.alloc (.cells #[.int .i64 h0,.slice hp hl hq] 32):=⟨_,rfl⟩;rw [← hW17] at bA H17 ⊢;have B17:=B16.trans (bA.mono (by omega));have S17:=S16.call bA;have OS17:=OS16.call bA;have G17:=G16.call bA;have OG17:=OG16.call bA;have OH17:=oH.call bA;have z17:w16.heap.size<W17.heap.size:=H17.lt;clear bA hW17 oH B16 S16 OS16 G16 OG16
  go_wp2_with (first | (refine zaF 32 (.tmp 10) rfl rfl (w16.heap.size) rfl H17 Tryz.underlying32 zds rfl ?_) | (refine zaF 32 (.tmp 4) rfl rfl (w3.heap.size) rfl S17 Tryz.underlying32 zds rfl ?_))
  refine (CE _ _ _ _ _ OH17.rd OS17.rd (by omega) (by omega)).mono ?_;rintro e w18 ⟨rfl,b18⟩;have z18:W17.heap.size≤w18.heap.size:=b18.size;have B18:=B17.trans (b18.mono (by omega));have G18:=G17.call b18;have OG18:=OG17.call b18;clear b18 B17 S17 OS17 G17 OG17 OH17 H17
  go_wp2_with (refine zaF 32 (.tmp 6) rfl rfl (w7.heap.size) rfl G18 Tryz.underlying32 zds rfl ?_)
  refine (CH _ _ _ OG18.rd (by omega)).mono ?_;rintro e w19 ⟨rfl,b19⟩;have HB:Hid (Below w.heap.size w w19):=(HT1.out.call (B18.trans (b19.mono (by omega)))).bel;clear b19 B18 G18 OG18;go_wp2;go_ret;exact ⟨rfl,HB.out⟩
set_option maxRecDepth 100000 in
theorem zcL (os:Os) (started:os.Started) (H:Type) (enc:TypeId×Value→H) :
 ReturnsInHanded {} Tryz.checked os 3 .any (Rows.fnExactSpentRecsSpec.pre6 enc Tryz.prog Tryz.f3 Rows.fnExactSpentRecsRow.domain false) (Rows.fnExactSpentRecsSpec.post enc Tryz.prog Tryz.f3 false true false false):=by
 refine returnsInHanded_of_change (C:=Tryz.checked) zjh started (by kernel_rfl) Tryz.func3
  (ChangeSpec.witness6 (enc:=enc) (C:=Tryz.checked) false ⟨#[],#[.agg (rwV 0 0 0 0 0 0 0 0 0 none 0 0 none 0 0 none 0 0 0 0 false).toArray],[]⟩ 8 (by kernel_rfl) (by kernel_rfl) (by kernel_rfl) (by kernel_rfl)) ?_
 intro W base args ds gs before hval0 hW hcnd _;have hval:∀ (j:Nat) t v,Tryz.f3.params[j]?=some t→args[j]?=some v→Value.okWide Tryz.prog W .any base t v:=hval0;have hW':=hW;obtain ⟨p,q,hA0,hV,rfl,hfz,hnd⟩:=hW;have hA:DataW.TrodAll enc Tryz.prog W 0 (fun _=>true) true Tryz.f3.params.toList args.toList ds p:=hA0;rw [Tryz.params3] at hA hval;obtain ⟨v0,vs0,d0,ds0,p0,q0,hargs,rfl,rfl,h0,r0⟩:=trodAll_cons hA;obtain ⟨rfl,rfl,rfl⟩:=trodAll_nil r0
 obtain rfl:args=#[v0]:=by cases args;simp_all
 obtain ⟨rfl,rfl⟩:=trodVars_none hV;have k0:=h0
 have lt0:∀ x∈p0,x.block<W.heap.size:=by obtain ⟨m,hm⟩:=k0;exact DataW.trod_lt m _ _ _ hm
 obtain ⟨cs0,a0,rfl,rd0⟩:=ze3 zio Tryz.underlying28 (hval 0 28 v0 rfl rfl) h0;clear hA0 hval0;refine (zc8 a0 cs0 W rd0).mono fun e W' ⟨he,bel⟩=>?_;subst he;exact ⟨_,rfl,_,_,_,[],_,[],hW',trodAll_mk1 (shut_bool Tryz.underlying4 _),(trodAll_cons_mk (Below.trod zij (by kernel_rfl) (of_decide_eq_true (by kernel_rfl)) k0 bel lt0) trodAll_mk0),rfl,bel.frame _,fun h=>by cases h⟩
end Go.Proofs.YtajibninhikdgaaGreat
