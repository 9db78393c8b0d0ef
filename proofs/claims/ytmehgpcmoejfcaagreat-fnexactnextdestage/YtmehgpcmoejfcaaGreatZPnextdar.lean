/- l9Next of the specification. -/
import Derived.Test.YtmehgpcmoejfcaaGreatZPnextdaq
set_option linter.unusedVariables false
set_option linter.unusedSimpArgs false
set_option maxHeartbeats 16000000
namespace Go.Proofs.YtmehgpcmoejfcaaGreat
open Go.RowKit F256
theorem zl2 {w:World} {lo hi n cap:Nat} {ao:Option Addr} {x:Nat→RecD} {ce:Nat→List Value} (h:View zab 52 w lo hi (.slice ao n cap) n x ce):Src zab w hi ao n x ce:=by
 refine ⟨fun h0=>?_,fun j hj=>h.each j hj⟩;obtain ⟨g,cp,hv⟩:=h.form0 h0
 cases hv
 exact ⟨g,0,rfl,fun j hj k hk=>by rw [Nat.zero_add];exact h.cell hj hk⟩
theorem ziG {w:World} {lo hi n cap:Nat} {a:Option Addr} {f:Nat→Int} (h:OwnI w lo hi (.slice a n cap) n f) {m:Nat} (hm:m≤n):∃ cp,∀ W,(Instr.slice 25 (.slice a n cap) none (some (.int .i64 (m:Int))) none).run Tryz.prog W=.ok (.slice a m cp) W:=by
 rcases h.1.2 with ⟨hv,hn⟩ | ⟨g,cp,cur,hv,_,_,hnc,_⟩
 ·cases hv
  obtain rfl:m=0:=by omega
  exact ⟨0,fun W=>by simp [Instr.slice,run_underlying Tryz.underlying25,Instr.sliceBounds,Instr.sliceBound,asIntOf,go_sem]⟩
 ·cases hv
  have e1:(m:Int)≤(cap:Int):=by omega
  have e2:m≤cap:=by omega
  refine ⟨cap,fun W=>?_⟩
  by_cases h0:cap=0
  ·obtain rfl:m=0:=by omega
   simp [Instr.slice,run_underlying Tryz.underlying25,Instr.sliceBounds,Instr.sliceBound,asIntOf,go_sem,e1,e2]
  ·simp [Instr.slice,run_underlying Tryz.underlying25,Instr.sliceBounds,Instr.sliceBound,asIntOf,go_sem,e1,e2]
set_option maxRecDepth 100000 in
theorem zki (d:WorldD) (g:Int) (cs:List Value) (hi B:Nat) (w:World) (h:zal.rd w hi d cs) (hhi:hi≤w.heap.size) (hBX:Box w B cs.toArray 38) (hok:OkWorld d) :
 Calls Tryz.prog 18 #[.pointer (some ⟨B,0,none⟩),.int .i64 g] w fun e w'=>∃ l m,Cnt (recT d.tapes.2 2) (lenT d.tapes.2 2) l∧Live (fun i=>recT d.tapes.2 2 (l.getD i 0)) l.length m∧Below w.heap.size w w'∧((NdZ d.shape g ((zbf d g l m).1:Int) (fun i=>recT d.tapes.2 2 (l.getD i 0)) m (-1)∧e=.returned (.tuple #[.agg #[.int .i64 0,.int .i64 0,.string ⟨#[]⟩,.int .i64 0,.int .i64 0,.int .i64 0,.slice none 0 0,.slice none 0 0,.slice none 0 0],.slice none 0 0,.bool false]))∨∃ j:Nat,j<m.length∧NdZ d.shape g ((zbf d g l m).1:Int) (fun i=>recT d.tapes.2 2 (l.getD i 0)) m (j:Int)∧∃ (c:List Value) (a:Option Addr) (k pn cp:Nat),zab.rd w' w'.heap.size ((fun i=>recT d.tapes.2 2 (l.getD i 0)) (m.getD j 0)) c∧PfAns d.shape ((fun i=>recT d.tapes.2 2 (l.getD i 0)) (m.getD j 0)).length (pn:Int) 0∧pn≤(zbf d g l m).1∧OwnI w' w.heap.size w'.heap.size (.slice a (zbf d g l m).1 k) (zbf d g l m).1 (zbf d g l m).2∧e=.returned (.tuple #[.agg c.toArray,.slice a pn cp,.bool true])):=by
 have h':=h;obtain ⟨ao1,cap1,ao2,cap2,ao3,cap3,rfl,-⟩:=zaX h';have HRD:Hid (zal.rd w hi d (rwW d ao1 cap1 ao2 cap2 ao3 cap3)):=h;have HBX:Hid (Box w B (rwW d ao1 cap1 ao2 cap2 ao3 cap3).toArray 38):=hBX;have HOK:Hid (OkWorld d):=hok;have hBl:=hBX.lt;have h2:d.tapes.1=2:=hok.form.2.2;have hn0:(d.tapes.2 0).recs.1≤400000:=Nat.le_trans (hok.few 0 (by omega)) (by decide);have hn1:(d.tapes.2 1).recs.1≤400000:=Nat.le_trans (hok.few 1 (by omega)) (by decide);have T0:=zaL w #[.int .i64 0,.int .i64 0,.string ⟨#[]⟩,.int .i64 0,.int .i64 0,.int .i64 0,.slice none 0 0,.slice none 0 0,.slice none 0 0] 52;obtain ⟨W0,hW0⟩:∃ y,y=w.alloc (.cells #[.int .i64 0,.int .i64 0,.string ⟨#[]⟩,.int .i64 0,.int .i64 0,.int .i64 0,.slice none 0 0,.slice none 0 0,.slice none 0 0] 52):=⟨_,rfl⟩;rw [← hW0] at T0;have HT:Hid (One w W0 #[.int .i64 0,.int .i64 0,.string ⟨#[]⟩,.int .i64 0,.int .i64 0,.int .i64 0,.slice none 0 0,.slice none 0 0,.slice none 0 0] 52):=T0;have HB0:Hid (Box W0 B (rwW d ao1 cap1 ao2 cap2 ao3 cap3).toArray 38):=hBX.below T0.bel hBl;have CC:=zgu d (rwW d ao1 cap1 ao2 cap2 ao3 cap3) hi B W0 (zal.rd_below h T0.bel hhi) (Nat.le_trans hhi T0.bel.size) HB0.out h2 hn0 hn1;have HH2:Hid (d.tapes.1=2):=h2;clear h h' hBX hok T0 h2
 go_enter Tryz.func18,Tryz.ntmps18
 go_upto_region 1 with fail
 rw [← hW0];clear hW0
 go_wp2_with fail
 refine CC.mono ?_;rintro e w2 ⟨v2,l,ce,lo2,rfl,hCt,hlo2,V,b2⟩;have HL:Hid (Cnt (recT d.tapes.2 2) (lenT d.tapes.2 2) l):=hCt;have HT2:Hid (One w w2 #[.int .i64 0,.int .i64 0,.string ⟨#[]⟩,.int .i64 0,.int .i64 0,.int .i64 0,.slice none 0 0,.slice none 0 0,.slice none 0 0] 52):=HT.out.call b2;have z0:w.heap.size<W0.heap.size:=HT.out.b1.lt;have z2:W0.heap.size≤w2.heap.size:=b2.size;have HB2:Hid (Box w2 B (rwW d ao1 cap1 ao2 cap2 ao3 cap3).toArray 38):=HB0.out.below b2 (by omega)
 have hlen:l.length≤800000:=by
  have h1:=(hCt.sum (fun _=>0)).2
  have e2:lenT d.tapes.2 2=(d.tapes.2 0).recs.1+(d.tapes.2 1).recs.1:=by simp [lenT]
  omega
 have hh2:hi≤w2.heap.size:=by omega
 have HV2:Hid (∀ W,Below w2.heap.size w2 W→(zab.slice 52).rd W w2.heap.size (l.length,(fun i=>recT d.tapes.2 2 (l.getD i 0))) [v2]):=fun W hb=>Lay.rd_below _ (V.rd hh2) hb (Nat.le_refl _);have CL:=zfp hi v2 l.length (fun i=>recT d.tapes.2 2 (l.getD i 0)) w2.heap.size w2 (V.rd hh2) hh2 (fun ao cap e W hb=>by subst e;exact ⟨_,zl2 (V.below hb hh2)⟩) (Nat.le_refl _) hlen;clear CC hCt V b2 HT
 go_wp2_with fail
 refine CL.mono ?_;rintro e w3 ⟨v3,m,cm,lo3,rfl,hLM,hlo3,VM,b3⟩;have HM:Hid (Live (fun i=>recT d.tapes.2 2 (l.getD i 0)) l.length m):=hLM;have HT3:Hid (One w w3 #[.int .i64 0,.int .i64 0,.string ⟨#[]⟩,.int .i64 0,.int .i64 0,.int .i64 0,.slice none 0 0,.slice none 0 0,.slice none 0 0] 52):=HT2.out.call b3;have z3:w2.heap.size≤w3.heap.size:=b3.size;have HB3:Hid (Box w3 B (rwW d ao1 cap1 ao2 cap2 ao3 cap3).toArray 38):=HB2.out.below b3 (by omega);have HVM:Hid (View zab 52 w3 lo3 hi v3 m.length (fun i=>(fun i=>recT d.tapes.2 2 (l.getD i 0)) (m.getD i 0)) cm):=VM;have CF:=zkd d.shape HOK.out.shape v2 l.length (fun i=>recT d.tapes.2 2 (l.getD i 0)) g w2.heap.size w3 (HV2.out w3 b3) z3 hlen (zgz HOK.out HL.out);unfold zak at CF;have x_0:w3.cell? ⟨B,0,none⟩=some (.int .i64 (d.shape 0)):=HB3.out.cell 0;have x_1:w3.cell? ⟨B,1,none⟩=some (.int .i64 (d.shape 1)):=HB3.out.cell 1;have x_2:w3.cell? ⟨B,2,none⟩=some (.int .i64 (d.shape 2)):=HB3.out.cell 2;have x_3:w3.cell? ⟨B,3,none⟩=some (.int .i64 (d.shape 3)):=HB3.out.cell 3;have x_4:w3.cell? ⟨B,4,none⟩=some (.int .i64 (d.shape 4)):=HB3.out.cell 4;have x_5:w3.cell? ⟨B,5,none⟩=some (.int .i64 (d.shape 5)):=HB3.out.cell 5;have x_6:w3.cell? ⟨B,6,none⟩=some (.int .i64 (d.shape 6)):=HB3.out.cell 6;have x_7:w3.cell? ⟨B,7,none⟩=some (.int .i64 (d.shape 7)):=HB3.out.cell 7;have x_8:w3.cell? ⟨B,8,none⟩=some (.int .i64 (d.shape 8)):=HB3.out.cell 8;clear CL hLM VM b3 HT2 HV2
 go_wp2_with fail
 refine CF.mono ?_;rintro e w4 ⟨m',vF,rfl,hLM',hO,b4⟩;obtain rfl:=HM.out.uniq hLM';obtain ⟨aF,capF,rfl⟩:=hO.slice;have HT4:Hid (One w w4 #[.int .i64 0,.int .i64 0,.string ⟨#[]⟩,.int .i64 0,.int .i64 0,.int .i64 0,.slice none 0 0,.slice none 0 0,.slice none 0 0] 52):=HT3.out.call b4;have z4:w3.heap.size≤w4.heap.size:=b4.size;have HB4:Hid (Box w4 B (rwW d ao1 cap1 ao2 cap2 ao3 cap3).toArray 38):=HB3.out.below b4 (by omega);obtain ⟨nF,hnF⟩:∃ n,n=(zbf d g l m).1:=⟨_,rfl⟩;have HNF:Hid (nF=(zbf d g l m).1):=hnF;have HO:Hid (OwnI w4 w3.heap.size w4.heap.size (.slice aF (zbf d g l m).1 capF) (zbf d g l m).1 (zbf d g l m).2):=hO;have HV4:Hid (View zab 52 w4 lo3 hi v3 m.length (fun i=>(fun i=>recT d.tapes.2 2 (l.getD i 0)) (m.getD i 0)) cm):=HVM.out.below b4 (by omega);obtain ⟨x0,hx0⟩:∃ x,x=(fun i=>(fun i=>recT d.tapes.2 2 (l.getD i 0)) (m.getD i 0)):=⟨_,rfl⟩;have HX0:Hid (x0=(fun i=>(fun i=>recT d.tapes.2 2 (l.getD i 0)) (m.getD i 0))):=hx0
 have HV5:Hid (View zab 52 w4 lo3 hi v3 m.length x0 cm):=by rw [hx0];exact HV4
 obtain ⟨aw,capw,hu⟩:=HV5.out.form;subst hu
 have hml:m.length≤800000:=by have:=(zeV HM.out (fun _=>0)).2;omega
 have HCN:Hid (∀ j,NdC d.shape g (nF:Int) (fun i=>recT d.tapes.2 2 (l.getD i 0)) m j↔((j<m.length∧(x0 j).data.1≠0)∧zb6 d.shape (x0 j).name=g)∧Fits d.shape (x0 j).length (nF:Int)):=fun j=>by rw [hx0];exact Iff.rfl
 have HNM:Hid (∀ j,j<m.length→(x0 j).kind=1∧zbd (x0 j).name∧zbc d.shape (x0 j)):=fun j hj=>by
  rw [hx0];have hmm:=(HM.out.1 _).1 (zfq (l:=m) (i:=j) hj);exact ⟨hmm.2.1,(zgz HOK.out HL.out _ hmm.1 hmm.2.1).1,zi9 HOK.out HL.out hmm.1⟩
 obtain ⟨cS,hcS⟩:∃ c:List Value,c=(rwS d.shape):=⟨_,rfl⟩;have HCS:Hid (cS=(rwS d.shape)):=hcS
 have hlS:cS.length=9:=by rw [hcS];rfl
 have hsb:=okB HOK.out.shape
 have hFe:(zcz (zdS d.shape (fun i=>recT d.tapes.2 2 (l.getD i 0)) l.length m g) (d.shape 4).toNat).length=nF:=by rw [hnF];rfl
 rw [hFe];clear CF hLM' hO b4 HT3 HB3 x_0 x_1 x_2 x_3 x_4 x_5 x_6 x_7 x_8 hx0 hcS hnF HV4 HVM hFe;go_wp2
 go_loopw [10,11] (fun z i wr=>∃ (k:Nat) (zz:Int),k≤m.length∧i=.int .i64 k∧z=.int .i64 zz∧NdU (NdC d.shape g (nF:Int) (fun i=>recT d.tapes.2 2 (l.getD i 0)) m) (fun j=>(x0 j).seq) k zz∧Below w4.heap.size w4 wr) (fun _ i _=>m.length-(intOf i).toNat)
 case atStart=>exact ⟨0,-1,Nat.zero_le _,rfl,rfl,NdU.nil _ _,Below.refl _ _⟩
 case round=>
  obtain ⟨k,zz,hk,rfl,rfl,hU,hbl⟩:=hrel;obtain ⟨wx,rfl⟩:∃ y,y=wr:=⟨_,rfl⟩;have HU:Hid (NdU (NdC d.shape g (nF:Int) (fun i=>recT d.tapes.2 2 (l.getD i 0)) m) (fun j=>(x0 j).seq) k zz):=hU;have HBL:Hid (Below w4.heap.size w4 wx):=hbl;have zx:=hbl.size;clear hU
  by_cases hlt:k<m.length
  ·obtain ⟨gb,capb,hv⟩:=HV5.out.form0 (by omega)
   have VX:=HV5.out.below hbl (by omega);rw [hv] at VX;have rgK:wx.rangeAt gb (k*9) (cm k):=VX.range hlt;have rdK:=VX.each k hlt;obtain ⟨r,hr⟩:∃ r,r=x0 k:=⟨_,rfl⟩;rw [← hr] at rdK;have HR:Hid (r=x0 k):=hr;obtain ⟨a6,k6,a7,k7,a8,k8,hce,-⟩:=zaF rdK;have HCE:Hid (cm k=(rwR r a6 k6 a7 k7 a8 k8)):=hce;have oneJ:∀ v,v∈cm k→v.oneCell'=true:=zaA _ _ _ _ rdK;have hcJ:(cm k).length=9:=VX.lens k hlt;obtain ⟨cJ,hcJe⟩:∃ c,c=cm k:=⟨_,rfl⟩;have HCJ:Hid (cJ=cm k):=hcJe;rw [← hcJe] at rgK oneJ hcJ
   have i1:(0:Int)≤(k:Int):=by omega
   have i2:(k:Int)<(m.length:Int):=by omega
   have bV:=bAl wx (.cells cJ.toArray 52);have V1:=zan wx cJ.toArray 52
   have hva:aw=some ⟨gb,0,none⟩:=by cases hv;rfl
   subst hva;have HVX:Hid (View zab 52 wx lo3 hi (.slice (some ⟨gb,0,none⟩) m.length capb) m.length x0 cm):=VX;clear hbl VX rdK hr hce hcJe hv
   go_upto_region 9 with (first | (refine wpList_load_mid rfl 52 (.tmp 32) rfl gb (k*9) (by simp [Act.eval]) cJ _ rgK Tryz.underlying52 rfl (zae hcJ) ?_) | (refine zaB 52 12 (.tmp 33) cJ _ 9 rfl rfl rfl rfl rfl rfl rfl rfl zbt rfl hcJ oneJ ?_))
   obtain ⟨W5,hW5⟩:∃ y,y=wx.alloc (.cells cJ.toArray 52):=⟨_,rfl⟩;rw [← hW5] at bV V1 ⊢
   have e5:cJ.toArray=(rwR r a6 k6 a7 k7 a8 k8).toArray:=by rw [HCJ.out,HCE.out]
   rw [e5] at V1;clear hW5 rgK oneJ hcJ e5;have z5:=bV.size;have HV1:Hid (Box W5 wx.heap.size (rwR r a6 k6 a7 k7 a8 k8).toArray 52):=V1;have HB5:Hid (Below w4.heap.size w4 W5):=HBL.out.trans (bV.mono zx);obtain ⟨D,hD⟩:∃ D,D=W5.drew:=⟨_,rfl⟩;have HD:Hid (D=W5.drew):=hD
   have b5D:Below W5.heap.size W5 D:=by rw [hD];exact ⟨rfl,rfl,rfl,Nat.le_refl _,fun _ _=>rfl⟩
   have HBD:Hid (Below w4.heap.size w4 D):=HB5.out.trans (b5D.mono HB5.out.size);have zD:W5.heap.size≤D.heap.size:=b5D.size;have zV:=V1.lt
   have HS:Hid (∀ w',Below D.heap.size D w'→(w'.rangeAt B 0 cS∧w'.cell? ⟨wx.heap.size,2,none⟩=some (.string r.name)∧w'.cell? ⟨wx.heap.size,3,none⟩=some (.int .i64 r.length)∧w'.cell? ⟨wx.heap.size,7,none⟩=some (.slice a7 r.data.1 k7))):=fun w' hb=>by
    have X1:=(HV1.out.below b5D HV1.out.lt).below hb (by omega);have X2:=(HB4.out.below HBD.out (by omega)).below hb (by have:=HBD.out.size;omega);refine ⟨fun j v hv=>?_,X1.cell 2,X1.cell 3,X1.cell 7⟩
    have hj:j<9:=by rw [← hlS];exact (List.getElem?_eq_some_iff.1 hv).1
    rw [HCS.out] at hv;rw [Nat.zero_add];refine (X2.cell j).trans ?_;rw [← hv]
    match j,hj with
    | 0,_=>rfl
    | 1,_=>rfl
    | 2,_=>rfl
    | 3,_=>rfl
    | 4,_=>rfl
    | 5,_=>rfl
    | 6,_=>rfl
    | 7,_=>rfl
    | 8,_=>rfl
   have hS0:=HS.out D (Below.refl _ _);have hNMk:=HNM.out k hlt;rw [← HR.out] at hNMk;have CH0:=ze5 d.shape r.name hNMk.2.1.2.1 (by omega) (by omega) D;rw [show zak d.shape=.agg cS.toArray by rw [HCS.out];rfl] at CH0;obtain ⟨hv,hhv⟩:∃ h,h=zb6 d.shape r.name:=⟨_,rfl⟩;have HHV:Hid (hv=zb6 d.shape r.name):=hhv;rw [show (zbm r.name r.name.size:Int)%d.shape 0=hv from hhv.symm] at CH0;have CH:=zb7 CH0
   have HCK:Hid (NdC d.shape g (nF:Int) (fun i=>recT d.tapes.2 2 (l.getD i 0)) m k↔((k<m.length∧r.data.1≠0)∧zb6 d.shape r.name=g)∧Fits d.shape r.length (nF:Int)):=by rw [HR.out];exact HCN.out k
   have HNK:Hid (r.kind=1∧zbd r.name∧zbc d.shape r):=hNMk;have HBV:Hid (Below wx.heap.size wx D):=bV.trans (b5D.mono bV.size);clear CH0 hhv hD hNMk bV V1 b5D
   by_cases hd:r.data.1=0
   ·have e7:((r.data.1:Int)==0)=true:=by simp [hd]
    have HD0:Hid (r.data.1=0):=hd;clear CH hd;refine zai 27 (fun w'=>w'.rangeAt B 0 cS∧w'.cell? ⟨wx.heap.size,2,none⟩=some (.string r.name)∧w'.cell? ⟨wx.heap.size,3,none⟩=some (.int .i64 r.length)∧w'.cell? ⟨wx.heap.size,7,none⟩=some (.slice a7 r.data.1 k7)) zdu (by rw [← HD.out];exact hS0) (fun hHeld=>?_);rw [← HD.out] at hHeld ⊢;refine zmS 0 rfl ?_
    try simp only [Act.put,SL]
    refine zaC (i:=1) (oi:=_) (v:=?_) rfl (by kernel_rfl) (fun _ _ _ h=>h) (Or.inl ⟨by kernel_rfl,?_⟩) (by assumption) ?_
    rotate_left
    ·intro w' hSw
     try dsimp only at hSw
     obtain ⟨q1,q2,q3,q4⟩:=hSw;go_simp
     try with_reducible rfl
    try simp only [Act.put,SL]
    refine zmS 2 rfl ?_
    try simp only [Act.put,SL]
    refine zaa (i:=3) (oi:=_) (v:=.bool true) rfl (by kernel_rfl) (fun _ _ _ h=>h) (Or.inl ⟨by kernel_rfl,?_⟩) (by assumption) ?_
    ·intro w' hSw
     go_simp
     first | done | with_reducible rfl | simp [e7] | (rw [e7]) | (simp;omega)
    try simp only [Act.put,SL]
    refine zmS 4 rfl ?_
    try simp only [Act.put,SL]
    refine zmU 5 rfl ?_
    try simp only [Act.put,SL]
    refine zmU 6 rfl ?_
    try simp only [Act.put,SL]
    refine zmU 7 rfl ?_
    try simp only [Act.put,SL]
    refine zmU 8 rfl ?_
    try simp only [Act.put,SL]
    refine zmU 9 rfl ?_
    try simp only [Act.put,SL]
    refine zmU 10 rfl ?_
    try simp only [Act.put,SL]
    refine zmU 11 rfl ?_
    try simp only [Act.put,SL]
    refine zmU 12 rfl ?_
    try simp only [Act.put,SL]
    refine zmU 13 rfl ?_
    try simp only [Act.put,SL]
    refine zmS 14 rfl ?_
    try simp only [Act.put,SL]
    refine zmS 15 rfl ?_
    try simp only [Act.put,SL]
    refine zmU 16 rfl ?_
    try simp only [Act.put,SL]
    refine zmU 17 rfl ?_
    try simp only [Act.put,SL]
    refine zmU 18 rfl ?_
    try simp only [Act.put,SL]
    refine zmU 19 rfl ?_
    try simp only [Act.put,SL]
    refine zmU 20 rfl ?_
    try simp only [Act.put,SL]
    refine zmU 21 rfl ?_
    try simp only [Act.put,SL]
    refine zmU 22 rfl ?_
    try simp only [Act.put,SL]
    refine zmU 23 rfl ?_
    try simp only [Act.put,SL]
    refine zmU 24 rfl ?_
    try simp only [Act.put,SL]
    refine zmU 25 rfl ?_
    try simp only [Act.put,SL]
    refine zmS 26 rfl ?_
    try simp only [Act.put,SL]
    refine zaf (by kernel_rfl) ?_ _;clear hS0 hHeld e7;have HB9:Hid (Below w4.heap.size w4 D):=HBD.out;go_wp2
    go_roundw
    case rel=>exact ⟨k+1,zz,by omega,by go_num,rfl,NdU.skip HU.out (fun hc=>absurd HD0.out (HCK.out.1 hc).1.1.2),HB9.out⟩
    case measure=>simp [intOf];omega
   ·have e7:((r.data.1:Int)==0)=false:=by simp [hd]
    have HD0:Hid (r.data.1≠0):=hd;clear hd
    by_cases hh:hv=g
    ·have e8:(hv != g)=false:=by simp [hh]
     have HH:Hid (zb6 d.shape r.name=g):=by
      show zb6 d.shape r.name=g
      rw [← HHV.out];exact hh
     clear hh
     have hl2:1≤r.length∧r.length≤3*(d.shape 2*4):=by
      rcases HNK.out.2.2 with ⟨_,h⟩ | ⟨h,_⟩ | ⟨h,_⟩ | ⟨h,_⟩
      ·rcases h with ⟨_,h,_⟩ | ⟨_,h1,h2,_⟩
       ·exact absurd h HD0.out
       ·exact ⟨h1,h2⟩
      ·have:=HNK.out.1;omega
      ·have:=HNK.out.1;omega
      ·have:=HNK.out.1;omega
     obtain ⟨pv,hpv⟩:∃ p,p=(r.length+d.shape 2*4-1)/(d.shape 2*4):=⟨_,rfl⟩;have HP:Hid (PfAns d.shape r.length pv 0):=.inr (.inr (.inr ⟨HOK.out.shape,hl2.1,hl2.2,rfl,hpv⟩))
     have CP0:∀ W,Calls Tryz.prog 49 #[.agg cS.toArray,.int .i64 r.length] W fun e w'=>e=.returned (.int .i64 pv)∧Below W.heap.size W w':=fun W=>by
      have h:=zdO d.shape (by omega) (by omega) r.length (by omega) (by omega) W;rw [show zak d.shape=.agg cS.toArray by rw [HCS.out];rfl,← hpv] at h;exact h
     clear hpv hl2
     by_cases hf:pv≤(nF:Int)
     ·have e9:decide ((nF:Int)<pv)=false:=by simp;omega
      have HCY:Hid (NdC d.shape g (nF:Int) (fun i=>recT d.tapes.2 2 (l.getD i 0)) m k):=HCK.out.2 ⟨⟨⟨hlt,HD0.out⟩,HH.out⟩,⟨pv,0,HP.out,hf⟩⟩;refine zai 27 (fun w'=>w'.rangeAt B 0 cS∧w'.cell? ⟨wx.heap.size,2,none⟩=some (.string r.name)∧w'.cell? ⟨wx.heap.size,3,none⟩=some (.int .i64 r.length)∧w'.cell? ⟨wx.heap.size,7,none⟩=some (.slice a7 r.data.1 k7)) zdu (by rw [← HD.out];exact hS0) (fun hHeld=>?_);rw [← HD.out] at hHeld ⊢;refine zmS 0 rfl ?_
      try simp only [Act.put,SL]
      refine zaC (i:=1) (oi:=_) (v:=?_) rfl (by kernel_rfl) (fun _ _ _ h=>h) (Or.inl ⟨by kernel_rfl,?_⟩) (by assumption) ?_
      rotate_left
      ·intro w' hSw
       try dsimp only at hSw
       obtain ⟨q1,q2,q3,q4⟩:=hSw;go_simp
       try with_reducible rfl
      try simp only [Act.put,SL]
      refine zmS 2 rfl ?_
      try simp only [Act.put,SL]
      refine zaa (i:=3) (oi:=_) (v:=.bool false) rfl (by kernel_rfl) (fun _ _ _ h=>h) (Or.inl ⟨by kernel_rfl,?_⟩) (by assumption) ?_
      ·intro w' hSw
       go_simp
       first | done | with_reducible rfl | simp [e7] | (rw [e7]) | (simp;omega)
      try simp only [Act.put,SL]
      refine zmS 4 rfl ?_
      try simp only [Act.put,SL]
      refine zmS 5 rfl ?_
      try simp only [Act.put,SL]
      refine zmS 9 rfl ?_
      try simp only [Act.put,SL]
      refine zaC (i:=10) (oi:=_) (v:=?_) rfl (by kernel_rfl) (fun _ _ _ h=>h) (Or.inl ⟨by kernel_rfl,?_⟩) (by assumption) ?_
      rotate_left
      ·intro w' hSw
       try dsimp only at hSw
       obtain ⟨q1,q2,q3,q4⟩:=hSw;go_simp
       try with_reducible rfl
      try simp only [Act.put,SL]
      refine zmS 12 rfl ?_
      try simp only [Act.put,SL]
      refine zap (i:=6) (o:=_) rfl (by kernel_rfl) (fun KC hKC=>?_);go_simp;refine hKC _ _ hS0 ?_;clear hKC KC
      try simp only [Act.put,SL]
      refine zmS 7 rfl ?_
      try simp only [Act.put,SL]
      refine zaC (i:=8) (oi:=_) (v:=.agg cS.toArray) rfl (by kernel_rfl) (fun _ _ _ h=>h) (yieldsIf_load_mid (by kernel_rfl) 34 (.tmp 41) rfl B (0) (by simp [Act.eval,Act.put]) cS _ (fun w h=>h.1) Tryz.underlying34 rfl (zcm hlS)) (by assumption) ?_
      try simp only [Act.put,SL]
      refine zap (i:=11) (o:=_) rfl (by kernel_rfl) (fun KC hKC=>?_);refine zaH (by kernel_rfl) (.func 48) 48 #[] _ _ rfl (by simp [Act.eval,Act.put]) #[.agg cS.toArray,.string r.name] (by simp [Act.eval,Act.put]) Tryz.func48 (by kernel_rfl) (by kernel_rfl) CH ?_;rintro e w7 ⟨rfl,b7⟩;refine ⟨_,rfl,?_⟩;have hS7:=HS.out _ b7;refine hKC _ _ hS7 ?_;clear hKC KC
      try simp only [Act.put,SL]
      refine zaa (i:=13) (oi:=_) (v:=.bool false) rfl (by kernel_rfl) (fun _ _ _ h=>h) (Or.inl ⟨by kernel_rfl,?_⟩) (by assumption) ?_
      ·intro w' hSw
       go_simp
       first | done | with_reducible rfl | simp [e8] | (rw [e8]) | (simp;omega)
      try simp only [Act.put,SL]
      refine zmS 14 rfl ?_
      try simp only [Act.put,SL]
      refine zmS 15 rfl ?_
      try simp only [Act.put,SL]
      refine zmS 16 rfl ?_
      try simp only [Act.put,SL]
      refine zmS 20 rfl ?_
      try simp only [Act.put,SL]
      refine zaC (i:=21) (oi:=_) (v:=?_) rfl (by kernel_rfl) (fun _ _ _ h=>h) (Or.inl ⟨by kernel_rfl,?_⟩) (by assumption) ?_
      rotate_left
      ·intro w' hSw
       try dsimp only at hSw
       obtain ⟨q1,q2,q3,q4⟩:=hSw;go_simp
       try with_reducible rfl
      try simp only [Act.put,SL]
      refine zmS 23 rfl ?_
      try simp only [Act.put,SL]
      refine zmS 24 rfl ?_
      try simp only [Act.put,SL]
      refine zap (i:=17) (o:=_) rfl (by kernel_rfl) (fun KC hKC=>?_);go_simp;refine hKC _ _ hS7 ?_;clear hKC KC
      try simp only [Act.put,SL]
      refine zmS 18 rfl ?_
      try simp only [Act.put,SL]
      refine zaC (i:=19) (oi:=_) (v:=.agg cS.toArray) rfl (by kernel_rfl) (fun _ _ _ h=>h) (yieldsIf_load_mid (by kernel_rfl) 34 (.tmp 52) rfl B (0) (by simp [Act.eval,Act.put]) cS _ (fun w h=>h.1) Tryz.underlying34 rfl (zcm hlS)) (by assumption) ?_
      try simp only [Act.put,SL]
      refine zap (i:=22) (o:=_) rfl (by kernel_rfl) (fun KC hKC=>?_);refine zaH (by kernel_rfl) (.func 49) 49 #[] _ _ rfl (by simp [Act.eval,Act.put]) #[.agg cS.toArray,.int .i64 r.length] (by simp [Act.eval,Act.put]) Tryz.func49 (by kernel_rfl) (by kernel_rfl) (zb7 (CP0 w7)) ?_;rintro e w8 ⟨rfl,b8⟩;refine ⟨_,rfl,?_⟩;have hS8:=HS.out _ (b7.trans (b8.mono b7.size));refine hKC _ _ hS8 ?_;clear hKC KC
      try simp only [Act.put,SL]
      refine zaa (i:=25) (oi:=_) (v:=.bool false) rfl (by kernel_rfl) (fun _ _ _ h=>h) (Or.inl ⟨by kernel_rfl,?_⟩) (by assumption) ?_
      ·intro w' hSw
       go_simp
       first | done | with_reducible rfl | simp [e9] | (rw [e9]) | (simp;omega)
      try simp only [Act.put,SL]
      refine zmS 26 rfl ?_
      try simp only [Act.put,SL]
      refine zaf (by kernel_rfl) ?_ _;have B8:Hid (Below w4.heap.size w4 w8):=HBD.out.trans ((b7.trans (b8.mono b7.size)).mono HBD.out.size)
      have HV8:Hid (Box w8 wx.heap.size (rwR r a6 k6 a7 k7 a8 k8).toArray 52):=by
       have X1:=(HV1.out.below (by rw [HD.out];exact ⟨rfl,rfl,rfl,Nat.le_refl _,fun _ _=>rfl⟩:Below W5.heap.size W5 D) HV1.out.lt);exact X1.below (b7.trans (b8.mono b7.size)) (by omega)
      have z8:D.heap.size≤w8.heap.size:=(b7.trans (b8.mono b7.size)).size;have BX8:Hid (Below wx.heap.size wx w8):=HBV.out.trans ((b7.trans (b8.mono b7.size)).mono HBV.out.size);clear hS0 hHeld e7 e8 e9 hS7 hS8 CH CP0 b7 b8 hf;have qD:Below w8.heap.size w8 w8.drew:=⟨rfl,rfl,rfl,Nat.le_refl _,fun _ _=>rfl⟩;have HB9:Hid (Below w4.heap.size w4 w8.drew):=B8.out.trans (qD.mono B8.out.size);have HQD:Hid (Below w8.heap.size w8 w8.drew):=qD;clear qD
      rcases HU.out with ⟨rfl,hu⟩ | ⟨kz,hkz,rfl,ck,hu⟩
      ·have HUU:Hid (NdU (NdC d.shape g (nF:Int) (fun i=>recT d.tapes.2 2 (l.getD i 0)) m) (fun j=>(x0 j).seq) k (-1)):=.inl ⟨rfl,hu⟩
       have tm:decide ((-1:Int)<0)=true:=by decide
       clear hu
       go_upto_region 10 with fail
       refine zai 12 (fun w'=>True) zdu trivial (fun hHeld=>?_);refine zmS 0 rfl ?_
       try simp only [Act.put,SL]
       refine zaa (i:=1) (oi:=_) (v:=.bool true) rfl (by kernel_rfl) (fun _ _ _ h=>h) (Or.inl ⟨by kernel_rfl,?_⟩) (by assumption) ?_
       ·intro w' hSw
        go_simp
        first | done | with_reducible rfl | simp [tm] | (rw [tm]) | (simp;omega)
       try simp only [Act.put,SL]
       refine zmS 2 rfl ?_
       try simp only [Act.put,SL]
       refine zmU 3 rfl ?_
       try simp only [Act.put,SL]
       refine zmU 4 rfl ?_
       try simp only [Act.put,SL]
       refine zmU 5 rfl ?_
       try simp only [Act.put,SL]
       refine zmU 6 rfl ?_
       try simp only [Act.put,SL]
       refine zmU 7 rfl ?_
       try simp only [Act.put,SL]
       refine zmU 8 rfl ?_
       try simp only [Act.put,SL]
       refine zmU 9 rfl ?_
       try simp only [Act.put,SL]
       refine zmU 10 rfl ?_
       try simp only [Act.put,SL]
       refine zmS 11 rfl ?_
       try simp only [Act.put,SL]
       refine zaf (by kernel_rfl) ?_ _;clear hHeld tm;go_wp2
       go_roundw
       case rel=>exact ⟨k+1,(k:Int),by omega,by go_num,rfl,NdU.first HUU.out HCY.out,HB9.out⟩
       case measure=>simp [intOf];omega
      ·have HUU:Hid (NdU (NdC d.shape g (nF:Int) (fun i=>recT d.tapes.2 2 (l.getD i 0)) m) (fun j=>(x0 j).seq) k (kz:Int)):=.inr ⟨kz,hkz,rfl,ck,hu⟩
       have tm:decide ((kz:Int)<0)=false:=by simp
       have hz:kz<m.length:=by omega
       have VZ:=(HVX.out.below BX8.out (by omega)).below HQD.out (by have:=BX8.out.size;omega);have rgz:=VZ.range hz;obtain ⟨c6,n6,c7,n7,c8,n8,hcz,-⟩:=zaF (VZ.each kz hz);have q2:w8.drew.cell? ⟨gb,kz*9+1,none⟩=some (.int .i64 (x0 kz).seq):=rgz 1 _ (by rw [hcz];rfl);have q1:w8.drew.cell? ⟨wx.heap.size,1,none⟩=some (.int .i64 r.seq):=(HV8.out.below HQD.out HV8.out.lt).cell 1;obtain ⟨sz,hsz⟩:∃ s,s=(x0 kz).seq:=⟨_,rfl⟩;rw [← hsz] at q2;have HSZ:Hid (sz=(x0 kz).seq):=hsz
       have i3:(0:Int)≤(kz:Int):=by omega
       have i4:(kz:Int)<(m.length:Int):=by omega
       have hS9:w8.drew.cell? ⟨wx.heap.size,1,none⟩=some (.int .i64 r.seq)∧w8.drew.cell? ⟨gb,kz*9+1,none⟩=some (.int .i64 sz):=⟨q1,q2⟩;clear hu ck VZ rgz hcz q1 q2 hsz
       go_upto_region 10 with fail
       by_cases hl:r.seq<sz
       ·have el:decide (r.seq<sz)=true:=by simp [hl]
        refine zai 12 (fun w'=>w'.cell? ⟨wx.heap.size,1,none⟩=some (.int .i64 r.seq)∧w'.cell? ⟨gb,kz*9+1,none⟩=some (.int .i64 sz)) zdu hS9 (fun hHeld=>?_);refine zmS 0 rfl ?_
        try simp only [Act.put,SL]
        refine zaa (i:=1) (oi:=_) (v:=.bool false) rfl (by kernel_rfl) (fun _ _ _ h=>h) (Or.inl ⟨by kernel_rfl,?_⟩) (by assumption) ?_
        ·intro w' hSw
         go_simp
         first | done | with_reducible rfl | simp [tm] | (rw [tm]) | (simp;omega)
        try simp only [Act.put,SL]
        refine zmS 2 rfl ?_
        try simp only [Act.put,SL]
        refine zmS 3 rfl ?_
        try simp only [Act.put,SL]
        refine zaC (i:=4) (oi:=_) (v:=?_) rfl (by kernel_rfl) (fun _ _ _ h=>h) (Or.inl ⟨by kernel_rfl,?_⟩) (by assumption) ?_
        rotate_left
        ·intro w' hSw
         try dsimp only at hSw
         obtain ⟨q1,q2⟩:=hSw;go_simp
         try with_reducible rfl
        try simp only [Act.put,SL]
        refine zmS 5 rfl ?_
        try simp only [Act.put,SL]
        refine zmS 6 rfl ?_
        try simp only [Act.put,SL]
        refine zap (i:=7) (o:=_) rfl (by kernel_rfl) (fun KC hKC=>?_);go_simp;refine hKC _ _ hHeld ?_;clear hKC KC
        try simp only [Act.put,SL]
        refine zmS 8 rfl ?_
        try simp only [Act.put,SL]
        refine zaC (i:=9) (oi:=_) (v:=?_) rfl (by kernel_rfl) (fun _ _ _ h=>h) (Or.inl ⟨by kernel_rfl,?_⟩) (by assumption) ?_
        rotate_left
        ·intro w' hSw
         try dsimp only at hSw
         obtain ⟨q1,q2⟩:=hSw;go_simp
         try with_reducible rfl
        try simp only [Act.put,SL]
        refine zaa (i:=10) (oi:=_) (v:=.bool true) rfl (by kernel_rfl) (fun _ _ _ h=>h) (Or.inl ⟨by kernel_rfl,?_⟩) (by assumption) ?_
        ·intro w' hSw
         go_simp
         first | done | with_reducible rfl | simp [el] | (rw [el]) | (simp;omega)
        try simp only [Act.put,SL]
        refine zmS 11 rfl ?_
        try simp only [Act.put,SL]
        refine zaf (by kernel_rfl) ?_ _;clear hHeld tm hS9 el;go_wp2
        go_roundw
        case rel=>exact ⟨k+1,(k:Int),by omega,by go_num,rfl,NdU.less HUU.out HCY.out (by show (x0 k).seq<(x0 kz).seq;rw [← HR.out,← HSZ.out];exact hl),HB9.out⟩
        case measure=>simp [intOf];omega
       ·have el:decide (r.seq<sz)=false:=by simp;omega
        refine zai 12 (fun w'=>w'.cell? ⟨wx.heap.size,1,none⟩=some (.int .i64 r.seq)∧w'.cell? ⟨gb,kz*9+1,none⟩=some (.int .i64 sz)) zdu hS9 (fun hHeld=>?_);refine zmS 0 rfl ?_
        try simp only [Act.put,SL]
        refine zaa (i:=1) (oi:=_) (v:=.bool false) rfl (by kernel_rfl) (fun _ _ _ h=>h) (Or.inl ⟨by kernel_rfl,?_⟩) (by assumption) ?_
        ·intro w' hSw
         go_simp
         first | done | with_reducible rfl | simp [tm] | (rw [tm]) | (simp;omega)
        try simp only [Act.put,SL]
        refine zmS 2 rfl ?_
        try simp only [Act.put,SL]
        refine zmS 3 rfl ?_
        try simp only [Act.put,SL]
        refine zaC (i:=4) (oi:=_) (v:=?_) rfl (by kernel_rfl) (fun _ _ _ h=>h) (Or.inl ⟨by kernel_rfl,?_⟩) (by assumption) ?_
        rotate_left
        ·intro w' hSw
         try dsimp only at hSw
         obtain ⟨q1,q2⟩:=hSw;go_simp
         try with_reducible rfl
        try simp only [Act.put,SL]
        refine zmS 5 rfl ?_
        try simp only [Act.put,SL]
        refine zmS 6 rfl ?_
        try simp only [Act.put,SL]
        refine zap (i:=7) (o:=_) rfl (by kernel_rfl) (fun KC hKC=>?_);go_simp;refine hKC _ _ hHeld ?_;clear hKC KC
        try simp only [Act.put,SL]
        refine zmS 8 rfl ?_
        try simp only [Act.put,SL]
        refine zaC (i:=9) (oi:=_) (v:=?_) rfl (by kernel_rfl) (fun _ _ _ h=>h) (Or.inl ⟨by kernel_rfl,?_⟩) (by assumption) ?_
        rotate_left
        ·intro w' hSw
         try dsimp only at hSw
         obtain ⟨q1,q2⟩:=hSw;go_simp
         try with_reducible rfl
        try simp only [Act.put,SL]
        refine zaa (i:=10) (oi:=_) (v:=.bool false) rfl (by kernel_rfl) (fun _ _ _ h=>h) (Or.inl ⟨by kernel_rfl,?_⟩) (by assumption) ?_
        ·intro w' hSw
         go_simp
         first | done | with_reducible rfl | simp [el] | (rw [el]) | (simp;omega)
        try simp only [Act.put,SL]
        refine zmS 11 rfl ?_
        try simp only [Act.put,SL]
        refine zaf (by kernel_rfl) ?_ _;clear hHeld tm hS9 el;have HNL:Hid (¬ r.seq<sz):=hl;go_wp2
        go_roundw
        case rel=>exact ⟨k+1,(kz:Int),by omega,by go_num,rfl,NdU.more HUU.out (by show ¬ (x0 k).seq<(x0 kz).seq;rw [← HR.out,← HSZ.out];exact HNL.out),HB9.out⟩
        case measure=>simp [intOf];omega
     ·have e9:decide ((nF:Int)<pv)=true:=by simp;omega
      have HF:Hid (¬ pv≤(nF:Int)):=hf;refine zai 27 (fun w'=>w'.rangeAt B 0 cS∧w'.cell? ⟨wx.heap.size,2,none⟩=some (.string r.name)∧w'.cell? ⟨wx.heap.size,3,none⟩=some (.int .i64 r.length)∧w'.cell? ⟨wx.heap.size,7,none⟩=some (.slice a7 r.data.1 k7)) zdu (by rw [← HD.out];exact hS0) (fun hHeld=>?_);rw [← HD.out] at hHeld ⊢;refine zmS 0 rfl ?_
      try simp only [Act.put,SL]
      refine zaC (i:=1) (oi:=_) (v:=?_) rfl (by kernel_rfl) (fun _ _ _ h=>h) (Or.inl ⟨by kernel_rfl,?_⟩) (by assumption) ?_
      rotate_left
      ·intro w' hSw
       try dsimp only at hSw
       obtain ⟨q1,q2,q3,q4⟩:=hSw;go_simp
       try with_reducible rfl
      try simp only [Act.put,SL]
      refine zmS 2 rfl ?_
      try simp only [Act.put,SL]
      refine zaa (i:=3) (oi:=_) (v:=.bool false) rfl (by kernel_rfl) (fun _ _ _ h=>h) (Or.inl ⟨by kernel_rfl,?_⟩) (by assumption) ?_
      ·intro w' hSw
       go_simp
       first | done | with_reducible rfl | simp [e7] | (rw [e7]) | (simp;omega)
      try simp only [Act.put,SL]
      refine zmS 4 rfl ?_
      try simp only [Act.put,SL]
      refine zmS 5 rfl ?_
      try simp only [Act.put,SL]
      refine zmS 9 rfl ?_
      try simp only [Act.put,SL]
      refine zaC (i:=10) (oi:=_) (v:=?_) rfl (by kernel_rfl) (fun _ _ _ h=>h) (Or.inl ⟨by kernel_rfl,?_⟩) (by assumption) ?_
      rotate_left
      ·intro w' hSw
       try dsimp only at hSw
       obtain ⟨q1,q2,q3,q4⟩:=hSw;go_simp
       try with_reducible rfl
      try simp only [Act.put,SL]
      refine zmS 12 rfl ?_
      try simp only [Act.put,SL]
      refine zap (i:=6) (o:=_) rfl (by kernel_rfl) (fun KC hKC=>?_);go_simp;refine hKC _ _ hS0 ?_;clear hKC KC
      try simp only [Act.put,SL]
      refine zmS 7 rfl ?_
      try simp only [Act.put,SL]
      refine zaC (i:=8) (oi:=_) (v:=.agg cS.toArray) rfl (by kernel_rfl) (fun _ _ _ h=>h) (yieldsIf_load_mid (by kernel_rfl) 34 (.tmp 41) rfl B (0) (by simp [Act.eval,Act.put]) cS _ (fun w h=>h.1) Tryz.underlying34 rfl (zcm hlS)) (by assumption) ?_
      try simp only [Act.put,SL]
      refine zap (i:=11) (o:=_) rfl (by kernel_rfl) (fun KC hKC=>?_);refine zaH (by kernel_rfl) (.func 48) 48 #[] _ _ rfl (by simp [Act.eval,Act.put]) #[.agg cS.toArray,.string r.name] (by simp [Act.eval,Act.put]) Tryz.func48 (by kernel_rfl) (by kernel_rfl) CH ?_;rintro e w7 ⟨rfl,b7⟩;refine ⟨_,rfl,?_⟩;have hS7:=HS.out _ b7;refine hKC _ _ hS7 ?_;clear hKC KC
      try simp only [Act.put,SL]
      refine zaa (i:=13) (oi:=_) (v:=.bool false) rfl (by kernel_rfl) (fun _ _ _ h=>h) (Or.inl ⟨by kernel_rfl,?_⟩) (by assumption) ?_
      ·intro w' hSw
       go_simp
       first | done | with_reducible rfl | simp [e8] | (rw [e8]) | (simp;omega)
      try simp only [Act.put,SL]
      refine zmS 14 rfl ?_
      try simp only [Act.put,SL]
      refine zmS 15 rfl ?_
      try simp only [Act.put,SL]
      refine zmS 16 rfl ?_
      try simp only [Act.put,SL]
      refine zmS 20 rfl ?_
      try simp only [Act.put,SL]
      refine zaC (i:=21) (oi:=_) (v:=?_) rfl (by kernel_rfl) (fun _ _ _ h=>h) (Or.inl ⟨by kernel_rfl,?_⟩) (by assumption) ?_
      rotate_left
      ·intro w' hSw
       try dsimp only at hSw
       obtain ⟨q1,q2,q3,q4⟩:=hSw;go_simp
       try with_reducible rfl
      try simp only [Act.put,SL]
      refine zmS 23 rfl ?_
      try simp only [Act.put,SL]
      refine zmS 24 rfl ?_
      try simp only [Act.put,SL]
      refine zap (i:=17) (o:=_) rfl (by kernel_rfl) (fun KC hKC=>?_);go_simp;refine hKC _ _ hS7 ?_;clear hKC KC
      try simp only [Act.put,SL]
      refine zmS 18 rfl ?_
      try simp only [Act.put,SL]
      refine zaC (i:=19) (oi:=_) (v:=.agg cS.toArray) rfl (by kernel_rfl) (fun _ _ _ h=>h) (yieldsIf_load_mid (by kernel_rfl) 34 (.tmp 52) rfl B (0) (by simp [Act.eval,Act.put]) cS _ (fun w h=>h.1) Tryz.underlying34 rfl (zcm hlS)) (by assumption) ?_
      try simp only [Act.put,SL]
      refine zap (i:=22) (o:=_) rfl (by kernel_rfl) (fun KC hKC=>?_);refine zaH (by kernel_rfl) (.func 49) 49 #[] _ _ rfl (by simp [Act.eval,Act.put]) #[.agg cS.toArray,.int .i64 r.length] (by simp [Act.eval,Act.put]) Tryz.func49 (by kernel_rfl) (by kernel_rfl) (zb7 (CP0 w7)) ?_;rintro e w8 ⟨rfl,b8⟩;refine ⟨_,rfl,?_⟩;have hS8:=HS.out _ (b7.trans (b8.mono b7.size));refine hKC _ _ hS8 ?_;clear hKC KC
      try simp only [Act.put,SL]
      refine zaa (i:=25) (oi:=_) (v:=.bool true) rfl (by kernel_rfl) (fun _ _ _ h=>h) (Or.inl ⟨by kernel_rfl,?_⟩) (by assumption) ?_
      ·intro w' hSw
       go_simp
       first | done | with_reducible rfl | simp [e9] | (rw [e9]) | (simp;omega)
      try simp only [Act.put,SL]
      refine zmS 26 rfl ?_
      try simp only [Act.put,SL]
      refine zaf (by kernel_rfl) ?_ _;have B8:Below w4.heap.size w4 w8:=HBD.out.trans ((b7.trans (b8.mono b7.size)).mono HBD.out.size);clear hS0 hHeld e7 e8 e9 hS7 hS8 CH CP0 b7 b8 hf;have HB9:Hid (Below w4.heap.size w4 w8):=B8;go_wp2
      go_roundw
      case rel=>exact ⟨k+1,zz,by omega,by go_num,rfl,NdU.skip HU.out (fun hc=>(Fits.not HP.out HF.out) (HCK.out.1 hc).2),HB9.out⟩
      case measure=>simp [intOf];omega
    ·have e8:(hv != g)=true:=by simp [hh]
     have HH:Hid (¬ zb6 d.shape r.name=g):=by
      show ¬ zb6 d.shape r.name=g
      rw [← HHV.out];exact hh
     clear hh;refine zai 27 (fun w'=>w'.rangeAt B 0 cS∧w'.cell? ⟨wx.heap.size,2,none⟩=some (.string r.name)∧w'.cell? ⟨wx.heap.size,3,none⟩=some (.int .i64 r.length)∧w'.cell? ⟨wx.heap.size,7,none⟩=some (.slice a7 r.data.1 k7)) zdu (by rw [← HD.out];exact hS0) (fun hHeld=>?_);rw [← HD.out] at hHeld ⊢;refine zmS 0 rfl ?_
     try simp only [Act.put,SL]
     refine zaC (i:=1) (oi:=_) (v:=?_) rfl (by kernel_rfl) (fun _ _ _ h=>h) (Or.inl ⟨by kernel_rfl,?_⟩) (by assumption) ?_
     rotate_left
     ·intro w' hSw
      try dsimp only at hSw
      obtain ⟨q1,q2,q3,q4⟩:=hSw;go_simp
      try with_reducible rfl
     try simp only [Act.put,SL]
     refine zmS 2 rfl ?_
     try simp only [Act.put,SL]
     refine zaa (i:=3) (oi:=_) (v:=.bool false) rfl (by kernel_rfl) (fun _ _ _ h=>h) (Or.inl ⟨by kernel_rfl,?_⟩) (by assumption) ?_
     ·intro w' hSw
      go_simp
      first | done | with_reducible rfl | simp [e7] | (rw [e7]) | (simp;omega)
     try simp only [Act.put,SL]
     refine zmS 4 rfl ?_
     try simp only [Act.put,SL]
     refine zmS 5 rfl ?_
     try simp only [Act.put,SL]
     refine zmS 9 rfl ?_
     try simp only [Act.put,SL]
     refine zaC (i:=10) (oi:=_) (v:=?_) rfl (by kernel_rfl) (fun _ _ _ h=>h) (Or.inl ⟨by kernel_rfl,?_⟩) (by assumption) ?_
     rotate_left
     ·intro w' hSw
      try dsimp only at hSw
      obtain ⟨q1,q2,q3,q4⟩:=hSw;go_simp
      try with_reducible rfl
     try simp only [Act.put,SL]
     refine zmS 12 rfl ?_
     try simp only [Act.put,SL]
     refine zap (i:=6) (o:=_) rfl (by kernel_rfl) (fun KC hKC=>?_);go_simp;refine hKC _ _ hS0 ?_;clear hKC KC
     try simp only [Act.put,SL]
     refine zmS 7 rfl ?_
     try simp only [Act.put,SL]
     refine zaC (i:=8) (oi:=_) (v:=.agg cS.toArray) rfl (by kernel_rfl) (fun _ _ _ h=>h) (yieldsIf_load_mid (by kernel_rfl) 34 (.tmp 41) rfl B (0) (by simp [Act.eval,Act.put]) cS _ (fun w h=>h.1) Tryz.underlying34 rfl (zcm hlS)) (by assumption) ?_
     try simp only [Act.put,SL]
     refine zap (i:=11) (o:=_) rfl (by kernel_rfl) (fun KC hKC=>?_);refine zaH (by kernel_rfl) (.func 48) 48 #[] _ _ rfl (by simp [Act.eval,Act.put]) #[.agg cS.toArray,.string r.name] (by simp [Act.eval,Act.put]) Tryz.func48 (by kernel_rfl) (by kernel_rfl) CH ?_;rintro e w7 ⟨rfl,b7⟩;refine ⟨_,rfl,?_⟩;have hS7:=HS.out _ b7;refine hKC _ _ hS7 ?_;clear hKC KC
     try simp only [Act.put,SL]
     refine zaa (i:=13) (oi:=_) (v:=.bool true) rfl (by kernel_rfl) (fun _ _ _ h=>h) (Or.inl ⟨by kernel_rfl,?_⟩) (by assumption) ?_
     ·intro w' hSw
      go_simp
      first | done | with_reducible rfl | simp [e8] | (rw [e8]) | (simp;omega)
     try simp only [Act.put,SL]
     refine zmS 14 rfl ?_
     try simp only [Act.put,SL]
     refine zmS 15 rfl ?_
     try simp only [Act.put,SL]
     refine zmU 16 rfl ?_
     try simp only [Act.put,SL]
     refine zmU 17 rfl ?_
     try simp only [Act.put,SL]
     refine zmU 18 rfl ?_
     try simp only [Act.put,SL]
     refine zmU 19 rfl ?_
     try simp only [Act.put,SL]
     refine zmU 20 rfl ?_
     try simp only [Act.put,SL]
     refine zmU 21 rfl ?_
     try simp only [Act.put,SL]
     refine zmU 22 rfl ?_
     try simp only [Act.put,SL]
     refine zmU 23 rfl ?_
     try simp only [Act.put,SL]
     refine zmU 24 rfl ?_
     try simp only [Act.put,SL]
     refine zmU 25 rfl ?_
     try simp only [Act.put,SL]
     refine zmS 26 rfl ?_
     try simp only [Act.put,SL]
     refine zaf (by kernel_rfl) ?_ _;have B7:Below w4.heap.size w4 w7:=HBD.out.trans (b7.mono HBD.out.size);clear hS0 hHeld e7 e8 hS7 CH b7;have HB9:Hid (Below w4.heap.size w4 w7):=B7;go_wp2
     go_roundw
     case rel=>exact ⟨k+1,zz,by omega,by go_num,rfl,NdU.skip HU.out (fun hc=>HH.out (HCK.out.1 hc).1.2),HB9.out⟩
     case measure=>simp [intOf];omega
  ·obtain rfl:k=m.length:=by omega
   have HTX:Hid (One w wx #[.int .i64 0,.int .i64 0,.string ⟨#[]⟩,.int .i64 0,.int .i64 0,.int .i64 0,.slice none 0 0,.slice none 0 0,.slice none 0 0] 52):=HT4.out.call hbl;clear hbl
   rcases HU.out with ⟨rfl,hu⟩ | ⟨kz,hkz,rfl,ck,hu⟩
   ·have HZ:Hid (NdZ d.shape g (nF:Int) (fun i=>recT d.tapes.2 2 (l.getD i 0)) m (-1)):=by
     have h1:=NdU.all (c:=NdC d.shape g (nF:Int) (fun i=>recT d.tapes.2 2 (l.getD i 0)) m) (sq:=fun j=>(x0 j).seq) (n:=m.length) (z:=-1) (.inl ⟨rfl,hu⟩) (fun j cj=>cj.1.1.1);rw [HX0.out] at h1;exact h1
    clear hu
    go_wp2_with (refine za4 52 _ _ rfl rfl (w.heap.size) rfl (cs:=[.int .i64 0,.int .i64 0,.string ⟨#[]⟩,.int .i64 0,.int .i64 0,.int .i64 0,.slice none 0 0,.slice none 0 0,.slice none 0 0]) rfl (HTX.out.b1) zcy rfl rfl (by decide) ?_;intro w9 X9 C9 z9)
    have y0:w9.cell? ⟨w.heap.size,0,none⟩=some (.int .i64 0):=X9.cell 0;have y1:w9.cell? ⟨w.heap.size,1,none⟩=some (.int .i64 0):=X9.cell 1;have y2:w9.cell? ⟨w.heap.size,2,none⟩=some (.string ⟨#[]⟩):=X9.cell 2;have y3:w9.cell? ⟨w.heap.size,3,none⟩=some (.int .i64 0):=X9.cell 3;have y4:w9.cell? ⟨w.heap.size,4,none⟩=some (.int .i64 0):=X9.cell 4;have y5:w9.cell? ⟨w.heap.size,5,none⟩=some (.int .i64 0):=X9.cell 5;have y6:w9.cell? ⟨w.heap.size,6,none⟩=some (.slice none 0 0):=X9.cell 6;have y7:w9.cell? ⟨w.heap.size,7,none⟩=some (.slice none 0 0):=X9.cell 7;have y8:w9.cell? ⟨w.heap.size,8,none⟩=some (.slice none 0 0):=X9.cell 8;have z9':=C9.size;have HB9:Below w.heap.size w w9:=HTX.out.bel.trans (C9.bel (fun b hb=>by simp at hb;omega) HTX.out.bel.size);refine bodyPost_ret (v:=.tuple #[.agg #[.int .i64 0,.int .i64 0,.string ⟨#[]⟩,.int .i64 0,.int .i64 0,.int .i64 0,.slice none 0 0,.slice none 0 0,.slice none 0 0],.slice none 0 0,.bool false]) (by simp [results,Tryz.results18,go_sem,y0,y1,y2,y3,y4,y5,y6,y7,y8]) rfl ?_;exact ⟨l,m,HL.out,HM.out,HB9,.inl ⟨by rw [← HNF.out];exact HZ.out,rfl⟩⟩
   ·have HZ:Hid (NdZ d.shape g (nF:Int) (fun i=>recT d.tapes.2 2 (l.getD i 0)) m (kz:Int)):=by
     have h1:=NdU.all (c:=NdC d.shape g (nF:Int) (fun i=>recT d.tapes.2 2 (l.getD i 0)) m) (sq:=fun j=>(x0 j).seq) (n:=m.length) (z:=(kz:Int)) (.inr ⟨kz,hkz,rfl,ck,hu⟩) (fun j cj=>cj.1.1.1);rw [HX0.out] at h1;exact h1
    have hzc:=(HCN.out kz).1 ck;have hNMk:=HNM.out kz hkz;obtain ⟨gb,capb,hv⟩:=HV5.out.form0 (by omega);have VX:=HV5.out.below HBL.out (by omega);rw [hv] at VX
    have hva:aw=some ⟨gb,0,none⟩:=by cases hv;rfl
    subst hva;obtain ⟨D,hD⟩:∃ D,D=wx.drew:=⟨_,rfl⟩;have HD:Hid (D=wx.drew):=hD
    have HXD:Hid (Below wx.heap.size wx D):=by rw [hD];exact ⟨rfl,rfl,rfl,Nat.le_refl _,fun _ _=>rfl⟩
    have zD:=HXD.out.size;have VD:=VX.below HXD.out (by omega);have HVD:Hid (View zab 52 D lo3 hi (.slice (some ⟨gb,0,none⟩) m.length capb) m.length x0 cm):=VD;have rdJ:=VD.each kz hkz;have hcJ:(cm kz).length=9:=VD.lens kz hkz;have oneJ:∀ v,v∈cm kz→v.oneCell'=true:=zaA _ _ _ _ rdJ;obtain ⟨r,hr⟩:∃ r,r=x0 kz:=⟨_,rfl⟩;rw [← hr] at rdJ hzc hNMk;have HR:Hid (r=x0 kz):=hr;obtain ⟨a6,k6,a7,k7,a8,k8,hce,-⟩:=zaF rdJ;obtain ⟨cJ,hcJe⟩:∃ c,c=cm kz:=⟨_,rfl⟩;have HCJ:Hid (cJ=cm kz):=hcJe;rw [← hcJe] at rdJ hcJ oneJ hce;have HCE:Hid (cJ=(rwR r a6 k6 a7 k7 a8 k8)):=hce;have HRJ:Hid (zab.rd D hi r cJ):=rdJ;have HBD:Hid (Below w4.heap.size w4 D):=HBL.out.trans (HXD.out.mono zx)
    have HS:Hid (∀ w',Below D.heap.size D w'→(w'.rangeAt B 0 cS∧w'.rangeAt gb (kz*9) cJ∧w'.cell? ⟨gb,kz*9+3,none⟩=some (.int .i64 r.length))):=fun w' hb=>by
     have X2:=(HB4.out.below HBD.out (by omega)).below hb (by have:=HBD.out.size;omega);have V2:w'.rangeAt gb (kz*9) (cm kz):=(HVD.out.below hb (by omega)).range hkz;rw [← HCJ.out] at V2;refine ⟨fun j v hv=>?_,V2,V2 3 _ (by rw [HCE.out];rfl)⟩
     have hj:j<9:=by rw [← hlS];exact (List.getElem?_eq_some_iff.1 hv).1
     rw [HCS.out] at hv;rw [Nat.zero_add];refine (X2.cell j).trans ?_;rw [← hv]
     match j,hj with
     | 0,_=>rfl
     | 1,_=>rfl
     | 2,_=>rfl
     | 3,_=>rfl
     | 4,_=>rfl
     | 5,_=>rfl
     | 6,_=>rfl
     | 7,_=>rfl
     | 8,_=>rfl
    have hS0:=HS.out D (Below.refl _ _)
    have hl2:1≤r.length∧r.length≤3*(d.shape 2*4):=by
     rcases hNMk.2.2 with ⟨_,h⟩ | ⟨h,_⟩ | ⟨h,_⟩ | ⟨h,_⟩
     ·rcases h with ⟨_,h,_⟩ | ⟨_,h1,h2,_⟩
      ·exact absurd h hzc.1.1.2
      ·exact ⟨h1,h2⟩
     ·have:=hNMk.1;omega
     ·have:=hNMk.1;omega
     ·have:=hNMk.1;omega
    obtain ⟨pv,hpv⟩:∃ p,p=(r.length+d.shape 2*4-1)/(d.shape 2*4):=⟨_,rfl⟩;have HP:Hid (PfAns d.shape r.length pv 0):=.inr (.inr (.inr ⟨HOK.out.shape,hl2.1,hl2.2,rfl,hpv⟩))
    have CP0:∀ W,Calls Tryz.prog 49 #[.agg cS.toArray,.int .i64 r.length] W fun e w'=>e=.returned (.int .i64 pv)∧Below W.heap.size W w':=fun W=>by
     have h:=zdO d.shape (by omega) (by omega) r.length (by omega) (by omega) W;rw [show zak d.shape=.agg cS.toArray by rw [HCS.out];rfl,← hpv] at h;exact h
    have hp0:0≤pv:=by rw [hpv];exact Int.ediv_nonneg (by omega) (by omega)
    have hpF:pv≤(nF:Int):=by
     obtain ⟨v',c',h',k'⟩:=hzc.2
     rw [(HP.out.one h').1];exact k'
    obtain ⟨pn,hpn⟩:∃ n:Nat,pv=(n:Int):=⟨pv.toNat,by omega⟩;clear hpv;subst hpn;have hO2:=HO.out;rw [← HNF.out] at hO2;obtain ⟨cp,hsl⟩:=ziG hO2 (show pn≤nF by omega)
    have HPF:Hid (pn≤nF):=by show pn≤nF;omega
    have i3:(0:Int)≤(kz:Int):=by omega
    have i4:(kz:Int)<(m.length:Int):=by omega
    have HKZ:Hid (kz<m.length):=hkz;clear hu ck hzc hNMk hv VX hD VD rdJ hr hce hcJe hl2 hp0 hpF hO2
    go_upto_region 14 with fail
    refine zai 16 (fun w'=>w'.rangeAt B 0 cS∧w'.rangeAt gb (kz*9) cJ∧w'.cell? ⟨gb,kz*9+3,none⟩=some (.int .i64 r.length)) zdu (by rw [← HD.out];exact hS0) (fun hHeld=>?_);rw [← HD.out] at hHeld ⊢;refine zmS 0 rfl ?_
    try simp only [Act.put,SL]
    refine zmS 1 rfl ?_
    try simp only [Act.put,SL]
    refine zmS 4 rfl ?_
    try simp only [Act.put,SL]
    refine zmS 5 rfl ?_
    try simp only [Act.put,SL]
    refine zmS 9 rfl ?_
    try simp only [Act.put,SL]
    refine zmS 10 rfl ?_
    try simp only [Act.put,SL]
    refine zac (i:=2) (oi:=_) (v:=?_) 18 rfl (by kernel_rfl) (fun _ _ _ h=>h) (Or.inl ⟨by kernel_rfl,?_⟩) (by assumption) ?_
    rotate_left
    ·intro w' hSw
     try dsimp only at hSw
     obtain ⟨q1,q2,q3⟩:=hSw;go_simp
     try with_reducible rfl
    try simp only [Act.put,SL]
    refine zac (i:=3) (oi:=_) 18 rfl (by kernel_rfl) (fun _ _ _ h=>h) (yieldsIf_load_mid (by kernel_rfl) 52 (.tmp 79) rfl gb (kz*9) (by simp [Act.eval,Act.put]) cJ _ (fun w h=>h.2.1) Tryz.underlying52 rfl (zae hcJ)) (by assumption) ?_
    try simp only [Act.put,SL]
    refine zac (i:=6) (oi:=_) (v:=?_) 18 rfl (by kernel_rfl) (fun _ _ _ h=>h) (Or.inl ⟨by kernel_rfl,?_⟩) (by assumption) ?_
    rotate_left
    ·intro w' hSw
     try dsimp only at hSw
     obtain ⟨q1,q2,q3⟩:=hSw;go_simp
     try with_reducible rfl
    try simp only [Act.put,SL]
    refine zmS 7 rfl ?_
    try simp only [Act.put,SL]
    refine zac (i:=8) (oi:=_) 18 rfl (by kernel_rfl) (fun _ _ _ h=>h) (yieldsIf_load_mid (by kernel_rfl) 34 (.tmp 84) rfl B (0) (by simp [Act.eval,Act.put]) cS _ (fun w h=>h.1) Tryz.underlying34 rfl (zcm hlS)) (by assumption) ?_
    try simp only [Act.put,SL]
    refine zac (i:=11) (oi:=_) (v:=?_) 18 rfl (by kernel_rfl) (fun _ _ _ h=>h) (Or.inl ⟨by kernel_rfl,?_⟩) (by assumption) ?_
    rotate_left
    ·intro w' hSw
     try dsimp only at hSw
     obtain ⟨q1,q2,q3⟩:=hSw;go_simp
     try with_reducible rfl
    try simp only [Act.put,SL]
    refine zmS 12 rfl ?_
    try simp only [Act.put,SL]
    refine zac (i:=13) (oi:=_) (v:=?_) 18 rfl (by kernel_rfl) (fun _ _ _ h=>h) (Or.inl ⟨by kernel_rfl,?_⟩) (by assumption) ?_
    rotate_left
    ·intro w' hSw
     try dsimp only at hSw
     obtain ⟨q1,q2,q3⟩:=hSw;go_simp
     try with_reducible rfl
    try simp only [Act.put,SL]
    refine zap (i:=14) (o:=_) rfl (by kernel_rfl) (fun KC hKC=>?_);refine zaH (by kernel_rfl) (.func 49) 49 #[] _ _ rfl (by simp [Act.eval,Act.put]) #[.agg cS.toArray,.int .i64 r.length] (by simp [Act.eval,Act.put]) Tryz.func49 (by kernel_rfl) (by kernel_rfl) (zb7 (CP0 D)) ?_;rintro e w8 ⟨rfl,b8⟩;refine ⟨_,rfl,?_⟩;have hS8:=HS.out _ b8;refine hKC _ _ hS8 ?_;clear hKC KC
    try simp only [Act.put,SL]
    refine zmS 15 rfl ?_
    try simp only [Act.put,SL]
    have BX8:Below wx.heap.size wx w8:=HXD.out.trans (b8.mono HXD.out.size);have HT8:Hid (One w w8 #[.int .i64 0,.int .i64 0,.string ⟨#[]⟩,.int .i64 0,.int .i64 0,.int .i64 0,.slice none 0 0,.slice none 0 0,.slice none 0 0] 52):=HTX.out.call BX8;have z8:D.heap.size≤w8.heap.size:=b8.size;have HRD8:Hid (zab.rd w8 hi r cJ):=zab.rd_below HRJ.out b8 (by omega);have HO8:Hid (OwnI w8 w3.heap.size w4.heap.size (.slice aF (zbf d g l m).1 capF) (zbf d g l m).1 (zbf d g l m).2):=HO.out.below (HBL.out.trans (BX8.mono zx)) (Nat.le_refl _);clear hS0 hHeld hS8 CP0 BX8 b8;refine zaj (i:=16) (o:=_) rfl (by kernel_rfl) (by kernel_rfl) (fun KC hKC=>?_);refine zfD 52 _ _ rfl rfl (w.heap.size) (by simp [Act.eval,Act.put]) (cs:=cJ) (old:=[.int .i64 0,.int .i64 0,.string ⟨#[]⟩,.int .i64 0,.int .i64 0,.int .i64 0,.slice none 0 0,.slice none 0 0,.slice none 0 0]) (by simp [Act.eval,Act.put]) (HT8.out.b1) zcy hcJ rfl oneJ ?_;intro w9 X9 C9 z9;refine hKC _ _ ?_;clear hKC KC
    try simp only [Act.put,SL]
    rw [HCE.out] at X9;have B89:Below w.heap.size w8 w9:=C9.bel (fun b hb=>by simp at hb;omega) HT8.out.bel.size;have HB9:Hid (Below w.heap.size w w9):=HT8.out.bel.trans B89;have HRD9:Hid (zab.rd w9 w9.heap.size r cJ):=zab.rd_mono (zab.rd_below HRD8.out B89 hhi) (by omega);have HO9:Hid (OwnI w9 w.heap.size w9.heap.size (.slice aF (zbf d g l m).1 capF) (zbf d g l m).1 (zbf d g l m).2):=(HO8.out.chg (C9.chg (lo:=w.heap.size) (hi:=w.heap.size+1) (fun b hb=>by simp at hb;omega)) (.inr (by omega))).weaken (by omega) (by omega);clear B89 C9 HO8 HRD8 HT8;refine zmD 17 (v:=?_) rfl ?_ ?_
    rotate_left
    ·intro w' hSw;go_simp;try with_reducible rfl
    try simp only [Act.put,SL]
    refine zmD 18 (v:=?_) rfl ?_ ?_
    rotate_left
    ·intro w' hSw;go_simp;try with_reducible rfl
    try simp only [Act.put,SL]
    refine zaf (by kernel_rfl) ?_ _;go_wp2;have y0:w9.cell? ⟨w.heap.size,0,none⟩=some (.int .i64 r.kind):=X9.cell 0;have y1:w9.cell? ⟨w.heap.size,1,none⟩=some (.int .i64 r.seq):=X9.cell 1;have y2:w9.cell? ⟨w.heap.size,2,none⟩=some (.string r.name):=X9.cell 2;have y3:w9.cell? ⟨w.heap.size,3,none⟩=some (.int .i64 r.length):=X9.cell 3;have y4:w9.cell? ⟨w.heap.size,4,none⟩=some (.int .i64 r.group):=X9.cell 4;have y5:w9.cell? ⟨w.heap.size,5,none⟩=some (.int .i64 r.row):=X9.cell 5;have y6:w9.cell? ⟨w.heap.size,6,none⟩=some (.slice a6 r.rows.1 k6):=X9.cell 6;have y7:w9.cell? ⟨w.heap.size,7,none⟩=some (.slice a7 r.data.1 k7):=X9.cell 7;have y8:w9.cell? ⟨w.heap.size,8,none⟩=some (.slice a8 r.delta.1 k8):=X9.cell 8;refine bodyPost_ret (v:=.tuple #[.agg (rwR r a6 k6 a7 k7 a8 k8).toArray,.slice aF pn cp,.bool true]) (by simp [results,Tryz.results18,go_sem,y0,y1,y2,y3,y4,y5,y6,y7,y8]) rfl ?_;refine ⟨l,m,HL.out,HM.out,HB9.out,.inr ⟨kz,HKZ.out,by rw [← HNF.out];exact HZ.out,(rwR r a6 k6 a7 k7 a8 k8),aF,capF,pn,cp,?_,?_,by rw [← HNF.out];exact HPF.out,?_,rfl⟩⟩
    ·have h:=HRD9.out
     rw [HR.out,HX0.out,HCE.out] at h;exact h
    ·have h:=HP.out
     rw [HR.out,HX0.out] at h;exact h
    ·exact HO9.out
set_option maxRecDepth 20000 in
theorem zkj (d:WorldD) (g:Int) (cs:List Value) (hi:Nat) (w:World) (h:zal.rd w hi d cs) (hhi:hi≤w.heap.size) (hsz:zbz d≤1048576) :
 Calls Tryz.prog 5 #[.agg cs.toArray,.int .i64 g] w (zk9 (NxAns d g) w):=by
 have h':=h;obtain ⟨ao1,cap1,ao2,cap2,ao3,cap3,rfl,g1,g2,g3,k0,k4,k5⟩:=zaX h';have HRD:=hid h;have HG3:=hid g3;have HSZ:=hid hsz;clear h h' hsz g1 g2 g3 k0 k4 k5;have T0:=zaN w (rwW d ao1 cap1 ao2 cap2 ao3 cap3).toArray #[.int .i64 0,.slice none 0 0] 38 32
 go_enter Tryz.func5,Tryz.ntmps5
 go_wp2_with (refine zax 38 (.tmp 2) rfl rfl (w.heap.size) rfl (T0.b1) Tryz.underlying38 zdJ rfl ?_)
 refine (zgd d _ hi _ (zal.rd_below HRD.out T0.bel hhi) (Nat.le_trans hhi T0.bel.size) (zeH HSZ.out)).mono ?_;rintro e w1 ⟨x,rfl,hx,b1⟩;have HT1:=hid (T0.call b1);have HX:=hid hx;have z1:w.heap.size+1<w1.heap.size:=HT1.out.b2.lt;clear b1 T0 hx
 by_cases hx0:x=0
 case neg=>
  have hne:(x != 0)=true:=by simp [hx0]
  go_wp2_with (refine za4 32 _ _ rfl rfl (w.heap.size+1) rfl (cs:=[.int .i64 x,.slice none 0 0]) rfl (HT1.out.b2) zbw rfl rfl ((zbu w1 x (zea HX.out) 0 0).one) ?_;intro w9 X9 C9 z9)
  refine zc0 Tryz.results5 rfl X9 Tryz.underlying32 zbw rfl rfl ?_;have zz:=C9.size;exact ⟨⟨x,(0,fun _=>rec0)⟩,[.int .i64 x,.slice none 0 0],rfl,.inl ⟨x,hx0,HX.out,rfl⟩,zbu w9 x (zea HX.out) _ _,HT1.out.bel.trans (C9.bel (fun b hb=>by simp at hb;omega) HT1.out.bel.size)⟩
 subst hx0;have HOK:=hid (WldAns.ok HX.out);have h2:d.tapes.1=2:=HOK.out.form.2.2;have hn0:(d.tapes.2 0).recs.1≤400000:=Nat.le_trans (HOK.out.few 0 (by omega)) (by decide);have hn1:(d.tapes.2 1).recs.1≤400000:=Nat.le_trans (HOK.out.few 1 (by omega)) (by decide);have HH2:=hid h2;clear h2;obtain ⟨b,hb⟩:=exB (InP g 0 (d.shape 0-1));have HBB:=hid hb;have C1:=fun w'=>zcE (w:=w') hb
 have zw:IntKind.i64.wrap (d.shape 0-1)=d.shape 0-1:=by have:=okB HOK.out.shape;rw [IntKind.wrap_i64];omega
 have x_0:w1.cell? ⟨w.heap.size,0,none⟩=some (.int .i64 (d.shape 0)):=HT1.out.b1.cell 0;have x_1:w1.cell? ⟨w.heap.size,1,none⟩=some (.int .i64 (d.shape 1)):=HT1.out.b1.cell 1;have x_2:w1.cell? ⟨w.heap.size,2,none⟩=some (.int .i64 (d.shape 2)):=HT1.out.b1.cell 2;have x_3:w1.cell? ⟨w.heap.size,3,none⟩=some (.int .i64 (d.shape 3)):=HT1.out.b1.cell 3;have x_4:w1.cell? ⟨w.heap.size,4,none⟩=some (.int .i64 (d.shape 4)):=HT1.out.b1.cell 4;have x_5:w1.cell? ⟨w.heap.size,5,none⟩=some (.int .i64 (d.shape 5)):=HT1.out.b1.cell 5;have x_6:w1.cell? ⟨w.heap.size,6,none⟩=some (.int .i64 (d.shape 6)):=HT1.out.b1.cell 6;have x_7:w1.cell? ⟨w.heap.size,7,none⟩=some (.int .i64 (d.shape 7)):=HT1.out.b1.cell 7;have x_8:w1.cell? ⟨w.heap.size,8,none⟩=some (.int .i64 (d.shape 8)):=HT1.out.b1.cell 8;clear hb
 go_wp2_with fail
 refine (C1 _).mono ?_;rintro e w' ⟨rfl,hw'⟩;obtain rfl:=hw'.symm;obtain ⟨wq,hwq⟩:∃ y,y=w1:=⟨_,rfl⟩;rw [← hwq] at HT1 z1 ⊢;have HTq:=hid HT1;clear C1 zw HT1 hwq x_0 x_1 x_2 x_3 x_4 x_5 x_6 x_7 x_8
 cases b with
 | false=>
  have HNT:Hid (¬ InP g 0 (d.shape 0-1)):=fun h=>absurd (HBB.out.2 h) (by simp)
  go_wp2_with (refine za4 32 _ _ rfl rfl (w.heap.size+1) rfl (cs:=[.int .i64 3,.slice none 0 0]) rfl (HTq.out.b2) zbw rfl rfl ((zbu wq 3 (by decide) 0 0).one) ?_;intro w9 X9 C9 z9)
  refine zc0 Tryz.results5 rfl X9 Tryz.underlying32 zbw rfl rfl ?_;have zz:=C9.size;exact ⟨⟨3,(0,fun _=>rec0)⟩,[.int .i64 3,.slice none 0 0],rfl,.inr (.inl ⟨HX.out,HNT.out,rfl⟩),zbu w9 3 (by decide) _ _,HTq.out.bel.trans (C9.bel (fun b hb=>by simp at hb;omega) HTq.out.bel.size)⟩
 | true=>
 have hIn:InP g 0 (d.shape 0-1):=HBB.out.1 (by simp);have HIN:=hid hIn;have CN:=zki d g (rwW d ao1 cap1 ao2 cap2 ao3 cap3) hi w.heap.size wq (zal.rd_below HRD.out HTq.out.bel hhi) (Nat.le_trans hhi HTq.out.bel.size) HTq.out.b1 HOK.out
 go_wp2_with fail
 refine CN.mono ?_;rintro e w3 ⟨l,m,hCt,hLM,bb3,hcase⟩;have HL:=hid hCt;have HLM:=hid hLM;have HT5:=hid (HTq.out.call bb3);have z5:wq.heap.size≤w3.heap.size:=bb3.size;clear bb3 CN HTq hCt hLM
 rcases hcase with ⟨hz,rfl⟩ | ⟨j,hj,hz,c,a,k,pn,cp,hrc,-,-,-,rfl⟩
 ·have HZ:=hid hz
  have bA:Below w3.heap.size w3 (w3.alloc (.cells #[.int .i64 0,.int .i64 0,.string ⟨#[]⟩,.int .i64 0,.int .i64 0,.int .i64 0,.slice none 0 0,.slice none 0 0,.slice none 0 0] 52)):=(Below.refl _ _).alloc (Nat.le_refl _) _;have HTZ:=hid (HT5.out.call bA);have zl:([.int .i64 0,.int .i64 0,.string ⟨#[]⟩,.int .i64 0,.int .i64 0,.int .i64 0,.slice none 0 0,.slice none 0 0,.slice none 0 0]:List Value).length=9:=rfl
  have zo:∀ v,v∈([.int .i64 0,.int .i64 0,.string ⟨#[]⟩,.int .i64 0,.int .i64 0,.int .i64 0,.slice none 0 0,.slice none 0 0,.slice none 0 0]:List Value)→v.oneCell'=true:=by decide
  clear hz
  go_upto_region 7 with (refine zaB 52 6 (.tmp 26) [.int .i64 0,.int .i64 0,.string ⟨#[]⟩,.int .i64 0,.int .i64 0,.int .i64 0,.slice none 0 0,.slice none 0 0,.slice none 0 0] _ 9 rfl rfl rfl rfl rfl rfl (by simp [Act.eval,Act.put]) (by simp [Act.eval,Act.put]) zbt rfl (by assumption) (by assumption) ?_)
  obtain ⟨w6,hw6⟩:∃ y,y=w3.alloc (.cells #[.int .i64 0,.int .i64 0,.string ⟨#[]⟩,.int .i64 0,.int .i64 0,.int .i64 0,.slice none 0 0,.slice none 0 0,.slice none 0 0] 52):=⟨_,rfl⟩;rw [← hw6] at HTZ bA ⊢;clear hw6
  go_wp2_with (refine za4 32 _ _ rfl rfl (w.heap.size+1) rfl (cs:=[.int .i64 4,.slice none 0 0]) rfl (HTZ.out.b2) zbw rfl rfl ((zbu w1 4 (by decide) 0 0).one) ?_;intro w9 X9 C9 z9)
  refine zc0 Tryz.results5 rfl X9 Tryz.underlying32 zbw rfl rfl ?_;exact ⟨⟨4,(0,fun _=>rec0)⟩,[.int .i64 4,.slice none 0 0],rfl,.inr (.inr ⟨HX.out,HIN.out,l,m,HL.out,HLM.out,.inl ⟨HZ.out,rfl⟩⟩),zbu w9 4 (by decide) _ _,HTZ.out.bel.trans (C9.bel (fun b hb=>by simp at hb;omega) HTZ.out.bel.size)⟩
 ·have HZ:=hid hz
  have HJ:=hid hj;have hsz1:=zgv HH2.out HSZ.out HL.out (mem_lt HLM.out hj);obtain ⟨r,hr⟩:∃ r,r=recT d.tapes.2 2 (l.getD (m.getD j 0) 0):=⟨_,rfl⟩;have HRR:=hid hr;rw [← hr] at hsz1
  have rd5:zab.rd w3 w3.heap.size r c:=by rw [hr];exact hrc
  have zl:c.length=9:=zab.rd_len rd5;have zo:=zdG rd5;have bA:=bAl w3 (.cells c.toArray 52);have HTZ:=hid (HT5.out.call bA);have X6:=zan w3 c.toArray 52;have zw3:w.heap.size≤w3.heap.size:=HT5.out.bel.size;have rd6:=zab.rd_below rd5 bA (Nat.le_refl _);have z6:w3.heap.size<(w3.alloc (.cells c.toArray 52)).heap.size:=X6.lt;clear hz hj hr hrc rd5
  go_upto_region 7 with (refine zaB 52 6 (.tmp 26) c _ 9 rfl rfl rfl rfl rfl rfl (by simp [Act.eval,Act.put]) (by simp [Act.eval,Act.put]) zbt rfl (by assumption) (by assumption) ?_)
  obtain ⟨w6,hw6⟩:∃ y,y=w3.alloc (.cells c.toArray 52):=⟨_,rfl⟩;rw [← hw6] at HTZ X6 rd6 z6 ⊢;clear hw6;have CP:=zhn c r w3.heap.size w6 rd6 (by omega) hsz1.2
  go_wp2_with (refine zax 52 (.tmp 6) rfl rfl (w3.heap.size) rfl X6 Tryz.underlying52 zcy zl ?_)
  refine CP.mono ?_;rintro e w7 ⟨cs7,rfl,O7,b7⟩;have HT7:=hid (HTZ.out.call b7);have z7:w6.heap.size≤w7.heap.size:=b7.size;have bS:=bAl w7 (.cells cs7.toArray 52);have HT3:=hid (HT7.out.call bS);have OS:=zj9 O7 rfl z7;have rd7:=O7.rd
  have e7:(w7.alloc (.cells cs7.toArray 52)).heap.size=w7.heap.size+1:=by simp
  obtain ⟨w8,hw8⟩:∃ y,y=w7.alloc (.cells cs7.toArray 52):=⟨_,rfl⟩;rw [← hw8] at HT3 OS e7;have HO3:Hid (OwnT zaE w8 w6.heap.size (w7.heap.size+1) ⟨0,(1,fun _=>r)⟩ [.int .i64 0,.slice (some ⟨w7.heap.size,0,none⟩) 1 1]):=zgt (n:=1) (f:=fun _=>r) OS 0 (by decide);clear O7 b7 CP OS bS
  go_wp2_with (first | (refine zet rfl (.tmp 33) rfl rd7 (by simp [Act.eval,Act.put]) ?_;rw [← hw8];clear hw8) | (refine za4 32 _ _ rfl rfl (w.heap.size+1) rfl (cs:=[.int .i64 0,.slice (some ⟨w7.heap.size,0,none⟩) 1 1]) rfl (HT3.out.b2) zbw rfl rfl (HO3.out.one) ?_;intro w9 X9 C9 z9))
  refine zc0 Tryz.results5 rfl X9 Tryz.underlying32 zbw rfl rfl ?_;have zz:=C9.size;have O9:=(HO3.out.chgk C9 (fun b hb=>by simp at hb;omega)).weaken (lo':=w.heap.size) (hi':=w9.heap.size) (by omega) (by omega);exact ⟨_,_,rfl,.inr (.inr ⟨HX.out,HIN.out,l,m,HL.out,HLM.out,.inr ⟨j,HJ.out,HZ.out,(show (⟨0,(1,fun _=>r)⟩:RecsResultD)=⟨0,(1,fun _=>recT d.tapes.2 2 (l.getD (m.getD j 0) 0))⟩ by rw [← HRR.out])⟩⟩),O9,HT3.out.bel.trans (C9.bel (fun b hb=>by simp at hb;omega) HT3.out.bel.size)⟩
end Go.Proofs.YtmehgpcmoejfcaaGreat
namespace Go.Proofs.YtmehgpcmoejfcaaGreat
open Go.RowKit
section
variable {ops:Array Oper} {Q:Exit→Act→World→Prop} {md:Region.Mode} {S:World→Prop} {L:Nat}
theorem zfW {o:Oper} {a:Act} (T:TypeId) (x:Operand) (ho:o.op=.load T x) (hg:o.guard=none) (b:Nat) (hx:a.eval x=.pointer (some ⟨b,0,none⟩)) {cs:List Value} (hB:∀ w,S w→Box w b cs.toArray T) {fs:Array Field} (hu:Tryz.prog.underlying T=some (.struct fs)) {n:Nat} (hi:(Tryz.prog.info? T).map (·.size)=some n) (hl:cs.length=n):YieldsIf Tryz.prog ops S o (.agg cs.toArray) a:=by
 refine .inl ⟨by simp [Region.wanted,hg],fun w hS=>?_⟩;unfold execOp
 simp only [ho,hx,Instr.loadAt,Instr.sureAddr,Sem.run_bind,Sem.run_pure,Result.andThen_ok,run_loadVar_row w b T T cs.toArray (0,0) (.struct fs) (hB w hS) hu rfl (by rw [hi];simp [hl])]
end
theorem zkk (w:World):Below w.heap.size w w.drew:=⟨rfl,rfl,rfl,Nat.le_refl _,fun _ _=>rfl⟩
end Go.Proofs.YtmehgpcmoejfcaaGreat
namespace Go.Proofs.YtmehgpcmoejfcaaGreat
open Go.RowKit F256
set_option maxRecDepth 20000 in
theorem zfs:EqV zaE 8:=fun c1 c2 d h1 h2 w r1 r2 u1 u2=>by
 obtain ⟨ao1,cap1,rfl,g1,-⟩:=zcl r1;obtain ⟨bao1,bcap1,rfl,q1,-⟩:=zcl r2;clear r1 r2;have G1:=hid g1;have E1:=hid q1;clear g1 q1
 go_enter Tryz.func8,Tryz.ntmps8
 go_wp2_with fail
 have T0:=zaN w #[.int .i64 d.code,.slice ao1 d.recs.1 cap1] #[.int .i64 d.code,.slice bao1 d.recs.1 bcap1] 32 32;refine (zgX _ _ d.recs h1 h2 _ ((zab.slice 52).rd_below G1.out T0.bel u1) ((zab.slice 52).rd_below E1.out T0.bel u2) (Nat.le_trans u1 T0.bel.size) (Nat.le_trans u2 T0.bel.size)).mono ?_;rintro e w1 ⟨rfl,b1⟩;have T1:Two w w1 #[.int .i64 d.code,.slice ao1 d.recs.1 cap1] #[.int .i64 d.code,.slice bao1 d.recs.1 bcap1] 32 32:=T0.call b1;clear T0 b1;have B:=hid T1.bel;clear T1;go_wp2;go_ret;exact ⟨rfl,B.out⟩
theorem zeu:MkV zaE zbp zca 11:=fun cs d L j w h nd hj=>by
 obtain ⟨ao1,cap1,K1,rfl,hLL,o1,k0⟩:=zdL h;clear h;have hLM:=hLL.symm;subst hLM;unfold zbp at hj ⊢;have Z1:=(zab.slice 52).own_lt o1;have bz:=bAl w (.cells #[.int .i64 d.code,.slice ao1 d.recs.1 cap1] 32);have B0:Hid (Box (w.alloc (.cells #[.int .i64 d.code,.slice ao1 d.recs.1 cap1] 32)) w.heap.size #[.int .i64 d.code,.slice ao1 d.recs.1 cap1] 32):=zan _ _ _;have CH0:Hid (ChgL (K1) w (w.alloc (.cells #[.int .i64 d.code,.slice ao1 d.recs.1 cap1] 32))):=ChgL.of_below bz;have O0_1:Hid ((zab.slice 52).own (w.alloc (.cells #[.int .i64 d.code,.slice ao1 d.recs.1 cap1] 32)) d.recs [.slice ao1 d.recs.1 cap1] K1):=(zab.slice 52).own_kept o1 (fun b hb=>bz.block b (Z1 b hb));clear bz o1
 go_enter Tryz.func11,Tryz.ntmps11
 go_wp2_with fail
 refine (ze3 _ d.recs K1 (j) _ O0_1.out nd (by omega)).mono ?_;rintro e w1 ⟨rfl,p1,q1⟩;have O1_1:=hid p1;have B1:Hid (Box w1 w.heap.size #[.int .i64 d.code,.slice ao1 d.recs.1 cap1] 32):=(q1.block w.heap.size B0.out.lt (fun hb=>by have:=Z1 _ hb;omega)).trans B0.out;have CH1:Hid (ChgL (K1) w w1):=CH0.out.sub q1 (fun b hb=>hb);clear p1 q1;go_wp2;go_ret;exact ⟨zdH (by omega),zee (zca j d) O1_1.out k0,CH1.out⟩
theorem zev:HdV zaE zbp zca 12:=fun cs d hi j w h hhi hj=>by
 obtain ⟨ao1,cap1,rfl,r1,-⟩:=zcl h;clear h;unfold zbp at hj ⊢;have R1:=hid r1;clear r1
 change Calls Tryz.prog 12 #[.agg #[.int .i64 d.code,.slice ao1 d.recs.1 cap1],.int .i64 j] w _
 go_enter Tryz.func12,Tryz.ntmps12
 go_wp2_with fail
 have T0:=zaL w #[.int .i64 d.code,.slice ao1 d.recs.1 cap1] 32;refine (zh4 _ d.recs hi (j) _ ((zab.slice 52).rd_below R1.out T0.bel hhi) (Nat.le_trans hhi T0.bel.size) (by omega)).mono ?_;rintro e w1 ⟨rfl,b1⟩;have T1:One w w1 #[.int .i64 d.code,.slice ao1 d.recs.1 cap1] 32:=T0.call b1
 have hz1:¬ (((j+(cSl zaW) d.recs:Nat):Int)<0):=by omega
 have HB:=hid T1.bel;clear b1 T1;go_wp2;go_ret;exact ⟨zdH (by omega),HB.out⟩
end Go.Proofs.YtmehgpcmoejfcaaGreat
