/- FreeRows of both sides. -/
import Derived.Test.YtmehgpcmoejfcaaGreatZPnextdap
set_option linter.unusedVariables false
set_option linter.unusedSimpArgs false
set_option maxHeartbeats 16000000
namespace Go.Proofs.YtmehgpcmoejfcaaGreat
open Go.RowKit F256
theorem zke {d:WorldD} (hok:OkWorld d) {i:Nat} (hi:i<lenT d.tapes.2 2):zcD (recT d.tapes.2 2 i):=by
 have h2:d.tapes.1=2:=hok.form.2.2;have key:∀ t j,t<2→j<(d.tapes.2 t).recs.1→zcD ((d.tapes.2 t).recs.2 j):=fun t j ht hj=>zlk (hok.recs t (by omega) j hj)
 have e1:lenT d.tapes.2 1=(d.tapes.2 0).recs.1:=by simp [lenT]
 have e2:lenT d.tapes.2 2=(d.tapes.2 0).recs.1+(d.tapes.2 1).recs.1:=by simp [lenT]
 rw [e2] at hi
 show zcD (cat2 (recT d.tapes.2 1) (lenT d.tapes.2 1) (d.tapes.2 1).recs.2 i)
 unfold cat2
 split
 ·rename_i c
  rw [e1] at c
  show zcD (cat2 (recT d.tapes.2 0) (lenT d.tapes.2 0) (d.tapes.2 0).recs.2 i)
  unfold cat2;rw [if_neg (by show ¬ i<0;omega)];exact key 0 (i-0) (by omega) (by omega)
 ·rename_i c
  rw [e1] at c ⊢;exact key 1 _ (by omega) (by omega)
theorem zgz {d:WorldD} (hok:OkWorld d) {l:List Nat} (hCt:Cnt (recT d.tapes.2 2) (lenT d.tapes.2 2) l):∀ i,i<l.length→((fun i=>recT d.tapes.2 2 (l.getD i 0)) i).kind=1→zbd ((fun i=>recT d.tapes.2 2 (l.getD i 0)) i).name∧((fun i=>recT d.tapes.2 2 (l.getD i 0)) i).rows.1≤3:=fun i hi hk=>
 ⟨zke hok ((hCt.mem _).1 (by rw [zb5 hi];exact List.getElem_mem hi)).1 hk,zlj hok.shape (zi9 hok hCt hi) hk⟩
noncomputable def zbf (d:WorldD) (g:Int) (l m:List Nat):Nat×(Nat→Int):=((zcz (zdS d.shape (fun i=>recT d.tapes.2 2 (l.getD i 0)) l.length m g) (d.shape 4).toNat).length,(zeO d.shape (fun i=>recT d.tapes.2 2 (l.getD i 0)) l.length m g (d.shape 4).toNat))
set_option maxRecDepth 20000 in
theorem zhD (d:WorldD) (g:Int) (cs:List Value) (hi:Nat) (w:World) (h:zal.rd w hi d cs) (hhi:hi≤w.heap.size) (hok:OkWorld d) :
 Calls Tryz.prog 60 #[.agg cs.toArray,.int .i64 g] w (fun e w'=>∃ l m v',e=.returned v'∧Cnt (recT d.tapes.2 2) (lenT d.tapes.2 2) l∧Live (fun i=>recT d.tapes.2 2 (l.getD i 0)) l.length m∧OwnI w' w.heap.size w'.heap.size v' (zbf d g l m).1 (zbf d g l m).2∧Below w.heap.size w w'):=by
 have h':=h;obtain ⟨ao1,cap1,ao2,cap2,ao3,cap3,rfl,-⟩:=zaX h';have HRD:=hid h;have HOK:=hid hok;have h2:d.tapes.1=2:=hok.form.2.2;have hn0:(d.tapes.2 0).recs.1≤400000:=Nat.le_trans (hok.few 0 (by omega)) (by decide);have hn1:(d.tapes.2 1).recs.1≤400000:=Nat.le_trans (hok.few 1 (by omega)) (by decide);have hsb:=okB hok.shape;obtain ⟨R,hR⟩:∃ R:Nat,d.shape 4=(R:Int):=⟨(d.shape 4).toNat,by omega⟩
 have hR6:R≤6:=by omega
 have HR:=hid hR
 have hRt:(d.shape 4).toNat=R:=by rw [hR];rfl
 have HRT:=hid hRt;have T0:=zaL w (rwW d ao1 cap1 ao2 cap2 ao3 cap3).toArray 38;have CR:=zeg d (rwW d ao1 cap1 ao2 cap2 ao3 cap3) hi (w.alloc (.cells (rwW d ao1 cap1 ao2 cap2 ao3 cap3).toArray 38)) (zal.rd_below h T0.bel hhi) (Nat.le_trans hhi T0.bel.size) hok;clear h h' hok h2 hR hRt
 go_enter Tryz.func60,Tryz.ntmps60
 go_wp2_with (refine zax 38 (.tmp 2) rfl rfl (w.heap.size) rfl (T0.b1) Tryz.underlying38 zdJ rfl ?_)
 refine CR.mono ?_;rintro e w2 ⟨B,l,ce,v,b1,b2,b3,b4,b5,rfl,hCt,hLd,hRd,bb2⟩;have HL:=hid hCt;have T2:=T0.call bb2;have HT2:=hid T2;have z2:w.heap.size<w2.heap.size:=T2.b1.lt
 have hlen:l.length≤800000:=by
  have h1:=(hCt.sum (fun _=>0)).2
  have e2:lenT d.tapes.2 2=(d.tapes.2 0).recs.1+(d.tapes.2 1).recs.1:=by simp [lenT]
  omega
 have CU:=zgy hLd HOK.out.shape hlen (Nat.le_trans hhi T2.bel.size) hRd (fun i hi' hk1=>zi8 (zi9 HOK.out hCt hi') hk1) (zgz HOK.out hCt) (fun i hi'=>zld HOK.out ((hCt.mem _).1 (by rw [zb5 hi'];exact List.getElem_mem hi')).1) g;clear hLd hRd bb2 CR T0 T2 hCt
 go_wp2_with fail
 refine CU.mono ?_;rintro e w3 ⟨m,u,n,y,rfl,hLM,hRD,hU,bb3⟩;have HLM:=hid hLM;have HRD3:=hid hRD;have HT3:=hid (HT2.out.call bb3);have HUN:=hid hU;have z3:w.heap.size<w3.heap.size:=HT3.out.b1.lt
 obtain ⟨au,cau,hu⟩:∃ a c,u=.slice a n c:=by
  obtain ⟨a,c,h,_⟩:=hRD;exact ⟨a,c,h⟩
 subst hu;obtain ⟨fB,hfB⟩:∃ f,f=(zdS d.shape (fun i=>recT d.tapes.2 2 (l.getD i 0)) l.length m g):=⟨_,rfl⟩;obtain ⟨fF,hfF⟩:∃ f,f=zeO d.shape (fun i=>recT d.tapes.2 2 (l.getD i 0)) l.length m g R:=⟨_,rfl⟩;have HFB:=hid hfB;have HFF:=hid hfF
 have HFI:Hid (∀ j,fB j=true↔¬ HasP n y (j:Int)):=fun j=>by rw [hfB,zjc,HUN.out]
 have HFA:Hid (∀ j,j<R→fB j=true→fF (zcz fB j).length=(j:Int)):=fun j hj hf=>by
  rw [hfF,hfB];rw [hfB] at hf;unfold zeO;rw [(zgw hf R hj).1]
 have I0:=zgC w3 fF;have bL:=bAl w3 (.cells #[] 2)
 have x4:(w3.alloc (.cells #[] 2)).cell? ⟨w.heap.size,4,none⟩=some (.int .i64 (R:Int)):=by
  have h1:=(HT3.out.b1.call bL).cell 4;rw [h1,← HR.out];rfl
 clear CU HT2 bb3 hLM hRD hU hfB hfF;go_wp2;clear x4
 go_loopw [6,16] (fun vo i wr=>∃ j:Nat,j≤R∧i=.int .i64 j∧OwnI wr w3.heap.size wr.heap.size vo (zcz fB j).length fF∧Below w3.heap.size w3 wr) (fun _ i _=>R-(intOf i).toNat)
 case atStart=>exact ⟨0,Nat.zero_le _,rfl,I0,bL⟩
 case round=>
  clear I0 bL;obtain ⟨j,hj,rfl,hI,bw⟩:=hrel;obtain ⟨wx,rfl⟩:∃ y,y=wr:=⟨_,rfl⟩;obtain ⟨c,hc⟩:∃ c,c=(zcz fB j).length:=⟨_,rfl⟩;have HC:=hid hc;rw [← hc] at hI
  have hck:c≤j:=by rw [hc];exact zli _ _
  obtain ⟨aoo,capo,hvo⟩:=hI.slice;subst hvo;have HI5:=hid hI;have HBX:=hid bw;have zx:w3.heap.size≤wx.heap.size:=bw.size;have RDx:=HRD3.out.below bw (Nat.le_refl _);clear hI hc bw
  by_cases hlt:j<R
  ·obtain ⟨t,ht⟩:=exB (HasP n y (j:Int))
   have CT:=zbB (zeC (.slice au n cau) n y w3.heap.size (j:Int) wx RDx) ht
   have t1:(j:Int)<(R:Int):=by omega
   have HW:Hid (fB j=!t):=by
    show fB j=!t
    have h1:=HFI.out j
    cases t with
    | true=>
     cases hf:fB j with
     | false=>rfl
     | true=>exact absurd (ht.1 rfl) (h1.1 hf)
    | false=>exact h1.2 (fun h=>by have:=ht.2 h;cases this)
   clear ht RDx
   go_wp2_with fail
   refine CT.mono ?_;rintro e w5 ⟨rfl,b5⟩;have z5:wx.heap.size≤w5.heap.size:=b5.size;have HI6:Hid (OwnI w5 w3.heap.size w5.heap.size (.slice aoo c capo) c fF):=(HI5.out.below b5 (Nat.le_refl _)).mono z5;have HB5:=hid (HBX.out.trans (b5.mono zx));clear b5 CT
   cases t with
   | true=>
    go_wp2
    go_roundw
    case rel=>exact ⟨j+1,by omega,by go_num,by rw [zhC HW.out,← HC.out];exact HI6.out,HB5.out⟩
    case measure=>simp [intOf];omega
   | false=>
    have HF:Hid (fF c=(j:Int)):=by
     show fF c=(j:Int)
     rw [HC.out];exact HFA.out j hlt HW.out
    go_wp2_with (at_builtin;refine zfF rfl (.tmp 23) (.tmp 25) rfl w3.heap.size w5.heap.size (.slice aoo c capo) c fF ?_ ?_ w5.heap.size 1 ?_ ?_ (by omega) ?_ ?_;(simp [Act.eval]);exact HI6.out.alloc _;(simp [Act.eval]);(rw [HF.out];simp);(simp;omega);intro v7 w7 o7 b7)
    have b8:Below w3.heap.size w5 w7:=((Below.refl w3.heap.size w5).alloc (by omega) _).trans b7;have HB7:=hid (HB5.out.trans b8);have HI7:=hid o7;clear o7 b7 b8 HI6;go_wp2
    go_roundw
    case rel=>exact ⟨j+1,by omega,by go_num,by
     have e:(zcz fB (j+1)).length=c+1:=by rw [zcA,if_pos (show fB j=true from HW.out),List.length_append,← HC.out];rfl
     rw [e];exact HI7.out,HB7.out⟩
    case measure=>simp [intOf];omega
  ·obtain rfl:j=R:=by omega
   have HO:Hid (OwnI wx w.heap.size wx.heap.size (.slice aoo c capo) c fF):=HI5.out.weaken (by omega) (Nat.le_refl _);have HBZ:Hid (Below w.heap.size w wx):=HT3.out.bel.trans (HBX.out.mono (by omega))
   have HE:Hid (c=(zbf d g l m).1∧fF=(zbf d g l m).2):=by
    unfold zbf;rw [HRT.out];exact ⟨by rw [HC.out,HFB.out],HFF.out⟩
   clear RDx hlt;go_wp2;go_ret;exact ⟨l,m,_,rfl,HL.out,HLM.out,by rw [← HE.out.1,← HE.out.2];exact HO.out,HBZ.out⟩
theorem zfq {l:List Nat} {i:Nat} (h:i<l.length):l.getD i 0∈l:=by
 rw [List.getD_eq_getElem?_getD,List.getElem?_eq_getElem h];exact List.getElem_mem h
def naP (x:Nat→RecD) (m:List Nat) (s:Nat→Int) (g:Int) (a:Nat):Bool:=!(decide (zb6 s (x (wtI x m a)).name≠g))
def naN (x:Nat→RecD) (m:List Nat) (s:Nat→Int) (g:Int):Nat:=(za1 (naP x m s g) (wtN x m)).length
def naS (x:Nat→RecD) (m:List Nat) (s:Nat→Int) (g:Int) (i:Nat):Nat:=selF (naP x m s g) (wtN x m) i
def naX (x:Nat→RecD) (m:List Nat) (s:Nat→Int) (g:Int) (i:Nat):RecD:=x (wtI x m (naS x m s g i))
set_option maxRecDepth 100000 in
theorem zln (g cap n lo hi:Nat) (x:Nat→RecD) (ce:Nat→List Value) (a0 a1:Nat) (del:Nat→Bool) (w:World) (hV:View zab 52 w lo hi (.slice (some ⟨g,0,none⟩) n cap) n x ce) (hhi:hi≤w.heap.size) (hn:n≤1048576) (CD:∀ k,k<n→∀ w',ChgL [g] w w'→Calls Tryz.prog 102 #[.agg (ce k).toArray,.pointer (some ⟨a0,0,none⟩),.pointer (some ⟨a1,0,none⟩)] w' (fun e w''=>e=.returned (.bool (del k))∧Below w'.heap.size w' w'')) :
 Calls Tryz.prog 130 #[.slice (some ⟨g,0,none⟩) n cap,.func (.func 102) #[] #[.pointer (some ⟨a0,0,none⟩),.pointer (some ⟨a1,0,none⟩)]] w fun e w'=>((e=.returned (.int .i64 (-1))∧∀ i,i<n→del i=false)∨∃ i:Nat,i<n∧e=.returned (.int .i64 (i:Int))∧del i=true∧∀ t,t<i→del t=false)∧Below w.heap.size w w':=by
 have HV:=hid hV;have HCD:=hid CD;clear hV CD
 go_enter Tryz.func130,Tryz.ntmps130
 go_wp2
 go_loopw [8] (fun z wr=>∃ k:Nat,k≤n∧z=.int .i64 k∧(∀ t,t<k→del t=false)∧Below w.heap.size w wr) (fun z _=>n-(intOf z).toNat)
 case atStart=>exact ⟨0,Nat.zero_le _,rfl,fun t ht=>by omega,Below.refl _ _⟩
 case round=>
  obtain ⟨k,hk,rfl,hall,hbl⟩:=hrel;obtain ⟨wx,rfl⟩:∃ y,y=wr:=⟨_,rfl⟩;have HALL:=hid hall;have HBL:=hid hbl;have zx:=hbl.size;clear hall
  by_cases hlt:k<n
  ·have VX:=HV.out.below hbl hhi
   have rgK:wx.rangeAt g (k*9) (ce k):=VX.range hlt;have hcK:(ce k).length=9:=VX.lens k hlt;have CS:=HCD.out k hlt wx (ChgL.of_below hbl);obtain ⟨cK,hcKe⟩:∃ c,c=ce k:=⟨_,rfl⟩;rw [← hcKe] at rgK hcK CS;obtain ⟨t,ht⟩:∃ t,t=del k:=⟨_,rfl⟩;rw [← ht] at CS;have HT:=hid ht
   have i1:(0:Int)≤(k:Int):=by omega
   have i2:(k:Int)<(n:Int):=by omega
   clear hbl hcKe VX ht
   go_wp2_with (refine wpList_load_mid rfl 52 (.tmp 14) rfl g (k*9) (by simp [Act.eval]) cK _ rgK Tryz.underlying52 rfl (zae hcK) ?_)
   refine CS.mono ?_;rintro e w5 ⟨rfl,b5⟩;have B5:=hid (HBL.out.trans (b5.mono zx));clear b5 CS rgK
   cases t with
   | true=>
    go_wp2;go_ret;exact ⟨.inr ⟨k,hlt,rfl,HT.out.symm,HALL.out⟩,B5.out⟩
   | false=>
    go_wp2
    go_roundw
    case rel=>exact ⟨k+1,by omega,by go_num,fun t ht=>by
     by_cases c:t=k
     ·rw [c];exact HT.out.symm
     ·exact HALL.out t (by omega),B5.out⟩
    case measure=>simp [intOf];omega
  ·obtain rfl:k=n:=by omega
   clear hbl;go_wp2;go_ret;exact ⟨.inl ⟨rfl,HALL.out⟩,HBL.out⟩
set_option maxRecDepth 100000 in
theorem zkf (g cap n lo hi:Nat) (x:Nat→RecD) (ce:Nat→List Value) (a0 a1:Nat) (del:Nat→Bool) (w:World) (hV:View zab 52 w lo hi (.slice (some ⟨g,0,none⟩) n cap) n x ce) (hlo:hi≤lo) (hlw:lo≤w.heap.size) (hn:n≤1048576) (CD:∀ k,k<n→∀ w',ChgL [g] w w'→Calls Tryz.prog 102 #[.agg (ce k).toArray,.pointer (some ⟨a0,0,none⟩),.pointer (some ⟨a1,0,none⟩)] w' (fun e w''=>e=.returned (.bool (del k))∧Below w'.heap.size w' w'')) :
 Calls Tryz.prog 100 #[.slice (some ⟨g,0,none⟩) n cap,.func (.func 102) #[] #[.pointer (some ⟨a0,0,none⟩),.pointer (some ⟨a1,0,none⟩)]] w fun e w'=>e=.returned (.slice (some ⟨g,0,none⟩) (za1 (fun i=>!(del i)) n).length cap)∧View zab 52 w' lo hi (.slice (some ⟨g,0,none⟩) (za1 (fun i=>!(del i)) n).length cap) (za1 (fun i=>!(del i)) n).length (fun i=>x (selF (fun i=>!(del i)) n i)) (fun i=>ce (selF (fun i=>!(del i)) n i))∧ChgL [g] w w':=by
 have HV:=hid hV;have HCD:=hid CD
 have hnc:n≤cap:=by
  rcases hV.row.2 with ⟨hn,_⟩ | ⟨g',cap',cur,he,hbg,hgg,hnc,_⟩
  ·cases hn
  ·cases he;exact hnc
 have HNC:=hid hnc;have hgl:=hV.row.lt g rfl;have CI:=zln g cap n lo hi x ce a0 a1 del w hV (by omega) hn CD;clear hV CD hnc
 go_enter Tryz.func100,Tryz.ntmps100
 go_wp2_with fail
 refine CI.mono ?_;rintro e w1 ⟨hcase,b1⟩;have HB1:=hid b1;have z1:=b1.size;clear CI b1
 rcases hcase with ⟨rfl,hall⟩ | ⟨i0,hi0,rfl,hp0,hbef⟩
 ·have HALL:Hid (∀ i,i<n→(fun i=>!(del i)) i=true):=fun i hi=>by show (!(del i))=true;rw [hall i hi];rfl
  clear hall
  have te:((-1:Int)==-1)=true:=by decide
  go_wp2;go_ret
  have em:(za1 (fun i=>!(del i)) n).length=n:=by rw [zdE HALL.out];simp
  rw [em];exact ⟨rfl,(HV.out.below HB1.out (by omega)).congr2 (fun i hi=>by rw [zfl HALL.out hi]) (fun i hi=>by rw [zfl HALL.out hi]),ChgL.of_below HB1.out⟩
 have HP0:Hid ((fun i=>!(del i)) i0=false):=by show (!(del i0))=false;rw [hp0];rfl
 have HBEF:Hid (∀ t,t<i0→(fun i=>!(del i)) t=true):=fun t ht=>by show (!(del t))=true;rw [hbef t ht];rfl
 clear hp0 hbef;have te:((i0:Int)==-1)=false:=beq_eq_false_iff_ne.2 (by omega)
 have zi:IntKind.i64.wrap ((i0:Int)+1)=(i0:Int)+1:=by rw [IntKind.wrap_i64];omega
 go_wp2
 go_loopw [5,6] (fun v z wr=>∃ j:Nat,j≤n∧i0<j∧z=.int .i64 j∧v=.int .i64 ((za1 (fun i=>!(del i)) j).length:Nat)∧View zab 52 wr lo hi (.slice (some ⟨g,0,none⟩) n cap) n (mixF (fun i=>!(del i)) (j) x) (mixF (fun i=>!(del i)) (j) ce)∧ChgL [g] w wr) (fun _ z _=>n-(intOf z).toNat)
 case atStart=>
  refine ⟨i0+1,by omega,by omega,by simp,?_,?_,ChgL.of_below HB1.out⟩
  ·rw [zcR HP0.out,zdE HBEF.out];simp
  ·exact (HV.out.below HB1.out (by omega)).congr2 (fun m _=>by rw [zcH x HP0.out,zgl x HBEF.out]) (fun m _=>by rw [zcH ce HP0.out,zgl ce HBEF.out])
 case round=>
  obtain ⟨j,hj,hij,rfl,rfl,hrow,hch⟩:=hrel;obtain ⟨wx,rfl⟩:∃ y,y=wr:=⟨_,rfl⟩;have HCH:=hid hch;have HRW:=hid hrow;have zx:=hch.size;have hless:(za1 (fun i=>!(del i)) j).length<j:=zho hij HP0.out;clear hch
  by_cases hlt:j<n
  ·have em:(mixF (fun i=>!(del i)) (j) ce) j=ce j:=ziV ce (Nat.le_of_lt hless)
   have ex:(mixF (fun i=>!(del i)) (j) x) j=x j:=ziV x (Nat.le_of_lt hless)
   have rgJ:wx.rangeAt g (j*9) (ce j):=by have:=hrow.range hlt;rw [em] at this;exact this
   have hcJ:(ce j).length=9:=by have:=hrow.lens j hlt;rw [em] at this;exact this
   have rdJ:zab.rd wx hi (x j) (ce j):=by have:=hrow.each j hlt;rw [em,ex] at this;exact this
   obtain ⟨cJ,hcJe⟩:∃ c,c=ce j:=⟨_,rfl⟩;have HCJ:=hid hcJe;rw [← hcJe] at rgJ hcJ rdJ;have oneJ:∀ v,v∈cJ→v.oneCell'=true:=zaA _ _ _ _ rdJ;have HRJ:=hid rdJ
   have i1:(0:Int)≤(j:Int):=by omega
   have i2:(j:Int)<(n:Int):=by omega
   have bV:=bAl wx (.cells cJ.toArray 52);have V1:=zan wx cJ.toArray 52;clear em ex hrow rdJ hcJe
   go_upto_region 8 with (first | (refine wpList_load_mid rfl 52 (.tmp 24) rfl g (j*9) (by simp [Act.eval]) cJ _ rgJ Tryz.underlying52 rfl (zae hcJ) ?_) | (refine zaB 52 7 (.tmp 25) cJ _ 9 rfl rfl rfl rfl rfl rfl rfl rfl zbt rfl hcJ oneJ ?_))
   obtain ⟨W5,hW5⟩:∃ y,y=wx.alloc (.cells cJ.toArray 52):=⟨_,rfl⟩;rw [← hW5] at bV V1 ⊢;clear hW5 rgJ;have z5:=bV.size;have HV1:=hid V1;have z5':=V1.lt;have C5:ChgL [g] w W5:=HCH.out.trans (ChgL.of_below bV);have CS:=HCD.out j hlt W5 C5;rw [← HCJ.out] at CS;obtain ⟨t,ht⟩:∃ t,t=del j:=⟨_,rfl⟩;rw [← ht] at CS
   have HT:Hid ((fun i=>!(del i)) j=!t):=by rw [ht];exact rfl
   have HC5:=hid C5;have HR5:Hid (View zab 52 W5 lo hi (.slice (some ⟨g,0,none⟩) n cap) n (mixF (fun i=>!(del i)) (j) x) (mixF (fun i=>!(del i)) (j) ce)):=HRW.out.below bV (by omega);have HRJ5:Hid (zab.rd W5 hi (x j) cJ):=zab.rd_below HRJ.out bV (by omega);clear ht C5 V1 bV
   go_wp2_with (refine zax 52 (.tmp 7) rfl rfl (wx.heap.size) rfl HV1.out Tryz.underlying52 zc4 hcJ ?_)
   refine CS.mono ?_;rintro e w6 ⟨rfl,b6⟩;have z6:=b6.size;have HV6:Hid (Box w6 wx.heap.size cJ.toArray 52):=HV1.out.below b6 z5';have C6:Hid (ChgL [g] w w6):=HC5.out.trans (ChgL.of_below b6);have HS6:Hid (View zab 52 w6 lo hi (.slice (some ⟨g,0,none⟩) n cap) n (mixF (fun i=>!(del i)) (j) x) (mixF (fun i=>!(del i)) (j) ce)):=HR5.out.below b6 (by omega);have HRJ6:Hid (zab.rd w6 hi (x j) cJ):=zab.rd_below HRJ5.out b6 (by omega);clear b6 CS HV1 HC5 HR5 HRJ5
   cases t with
   | true=>
    go_wp2
    go_roundw
    case rel=>exact ⟨j+1,by omega,by omega,by go_num,by rw [zcR HT.out],HS6.out.congr2 (fun m _=>(zcH x HT.out m).symm) (fun m _=>(zcH ce HT.out m).symm),C6.out⟩
    case measure=>simp [intOf];omega
   | false=>
    obtain ⟨q,hq⟩:∃ q,q=(za1 (fun i=>!(del i)) j).length:=⟨_,rfl⟩;have HQ:=hid hq
    have hqn:q<n:=by omega
    rw [← hq]
    have k1:(0:Int)≤(q:Int):=by omega
    have k2:(q:Int)<(n:Int):=by omega
    have hth:w6.there g (q*9) cJ.length:=by rw [hcJ];exact HS6.out.there hqn
    have hpk:(fun i=>!(del i)) j=true:=HT.out
    have hnx:(za1 (fun i=>!(del i)) (j+1)).length=q+1:=by rw [hq,zcx,if_pos hpk];simp
    have HNX:=hid hnx
    have HV7:Hid (View zab 52 (w6.setCells g (q*9) cJ) lo hi (.slice (some ⟨g,0,none⟩) n cap) n (mixF (fun i=>!(del i)) (j+1) x) (mixF (fun i=>!(del i)) (j+1) ce)):=by
     have:=HS6.out.put (by decide) hlo hqn HRJ6.out;refine this.congr2 (fun m _=>?_) (fun m _=>?_)
     ·have:=zeU (p:=(fun i=>!(del i))) (j:=j) x hpk m
      rw [← hq] at this;exact this
     ·have:=zeU (p:=(fun i=>!(del i))) (j:=j) ce hpk m
      rw [← hq,← HCJ.out] at this;exact this
    have C7:Hid (ChgL [g] w (w6.setCells g (q*9) cJ)):=C6.out.trans (zbY g cJ w6 _)
    have zq:IntKind.i64.wrap ((q:Int)+1)=(q:Int)+1:=by rw [IntKind.wrap_i64];omega
    clear hq hnx hpk
    go_wp2_with (first | (refine zax 52 (.tmp 7) rfl rfl (wx.heap.size) rfl HV6.out Tryz.underlying52 zc4 hcJ ?_) | (refine wpList_store_mid rfl 52 (.tmp 33) (.tmp 32) rfl g (q*9) cJ.toArray (by simp [Act.eval]) (by simp [Act.eval]) (show w6.there g (q*9) cJ.toArray.size by rw [List.size_toArray];exact hth) (show _=some cJ.toArray.size by rw [List.size_toArray];exact zae hcJ) (all_oneCell_toArray oneJ) ?_;rw [show cJ.toArray.toList=cJ from rfl]))
    go_roundw
    case rel=>exact ⟨j+1,by omega,by omega,by go_num,by rw [HNX.out];simp,HV7.out,C7.out⟩
    case measure=>simp [intOf];omega
  ·obtain rfl:j=n:=by omega
   obtain ⟨q,hq⟩:∃ q,q=(za1 (fun i=>!(del i)) j).length:=⟨_,rfl⟩;have HQ:=hid hq;have S5:=HRW.out;have hlens:=S5.lens
   rcases S5.row.2 with ⟨hnn,_⟩ | ⟨g',cap',cur,he,hbg,hgg,hnc',hcm,hcs,htk⟩
   ·cases hnn
   cases he
   have hqn:q<j:=by omega
   obtain ⟨row,hcl,hrs,hrt⟩:=zfS wx 0 g (q*9) (j-q) (cap-q) cur hgg (by omega) (by
    have h9:cur.size=cap*9:=hcs
    have:q*9+(j-q)*9≤cap*9:=by rw [← Nat.add_mul];exact Nat.mul_le_mul_right 9 (by omega)
    omega)
   have hf:=zfT g j cap q hqn HNC.out;have ht:=fun w'=>ziW g j cap q (by omega) w';obtain ⟨W7,hW7⟩:∃ y,y=wx.setRow g row:=⟨_,rfl⟩;rw [← hW7] at hcl
   have C7:Hid (ChgL [g] w W7):=by
    rw [hW7];exact HCH.out.trans (zcw g row)
   have C7x:ChgL [g] wx W7:=by rw [hW7];exact zcw g row
   have bX:Below lo wx W7:=C7x.bel (fun b hb=>by simp at hb;omega) (by omega)
   have R7:Hid (View zab 52 W7 lo hi (.slice (some ⟨g,0,none⟩) q cap) q (fun i=>x (selF (fun i=>!(del i)) j i)) (fun i=>ce (selF (fun i=>!(del i)) j i))):=by
    have e1:catN q (mixF (fun i=>!(del i)) (j) ce)=catN q (fun i=>ce (selF (fun i=>!(del i)) j i)):=zcn (fun i hi=>by
     show mixF _ j ce i=_
     unfold mixF
     rw [if_pos (by rw [← hq];exact hi)])
    have hl9:∀ i,i<q→(ce (selF (fun i=>!(del i)) j i)).length=zab.sz:=fun i hi=>by
     have:=hlens i (by omega);unfold mixF at this;rw [if_pos (by rw [← hq];exact hi)] at this;exact this
    refine ⟨⟨zbx hl9,.inr ⟨g,cap,row,rfl,hbg,by rw [hW7];exact setRow_heap wx g cur row 52 (0,0) hgg,by omega,hcm,by rw [hrs];exact hcs,?_⟩⟩,fun i hi=>?_⟩
    ·rw [← e1,← zhp hlens (Nat.le_of_lt hqn),← htk,List.take_take,Nat.min_eq_left (Nat.mul_le_mul_right _ (Nat.le_of_lt hqn))]
     exact hrt
    ·have h1:=S5.each i (by omega)
     unfold mixF at h1;rw [if_pos (by rw [← hq];exact hi),if_pos (by rw [← hq];exact hi)] at h1;exact zab.rd_below h1 bX hlo
   clear S5 hlens hgg htk hcs hcm hnc' hbg hrs hrt hW7 hless C7x bX;rw [← hq];clear hq
   go_wp2_with (simp only [hcl])
   go_ret;rw [← HQ.out];exact ⟨rfl,R7.out,C7.out⟩
set_option maxRecDepth 100000 in
theorem zlY (s:Nat→Int) (hok:zat s) (nm:ByteArray) (hn:zbd nm) (g:Int) (c0 c1 c3 c4 c5 c6 c7 c8:Value) (rest:List Value) (WB GB:Nat) (w:World) (hW:Box w WB (([.int .i64 (s 0),.int .i64 (s 1),.int .i64 (s 2),.int .i64 (s 3),.int .i64 (s 4),.int .i64 (s 5),.int .i64 (s 6),.int .i64 (s 7),.int .i64 (s 8)]:List Value)++rest).toArray 38) (hG:Box w GB #[.int .i64 g] 2) :
 Calls Tryz.prog 102 #[.agg #[c0,c1,.string nm,c3,c4,c5,c6,c7,c8],.pointer (some ⟨WB,0,none⟩),.pointer (some ⟨GB,0,none⟩)] w fun e w'=>e=.returned (.bool (decide (zb6 s nm≠g)))∧Below w.heap.size w w':=by
 have T0:=zaL w #[c0,c1,.string nm,c3,c4,c5,c6,c7,c8] 52;obtain ⟨W,hWe⟩:∃ y,y=w.alloc (.cells #[c0,c1,.string nm,c3,c4,c5,c6,c7,c8] 52):=⟨_,rfl⟩;obtain ⟨D,hD⟩:∃ D,D=W.drew:=⟨_,rfl⟩;have HD:=hid hD
 have bD:Below w.heap.size w D:=by rw [hD,hWe];exact T0.bel.trans ⟨rfl,rfl,rfl,Nat.le_refl _,fun _ _=>rfl⟩
 have hWD:=hW.below bD hW.lt;have hGD:=hG.below bD hG.lt
 have y2:D.cell? ⟨w.heap.size,2,none⟩=some (.string nm):=by rw [hD,hWe];exact T0.b1.cell 2
 obtain ⟨cS,hcS⟩:∃ c:List Value,c=[.int .i64 (s 0),.int .i64 (s 1),.int .i64 (s 2),.int .i64 (s 3),.int .i64 (s 4),.int .i64 (s 5),.int .i64 (s 6),.int .i64 (s 7),.int .i64 (s 8)]:=⟨_,rfl⟩
 have hlS:cS.length=9:=by rw [hcS];rfl
 have rgS:D.rangeAt WB 0 cS:=fun j v hv=>by
  have hj:j<9:=by rw [← hlS];exact (List.getElem?_eq_some_iff.1 hv).1
  rw [Nat.zero_add,hWD.cell j,List.getElem?_toArray,List.getElem?_append_left (by rw [← hcS,hlS];exact hj),← hcS];exact hv
 have gC:D.cell? ⟨GB,0,none⟩=some (.int .i64 g):=hGD.cell 0;have CH0:=zjd hok hn D;rw [show zak s=.agg cS.toArray by rw [hcS];rfl] at CH0;obtain ⟨hv,hhv⟩:∃ h,h=zb6 s nm:=⟨_,rfl⟩;rw [← hhv] at CH0 ⊢;have CH:=zb7 CH0
 have HS:Hid (∀ w',Below D.heap.size D w'→(w'.rangeAt WB 0 cS∧w'.cell? ⟨w.heap.size,2,none⟩=some (.string nm)∧w'.cell? ⟨GB,0,none⟩=some (.int .i64 g))):=fun w' hb=>
  ⟨fun j v hv=>(hb.cell (p:=⟨WB,0+j,none⟩) hWD.lt).trans (rgS j v hv),(hb.cell (p:=⟨w.heap.size,2,none⟩) (by show w.heap.size<_;rw [hD,hWe];exact T0.b1.lt)).trans y2,(hb.cell (p:=⟨GB,0,none⟩) hGD.lt).trans gC⟩
 have HB:=hid bD;have fN:=zmg;have hst:HS.out=HS.out:=rfl;clear hW hG hWD hGD y2 gC CH0 hhv hD T0 bD hst hcS
 go_enter Tryz.func102,Tryz.ntmps102
 go_upto_region 1 with fail
 rw [← hWe];refine zai 7 (fun w'=>w'.rangeAt WB 0 cS∧w'.cell? ⟨w.heap.size,2,none⟩=some (.string nm)∧w'.cell? ⟨GB,0,none⟩=some (.int .i64 g)) zdu (by rw [← HD.out];exact HS.out _ (Below.refl _ _)) (fun hHeld=>?_);rw [← HD.out] at hHeld ⊢;clear hWe;refine zmS 0 rfl ?_
 try simp only [Act.put,SL]
 refine zac (i:=1) (oi:=_) 16 rfl (by kernel_rfl) (fun _ _ _ h=>h) (yieldsIf_load_mid (by kernel_rfl) 34 (.tmp 5) rfl WB (0) (by simp [Act.eval,Act.put]) cS _ (fun w h=>h.1) Tryz.underlying34 rfl (zcm hlS)) (by assumption) ?_
 try simp only [Act.put,SL]
 refine zmS 2 rfl ?_
 try simp only [Act.put,SL]
 refine zmT 3 rfl ?_
 try simp only [Act.put,SL]
 refine zmT 6 rfl ?_
 try simp only [Act.put,SL]
 refine zap (i:=4) (o:=_) rfl (by kernel_rfl) (fun KC hKC=>?_);refine zaH (by kernel_rfl) (.func 103) 103 #[] _ _ rfl (by simp [Act.eval,Act.put]) #[.agg cS.toArray,.string nm] (by simp [Act.eval,Act.put]) Tryz.func103 (by kernel_rfl) (by kernel_rfl) CH ?_;rintro e w9 ⟨rfl,b9⟩;refine ⟨_,rfl,?_⟩;have hH9:=HS.out _ b9;refine hKC _ _ hH9 ?_;clear hKC KC
 try simp only [Act.put,SL]
 refine zmS 5 rfl ?_
 try simp only [Act.put,SL]
 refine zaj (i:=7) (o:=_) rfl (by kernel_rfl) (by kernel_rfl) (fun KC hKC=>?_);go_simp;refine hKC _ _ ?_;clear hKC KC
 try simp only [Act.put,SL]
 refine zmD 8 (v:=?_) rfl ?_ ?_
 rotate_left
 ·intro w' hSw;go_simp;try with_reducible rfl
 try simp only [Act.put,SL]
 refine zaf (by kernel_rfl) ?_ _;have HB9:=hid (HB.out.trans (b9.mono HB.out.size));clear b9 hHeld HS hH9;go_wp2;go_ret;exact ⟨by by_cases e:hv=g<;>simp [e],HB9.out⟩
set_option maxRecDepth 20000 in
theorem ziF (ao:Option Addr) (cap:Nat) (fv:Value) (w:World) :
 Calls Tryz.prog 100 #[.slice ao 0 cap,fv] w fun e w'=>e=.returned (.slice ao 0 cap)∧w'=w:=by
 have CI:Calls Tryz.prog 130 #[.slice ao 0 cap,fv] w fun e w'=>e=.returned (.int .i64 (-1))∧w'=w:=by
  go_enter Tryz.func130,Tryz.ntmps130
  go_wp2
  go_loop [8] (fun z=>z=.int .i64 0) (fun _=>0)
  case atStart=>rfl
  case round=>
   subst hrel;go_wp2;go_ret;exact ⟨rfl,rfl⟩
 have te:((-1:Int)==-1)=true:=by decide
 go_enter Tryz.func100,Tryz.ntmps100
 go_wp2_with fail
 refine CI.mono ?_;rintro e w1 ⟨rfl,e1⟩;obtain rfl:=e1.symm;go_wp2;go_ret;exact ⟨rfl,rfl⟩
theorem zlZ (x:Nat→RecD) (ce:Nat→List Value) (N lo hi a0 a1:Nat) (w:World) (v:Value) (del:Nat→Bool) (V:View zab 52 w lo hi v N x ce) (hhi:hi≤lo) (hlo:lo≤w.heap.size) (hN:N≤1048576) (CD:∀ k,k<N→∀ w',Below lo w w'→Calls Tryz.prog 102 #[.agg (ce k).toArray,.pointer (some ⟨a0,0,none⟩),.pointer (some ⟨a1,0,none⟩)] w' (fun e w''=>e=.returned (.bool (del k))∧Below w'.heap.size w' w'')) :
 Calls Tryz.prog 100 #[v,(.func (.func 102) #[] #[.pointer (some ⟨a0,0,none⟩),.pointer (some ⟨a1,0,none⟩)])] w fun e w'=>∃ v',e=.returned v'∧View zab 52 w' lo hi v' (za1 (fun i=>!(del i)) N).length (fun i=>x (selF (fun i=>!(del i)) N i)) (fun i=>ce (selF (fun i=>!(del i)) N i))∧Below lo w w':=by
 by_cases h0:N=0
 ·subst h0
  obtain ⟨ao,cap,rfl⟩:=V.form;refine (ziF ao cap (.func (.func 102) #[] #[.pointer (some ⟨a0,0,none⟩),.pointer (some ⟨a1,0,none⟩)]) w).mono ?_;rintro e w' ⟨rfl,e1⟩;obtain rfl:=e1.symm;exact ⟨_,rfl,V.congr2 (fun i hi=>by omega) (fun i hi=>by omega),Below.refl _ _⟩
 ·obtain ⟨g,cap,rfl⟩:=V.form0 h0
  have hg:=(V.row.lt g rfl).1;refine (zkf g cap N lo hi x ce a0 a1 del w V hhi hlo hN (fun k hk w' hc=>CD k hk w' (hc.bel (fun b hb=>by simp at hb;omega) hlo))).mono ?_;rintro e w' ⟨rfl,V2,c2⟩;exact ⟨_,rfl,V2,c2.bel (fun b hb=>by simp at hb;omega) hlo⟩
theorem zlo (x0:Nat→RecD) (enc:Nat→List Value) (N lo hi:Nat) (w:World) (v:Value) (V:View zab 52 w lo hi v N x0 enc) (hlo:hi≤lo) (hl:lo≤w.heap.size) (hN:N<1000000000) :
 Calls Tryz.prog 104 #[v,.func (.func 105) #[] #[]] w (fun e w'=>e=.returned (.tuple #[])∧∃ q,View zab 52 w' lo hi v N (fun i=>x0 (q i)) (fun i=>enc (q i))∧Sym.Re 0 N (fun i=>i) q∧Sym.Srt (seqL x0) q 0 N∧Below lo w w'):=by
 rcases V.form2 with ⟨rfl,rfl⟩ | ⟨g,cap,rfl,_,_⟩
 ·refine (zfg w).mono ?_
  rintro e w' ⟨rfl,hb⟩;exact ⟨rfl,fun i=>i,V.below hb (by omega),Sym.Re.refl _ _ _,fun i j h1 h2 h3=>by omega,hb.mono hl⟩
 ·have hg:=(V.row.lt g rfl).1
  refine (zff x0 enc N g cap lo hi w V hlo hN).mono ?_;rintro e w' ⟨rfl,q,V2,h1,h2,h3⟩;exact ⟨rfl,q,V2,h1,h2,h3.bel (fun b hb=>by simp at hb;omega) hl⟩
set_option maxRecDepth 100000 in
theorem zgA (d:WorldD) (g:Int) (cs:List Value) (hi:Nat) (w:World) (h:zal.rd w hi d cs) (hhi:hi≤w.heap.size) (hok:OkWorld d) :
 Calls Tryz.prog 61 #[.agg cs.toArray,.int .i64 g] w fun e w'=>∃ u l m q cu,e=.returned u∧Cnt (recT d.tapes.2 2) (lenT d.tapes.2 2) l∧Live (fun i=>recT d.tapes.2 2 (l.getD i 0)) l.length m∧View zab 52 w' w.heap.size hi u (naN (fun i=>recT d.tapes.2 2 (l.getD i 0)) m d.shape g) (fun i=>naX (fun i=>recT d.tapes.2 2 (l.getD i 0)) m d.shape g (q i)) cu∧Sym.Re 0 (naN (fun i=>recT d.tapes.2 2 (l.getD i 0)) m d.shape g) (fun i=>i) q∧Sym.Srt (seqL (naX (fun i=>recT d.tapes.2 2 (l.getD i 0)) m d.shape g)) q 0 (naN (fun i=>recT d.tapes.2 2 (l.getD i 0)) m d.shape g)∧Below w.heap.size w w':=by
 have h':=h;obtain ⟨ao1,cap1,ao2,cap2,ao3,cap3,rfl,-⟩:=zaX h';have HRD:Hid (zal.rd w hi d (rwW d ao1 cap1 ao2 cap2 ao3 cap3)):=h;have HOK:Hid (OkWorld d):=hok;clear h h' hok;have hmf:∀ (fn:Fn) (first cap:Array Value) (w:World),(Instr.makeFunc fn first cap).run Tryz.prog w=.ok (.func fn first cap) w:=fun _ _ _ _=>rfl;have T0:=zaN w (rwW d ao1 cap1 ao2 cap2 ao3 cap3).toArray #[.int .i64 g] 38 2;have hn0:(d.tapes.2 0).recs.1≤400000:=Nat.le_trans (HOK.out.few 0 (by have:=HOK.out.form.2.2;omega)) (by decide);have hn1:(d.tapes.2 1).recs.1≤400000:=Nat.le_trans (HOK.out.few 1 (by have:=HOK.out.form.2.2;omega)) (by decide)
 go_enter Tryz.func61,Tryz.ntmps61
 go_upto_region 1 with fail
 have HT0:Hid (Two w _ (rwW d ao1 cap1 ao2 cap2 ao3 cap3).toArray #[.int .i64 g] 38 2):=T0;obtain ⟨W0,hW0⟩:∃ y,y=(w.alloc (.cells (rwW d ao1 cap1 ao2 cap2 ao3 cap3).toArray 38)).alloc (.cells #[.int .i64 g] 2):=⟨_,rfl⟩
 have HT:Hid (Two w W0 (rwW d ao1 cap1 ao2 cap2 ao3 cap3).toArray #[.int .i64 g] 38 2):=by rw [hW0];exact HT0.out
 rw [← hW0];clear T0 HT0 hW0;have CR:=zeg d (rwW d ao1 cap1 ao2 cap2 ao3 cap3) hi W0 (zal.rd_below HRD.out HT.out.bel hhi) (Nat.le_trans hhi HT.out.bel.size) HOK.out
 go_wp2_with (refine zax 38 (.tmp 2) rfl rfl (w.heap.size) rfl (HT.out.b1) Tryz.underlying38 zdJ rfl ?_)
 refine CR.mono ?_;rintro e w2 ⟨B,l,ce,v,b1,b2,b3,b4,b5,rfl,hCt,hLd,hRd,bb2⟩;have HL:Hid (Cnt (recT d.tapes.2 2) (lenT d.tapes.2 2) l):=hCt;have HT2:Hid (Two w w2 (rwW d ao1 cap1 ao2 cap2 ao3 cap3).toArray #[.int .i64 g] 38 2):=HT.out.call bb2;have z0:w.heap.size+1<W0.heap.size:=HT.out.b2.lt;have z2:W0.heap.size≤w2.heap.size:=bb2.size
 have hlen:l.length≤800000:=by
  have h1:=(hCt.sum (fun _=>0)).2
  have e2:lenT d.tapes.2 2=(d.tapes.2 0).recs.1+(d.tapes.2 1).recs.1:=by simp [lenT]
  omega
 have CU:=ziC hLd (by omega) (by omega) hRd (fun i hi' hk1=>zi8 (zi9 HOK.out hCt hi') hk1) (fun m hm=>by have:=(zeV hm (fun _=>0)).2;omega);have HIT:Hid (∀ i,i<l.length→((fun i=>recT d.tapes.2 2 (l.getD i 0)) i).kind=1→zbd ((fun i=>recT d.tapes.2 2 (l.getD i 0)) i).name∧((fun i=>recT d.tapes.2 2 (l.getD i 0)) i).rows.1≤3):=zgz HOK.out hCt;clear hLd hRd bb2 CR HT
 go_wp2_with fail
 refine CU.mono ?_;rintro e w5 ⟨u,cu,m,rfl,hLM,V,b5'⟩;have HLM:Hid (Live (fun i=>recT d.tapes.2 2 (l.getD i 0)) l.length m):=hLM;have HT5:Hid (Two w w5 (rwW d ao1 cap1 ao2 cap2 ao3 cap3).toArray #[.int .i64 g] 38 2):=HT2.out.call b5';have z5:w2.heap.size≤w5.heap.size:=b5'.size;obtain ⟨x0,hx0⟩:∃ x,x=(fun i=>recT d.tapes.2 2 (l.getD i 0)):=⟨_,rfl⟩;have HX0:Hid (x0=(fun i=>recT d.tapes.2 2 (l.getD i 0))):=hx0
 have HOKN:Hid (∀ a,a<wtN x0 m→zbd (x0 (wtI x0 m a)).name):=fun a ha=>by
  rw [hx0] at ha ⊢;have hm2:=zdD ha;have hlt:=zgk hm2;have hmm:=(hLM.1 _).1 (zfq (l:=m) (i:=selF (wtP (fun i=>recT d.tapes.2 2 (l.getD i 0)) m) m.length a) hlt);exact (HIT.out _ hmm.1 hmm.2.1).1
 have hnl:wtN x0 m≤800000:=by
  have h1:=(zeV hLM (fun _=>0)).2;have h2:=zfk (wtP x0 m) m.length;unfold wtN;omega
 have HV:Hid (View zab 52 w5 w2.heap.size hi u (wtN x0 m) (fun i=>x0 (wtI x0 m i)) cu):=by
  show View zab 52 w5 w2.heap.size hi u (wtN x0 m) (fun i=>x0 (wtI x0 m i)) cu
  rw [hx0];exact V
 clear V b5' CU HT2 hCt hLM hx0
 have CD:=zlZ (fun a=>x0 (wtI x0 m a)) cu (wtN x0 m) w2.heap.size hi w.heap.size (w.heap.size+1) w5 u (fun a=>decide (zb6 d.shape (x0 (wtI x0 m a)).name≠g)) HV.out (by omega) z5 (by omega) (fun k hk w' hb=>by
  obtain ⟨ao6,cap6,ao7,cap7,ao8,cap8,hce,-⟩:=zaF (HV.out.each k hk);rw [hce]
  exact zlY d.shape HOK.out.shape _ (HOKN.out k hk) g _ _ _ _ _ _ _ _ [.slice ao1 d.groups.1 cap1,.slice ao2 d.on.1 cap2,.slice ao3 d.tapes.1 cap3,.int .i64 d.writes,.int .i64 d.stop,.bool d.down] w.heap.size (w.heap.size+1) w' (HT5.out.b1.below hb (by omega)) (HT5.out.b2.below hb (by omega)))
 obtain ⟨ao,cap,hu⟩:=HV.out.form;subst hu
 go_wp2_with fail
 refine CD.mono ?_;rintro e w6 ⟨v6,rfl,V6,b6⟩;have HV6:Hid (View zab 52 w6 w2.heap.size hi v6 (naN x0 m d.shape g) (naX x0 m d.shape g) (fun i=>cu (naS x0 m d.shape g i))):=V6;have HB6:Hid (Below w.heap.size w w6):=HT5.out.bel.trans (b6.mono (by omega));have z6:w5.heap.size≤w6.heap.size:=b6.size
 have hN6:naN x0 m d.shape g<1000000000:=by
  have h2:=zfk (naP x0 m d.shape g) (wtN x0 m);unfold naN;omega
 have CQ:=zlo (naX x0 m d.shape g) (fun i=>cu (naS x0 m d.shape g i)) (naN x0 m d.shape g) w2.heap.size hi w6 v6 HV6.out (by omega) (by omega) hN6;obtain ⟨ao6,cap6,hv6⟩:=HV6.out.form;subst hv6;clear CD V6 b6 hN6
 go_wp2_with fail
 refine CQ.mono ?_;rintro e w7 ⟨rfl,q,V7,hRe,hS,b7⟩;have HV7:Hid (View zab 52 w7 w.heap.size hi (.slice ao6 (naN x0 m d.shape g) cap6) (naN x0 m d.shape g) (fun i=>naX x0 m d.shape g (q i)) (fun i=>cu (naS x0 m d.shape g (q i)))):=V7.weakL (by omega);have HB7:Hid (Below w.heap.size w w7):=HB6.out.trans (b7.mono (by omega));have HRe:Hid (Sym.Re 0 (naN x0 m d.shape g) (fun i=>i) q):=hRe;have HS:Hid (Sym.Srt (seqL (naX x0 m d.shape g)) q 0 (naN x0 m d.shape g)):=hS;clear CQ V7 b7 hRe hS;go_wp2;go_ret;have e:=HX0.out;exact ⟨_,l,m,q,_,rfl,HL.out,HLM.out,by rw [← e];exact HV7.out,by rw [← e];exact HRe.out,by rw [← e];exact HS.out,HB7.out⟩
def Fits (s:Nat→Int) (l F:Int):Prop:=∃ v c,PfAns s l v c∧v≤F
theorem Fits.not {s:Nat→Int} {l F v c:Int} (h:PfAns s l v c) (k:¬ v≤F):¬ Fits s l F:=fun ⟨v',c',h',k'⟩=>k (by rw [(h.one h').1];exact k')
def NdC (s:Nat→Int) (g F:Int) (x:Nat→RecD) (m:List Nat) (j:Nat):Prop:=((j<m.length∧(x (m.getD j 0)).data.1≠0)∧zb6 s (x (m.getD j 0)).name=g)∧Fits s (x (m.getD j 0)).length F
def NdZ (s:Nat→Int) (g F:Int) (x:Nat→RecD) (m:List Nat) (z:Int):Prop:=NdB (NdC s g F x m) (fun j=>(x (m.getD j 0)).seq) z
def naM (x:Nat→RecD) (m:List Nat) (s:Nat→Int) (g:Int) (i:Nat):Nat:=selF (wtP x m) m.length (naS x m s g i)
theorem zhE {p:Nat→Bool} {n a b:Nat} (h:a<b) (hb:b<(za1 p n).length):selF p n a<selF p n b:=by
 have hp:(za1 p n).Pairwise (·<·):=List.Pairwise.filter _ List.pairwise_lt_range;have:=List.pairwise_iff_getElem.1 hp a b (by omega) hb h;unfold selF;rw [zb5 (by omega:a<_),zb5 hb];exact this
theorem zeW {p:Nat→Bool} {n j:Nat}:j∈za1 p n↔j<n∧p j=true:=by
 unfold za1;rw [List.mem_filter,List.mem_range]
theorem zmh {x:Nat→RecD} {m:List Nat} {s:Nat→Int} {g:Int} {a:Nat}:naP x m s g a=true↔zb6 s (x (wtI x m a)).name=g:=by
 unfold naP
 simp
theorem zmi {x:Nat→RecD} {m:List Nat} {a:Nat}:wtP x m a=true↔(x (m.getD a 0)).data.1≠0:=by
 unfold wtP
 simp
theorem zlp (s:Nat→Int) (g F:Int) (x:Nat→RecD) (m:List Nat) (j:Nat):NdC s g F x m j↔∃ a,a<naN x m s g∧naM x m s g a=j∧Fits s (x (m.getD j 0)).length F:=by
 constructor
 ·rintro ⟨⟨⟨h0,h1⟩,h2⟩,h3⟩
  have hm0:j∈za1 (wtP x m) m.length:=zeW.2 ⟨h0,zmi.2 h1⟩;obtain ⟨b,hb,eb⟩:=List.mem_iff_getElem.1 hm0
  have eb2:selF (wtP x m) m.length b=j:=by
   unfold selF;rw [zb5 hb];exact eb
  have e3:x (wtI x m b)=x (m.getD j 0):=by unfold wtI;rw [eb2]
  have hm:b∈za1 (naP x m s g) (wtN x m):=zeW.2 ⟨hb,zmh.2 (by rw [e3];exact h2)⟩;obtain ⟨a,ha,e⟩:=List.mem_iff_getElem.1 hm;refine ⟨a,ha,?_,h3⟩
  have e4:naS x m s g a=b:=by
   unfold naS selF;rw [zb5 ha];exact e
  unfold naM;rw [e4,eb2]
 ·rintro ⟨a,ha,rfl,h3⟩
  have hm:=zeW.1 (zdD (p:=naP x m s g) (n:=wtN x m) ha);have hm2:=zeW.1 (zdD (p:=wtP x m) (n:=m.length) hm.1);exact ⟨⟨⟨hm2.1,zmi.1 hm2.2⟩,zmh.1 hm.2⟩,h3⟩
theorem zl0 {x:Nat→RecD} {m:List Nat} {s:Nat→Int} {g:Int} {a b:Nat} (h:a<b) (hb:b<naN x m s g):naM x m s g a<naM x m s g b:=
 zhE (zhE h hb) (zgk (zdD (p:=naP x m s g) (n:=wtN x m) hb))
theorem zlq {n:Nat} {q:Nat→Nat} (h:Sym.Re 0 n (fun i=>i) q) {a:Nat} (ha:a<n):q a<n:=by
 obtain ⟨s,t,h1,h2,h3,h4⟩:=h;rw [h1]
 rcases Nat.lt_or_ge (s a) n with c | c
 ·exact c
 ·have e:=h4 (s a) (.inr c)
  have:=h2 (s a);rw [e,h2] at this;omega
theorem zhF {n:Nat} {q:Nat→Nat} (h:Sym.Re 0 n (fun i=>i) q) {a:Nat} (ha:a<n):∃ b,b<n∧q b=a:=by
 obtain ⟨s,t,h1,h2,h3,h4⟩:=h;refine ⟨t a,?_,by rw [h1];exact h3 a⟩
 rcases Nat.lt_or_ge (t a) n with c | c
 ·exact c
 ·have e:=h4 (t a) (.inr c)
  rw [h3] at e;omega
theorem zl1 {s:Nat→Int} {g F:Int} {x:Nat→RecD} {m:List Nat} {q:Nat→Nat} {k:Nat} (hR:Sym.Re 0 (naN x m s g) (fun i=>i) q) (hS:Sym.Srt (seqL (naX x m s g)) q 0 (naN x m s g)) (hk:k<naN x m s g) (hf:Fits s (naX x m s g (q k)).length F) (hno:∀ a,a<k→¬ Fits s (naX x m s g (q a)).length F):naM x m s g (q k)<m.length∧NdZ s g F x m ((naM x m s g (q k):Nat):Int):=
 ⟨zgk (zdD (p:=wtP x m) (n:=m.length) (zgk (zdD (p:=naP x m s g) (n:=wtN x m) (zlq hR hk)))),zlh (c0:=fun j=>Fits s (x (m.getD j 0)).length F) (f:=naM x m s g) (q:=q) hk (fun a b h1 h2=>zl0 h1 h2) (zlp s g F x m) (fun a ha=>zhF hR ha) (fun a ha=>zlq hR ha) (fun a b h1 h2=>by
  have:=hS a b (Nat.zero_le _) h1 h2;unfold seqL at this;rw [zgb,zib] at this
  exact this) hf hno⟩
theorem zkg {s:Nat→Int} {g F:Int} {x:Nat→RecD} {m:List Nat} {q:Nat→Nat} (hR:Sym.Re 0 (naN x m s g) (fun i=>i) q) (hno:∀ a,a<naN x m s g→¬ Fits s (naX x m s g (q a)).length F):NdZ s g F x m (-1):=
 zmA (c0:=fun j=>Fits s (x (m.getD j 0)).length F) (f:=naM x m s g) (q:=q) (zlp s g F x m) (fun a ha=>zhF hR ha) hno
theorem zm3 (c z:Int) (w':World):(Instr.field 99 (.agg #[.int .i64 c,.int .i64 z]) 1).run Tryz.prog w'=.ok (.int .i64 z) w':=by kernel_rfl
set_option maxRecDepth 100000 in
theorem zfr (d:WorldD) (g:Int) (cs:List Value) (hi:Nat) (w:World) (h:zal.rd w hi d cs) (hhi:hi≤w.heap.size) (hok:OkWorld d) :
 Calls Tryz.prog 26 #[.agg cs.toArray,.int .i64 g] w fun e w'=>∃ l m,Cnt (recT d.tapes.2 2) (lenT d.tapes.2 2) l∧Live (fun i=>recT d.tapes.2 2 (l.getD i 0)) l.length m∧Below w.heap.size w w'∧((NdZ d.shape g ((zbf d g l m).1:Int) (fun i=>recT d.tapes.2 2 (l.getD i 0)) m (-1)∧e=.returned (.tuple #[.agg #[.int .i64 0,.int .i64 0,.string ⟨#[]⟩,.int .i64 0,.int .i64 0,.int .i64 0,.slice none 0 0,.slice none 0 0,.slice none 0 0],.bool false]))∨∃ j:Nat,j<m.length∧NdZ d.shape g ((zbf d g l m).1:Int) (fun i=>recT d.tapes.2 2 (l.getD i 0)) m (j:Int)∧∃ c,zab.rd w' hi ((fun i=>recT d.tapes.2 2 (l.getD i 0)) (m.getD j 0)) c∧e=.returned (.tuple #[.agg c.toArray,.bool true])):=by
 have h':=h;obtain ⟨ao1,cap1,ao2,cap2,ao3,cap3,rfl,-⟩:=zaX h';have HRD:=hid h;have HOK:=hid hok;clear h h' hok;have T0:=zaN w (rwW d ao1 cap1 ao2 cap2 ao3 cap3).toArray #[.int .i64 0,.int .i64 0,.string ⟨#[]⟩,.int .i64 0,.int .i64 0,.int .i64 0,.slice none 0 0,.slice none 0 0,.slice none 0 0] 38 52
 go_enter Tryz.func26,Tryz.ntmps26
 go_upto_region 1 with fail
 have HT0:=hid T0;obtain ⟨W0,hW0⟩:∃ y,y=(w.alloc (.cells (rwW d ao1 cap1 ao2 cap2 ao3 cap3).toArray 38)).alloc (.cells #[.int .i64 0,.int .i64 0,.string ⟨#[]⟩,.int .i64 0,.int .i64 0,.int .i64 0,.slice none 0 0,.slice none 0 0,.slice none 0 0] 52):=⟨_,rfl⟩
 have HT:Hid (Two w W0 (rwW d ao1 cap1 ao2 cap2 ao3 cap3).toArray #[.int .i64 0,.int .i64 0,.string ⟨#[]⟩,.int .i64 0,.int .i64 0,.int .i64 0,.slice none 0 0,.slice none 0 0,.slice none 0 0] 38 52):=by rw [hW0];exact HT0.out
 rw [← hW0];clear T0 HT0 hW0;have CF:=zhD d g (rwW d ao1 cap1 ao2 cap2 ao3 cap3) hi W0 (zal.rd_below HRD.out HT.out.bel hhi) (Nat.le_trans hhi HT.out.bel.size) HOK.out
 go_wp2_with (refine zax 38 (.tmp 2) rfl rfl (w.heap.size) rfl (HT.out.b1) Tryz.underlying38 zdJ rfl ?_)
 refine CF.mono ?_;rintro e w2 ⟨l,m,v',rfl,hl,hm,hO,b2⟩;have HL:=hid hl;have HM:=hid hm;have HT2:=hid (HT.out.call b2);have z2:W0.heap.size≤w2.heap.size:=b2.size;have z0:w.heap.size+1<W0.heap.size:=HT.out.b2.lt;obtain ⟨nF,hnF⟩:∃ n,n=(zbf d g l m).1:=⟨_,rfl⟩;rw [← hnF] at hO;have HNF:=hid hnF;obtain ⟨aF,capF,rfl⟩:=hO.slice;clear hl hm hO b2 HT CF hnF;have CWt:=zgA d g (rwW d ao1 cap1 ao2 cap2 ao3 cap3) hi w2 (zal.rd_below HRD.out HT2.out.bel hhi) (Nat.le_trans hhi HT2.out.bel.size) HOK.out
 go_wp2_with (refine zax 38 (.tmp 2) rfl rfl (w.heap.size) rfl (HT2.out.b1) Tryz.underlying38 zdJ rfl ?_)
 refine CWt.mono ?_;rintro e w3 ⟨u,l',m',q,cu,rfl,hl',hm',V,hRe,hS,b3⟩;obtain rfl:=HL.out.uniq hl';obtain rfl:=HM.out.uniq hm';have HT3:=hid (HT2.out.call b3);have z3:w2.heap.size≤w3.heap.size:=b3.size;obtain ⟨n1,hn1⟩:∃ n,n=naN (fun i=>recT d.tapes.2 2 (l.getD i 0)) m d.shape g:=⟨_,rfl⟩;have HN1:=hid hn1;rw [← hn1] at V;obtain ⟨yN,hy0⟩:∃ y,y=naX (fun i=>recT d.tapes.2 2 (l.getD i 0)) m d.shape g:=⟨_,rfl⟩;have HY0:=hid hy0;have HRE:=hid hRe;have HS:=hid hS
 have HV:Hid (View zab 52 w3 w2.heap.size hi u n1 (fun i=>yN (q i)) cu):=by
  show View zab 52 w3 w2.heap.size hi u n1 (fun i=>yN (q i)) cu
  rw [hy0];exact V
 obtain ⟨aw,capw,hu⟩:=HV.out.form;subst hu;clear CWt hl' hm' V hRe hS b3 HT2 hn1 hy0
 have hn8:n1≤800000:=by
  have t0:(d.tapes.2 0).recs.1≤400000:=Nat.le_trans (HOK.out.few 0 (by have:=HOK.out.form.2.2;omega)) (by decide);have t1:(d.tapes.2 1).recs.1≤400000:=Nat.le_trans (HOK.out.few 1 (by have:=HOK.out.form.2.2;omega)) (by decide);have h1:=(zeV HM.out (fun _=>0)).2;have h0:=(HL.out.sum (fun _=>0)).2
  have e2:lenT d.tapes.2 2=(d.tapes.2 0).recs.1+(d.tapes.2 1).recs.1:=by simp [lenT]
  have h2:=zfk (wtP (fun i=>recT d.tapes.2 2 (l.getD i 0)) m) m.length;have h3:=zfk (naP (fun i=>recT d.tapes.2 2 (l.getD i 0)) m d.shape g) (wtN (fun i=>recT d.tapes.2 2 (l.getD i 0)) m);rw [HN1.out];unfold naN;unfold wtN at h3 ⊢;omega
 go_wp2
 go_loopw [17] (fun z wr=>∃ k:Nat,k≤n1∧z=.int .i64 k∧(∀ a,a<k→¬ Fits d.shape (yN (q a)).length (nF:Int))∧Below w3.heap.size w3 wr) (fun z _=>n1-(intOf z).toNat)
 case atStart=>exact ⟨0,Nat.zero_le _,rfl,fun t ht=>by omega,Below.refl _ _⟩
 case round=>
  obtain ⟨k,hk,rfl,hno,hbl⟩:=hrel;obtain ⟨wx,rfl⟩:∃ y,y=wr:=⟨_,rfl⟩;have HNO:=hid hno;have HBL:=hid hbl;have zx:=hbl.size;have HTX:=hid (HT3.out.call hbl);clear hno
  by_cases hlt:k<n1
  ·obtain ⟨gb,capb,hv⟩:=HV.out.form0 (by omega)
   have VX:=HV.out.below hbl (by omega);rw [hv] at VX;have rgK:wx.rangeAt gb (k*9) (cu k):=VX.range hlt;have rdK:=VX.each k hlt;obtain ⟨r,hr⟩:∃ r,r=yN (q k):=⟨_,rfl⟩;rw [← hr] at rdK;have HR:=hid hr;have HRK:=hid rdK;obtain ⟨a6,k6,a7,k7,a8,k8,hce,-⟩:=zaF rdK;have HCE:=hid hce;have oneJ:∀ v,v∈cu k→v.oneCell'=true:=zaA _ _ _ _ rdK;have hcJ:(cu k).length=9:=VX.lens k hlt;obtain ⟨cJ,hcJe⟩:∃ c,c=cu k:=⟨_,rfl⟩;have HCJ:=hid hcJe;rw [← hcJe] at rgK oneJ hcJ
   have i1:(0:Int)≤(k:Int):=by omega
   have i2:(k:Int)<(n1:Int):=by omega
   have bV:=bAl wx (.cells cJ.toArray 52);have V1:=zan wx cJ.toArray 52
   have hva:aw=some ⟨gb,0,none⟩:=by cases hv;rfl
   subst hva;clear hbl VX rdK hr hce hcJe hv
   go_upto_region 5 with (first | (refine wpList_load_mid rfl 52 (.tmp 19) rfl gb (k*9) (by simp [Act.eval]) cJ _ rgK Tryz.underlying52 rfl (zae hcJ) ?_) | (refine zaB 52 8 (.tmp 20) cJ _ 9 rfl rfl rfl rfl rfl rfl rfl rfl zbt rfl hcJ oneJ ?_))
   obtain ⟨W5,hW5⟩:∃ y,y=wx.alloc (.cells cJ.toArray 52):=⟨_,rfl⟩;rw [← hW5] at bV V1 ⊢
   have e5:cJ.toArray=(rwR r a6 k6 a7 k7 a8 k8).toArray:=by rw [HCJ.out,HCE.out]
   rw [e5] at V1;clear hW5 rgK oneJ hcJ e5;have z5:=bV.size;have HV1:=hid V1;have HT5:=hid (HTX.out.call bV);have HB5:=hid (HBL.out.trans (bV.mono zx))
   have HRK5:Hid (zab.rd W5 hi r (rwR r a6 k6 a7 k7 a8 k8)):=by
    have:=zab.rd_below HRK.out bV (by omega);rw [HCE.out] at this;exact this
   have CP:=zd7 d.shape r.length W5;unfold zak intR at CP;have v_3:W5.cell? ⟨wx.heap.size,3,none⟩=some (.int .i64 r.length):=V1.cell 3;have x_0:W5.cell? ⟨w.heap.size,0,none⟩=some (.int .i64 (d.shape 0)):=HT5.out.b1.cell 0;have x_1:W5.cell? ⟨w.heap.size,1,none⟩=some (.int .i64 (d.shape 1)):=HT5.out.b1.cell 1;have x_2:W5.cell? ⟨w.heap.size,2,none⟩=some (.int .i64 (d.shape 2)):=HT5.out.b1.cell 2;have x_3:W5.cell? ⟨w.heap.size,3,none⟩=some (.int .i64 (d.shape 3)):=HT5.out.b1.cell 3;have x_4:W5.cell? ⟨w.heap.size,4,none⟩=some (.int .i64 (d.shape 4)):=HT5.out.b1.cell 4;have x_5:W5.cell? ⟨w.heap.size,5,none⟩=some (.int .i64 (d.shape 5)):=HT5.out.b1.cell 5;have x_6:W5.cell? ⟨w.heap.size,6,none⟩=some (.int .i64 (d.shape 6)):=HT5.out.b1.cell 6;have x_7:W5.cell? ⟨w.heap.size,7,none⟩=some (.int .i64 (d.shape 7)):=HT5.out.b1.cell 7;have x_8:W5.cell? ⟨w.heap.size,8,none⟩=some (.int .i64 (d.shape 8)):=HT5.out.b1.cell 8;clear bV V1 HTX HRK
   go_wp2_with fail
   refine CP.mono ?_;rintro e w6 ⟨pv,pc,rfl,hp,b6⟩;have HP:=hid hp;have HV6:=hid (HV1.out.call b6);have HT6:=hid (HT5.out.call b6);have HB6:Hid (Below w3.heap.size w3 w6):=HB5.out.trans (b6.mono (by omega));have z6:=b6.size;have HRK6:Hid (zab.rd w6 hi r (rwR r a6 k6 a7 k7 a8 k8)):=zab.rd_below HRK5.out b6 (by omega);have fN:=zm3 pc pv;clear CP hp b6 v_3 x_0 x_1 x_2 x_3 x_4 x_5 x_6 x_7 x_8 HT5 HV1 HRK5
   by_cases hf:pv≤(nF:Int)
   ·have hfd:(decide (pv≤(nF:Int)))=true:=by simp [hf]
    have H1:Hid (Fits d.shape (yN (q k)).length (nF:Int)):=⟨pv,pc,by rw [← HR.out];exact HP.out,hf⟩;have oneR:∀ v,v∈((rwR r a6 k6 a7 k7 a8 k8):List Value)→v.oneCell'=true:=zaA _ _ _ _ HRK6.out
    go_wp2_with (first | (refine zax 52 (.tmp 8) rfl rfl (wx.heap.size) rfl (HV6.out) Tryz.underlying52 zcy rfl ?_) | (refine za4 52 _ _ rfl rfl (w.heap.size+1) rfl (cs:=(rwR r a6 k6 a7 k7 a8 k8)) rfl (HT6.out.b2) zcy rfl rfl oneR ?_;intro w9 X9 C9 z9))
    have y0:w9.cell? ⟨w.heap.size+1,0,none⟩=some (.int .i64 r.kind):=X9.cell 0;have y1:w9.cell? ⟨w.heap.size+1,1,none⟩=some (.int .i64 r.seq):=X9.cell 1;have y2:w9.cell? ⟨w.heap.size+1,2,none⟩=some (.string r.name):=X9.cell 2;have y3:w9.cell? ⟨w.heap.size+1,3,none⟩=some (.int .i64 r.length):=X9.cell 3;have y4:w9.cell? ⟨w.heap.size+1,4,none⟩=some (.int .i64 r.group):=X9.cell 4;have y5:w9.cell? ⟨w.heap.size+1,5,none⟩=some (.int .i64 r.row):=X9.cell 5;have y6:w9.cell? ⟨w.heap.size+1,6,none⟩=some (.slice a6 r.rows.1 k6):=X9.cell 6;have y7:w9.cell? ⟨w.heap.size+1,7,none⟩=some (.slice a7 r.data.1 k7):=X9.cell 7;have y8:w9.cell? ⟨w.heap.size+1,8,none⟩=some (.slice a8 r.delta.1 k8):=X9.cell 8;have z9':=C9.size;have HB9:Below w.heap.size w w9:=HT6.out.bel.trans (C9.bel (fun b hb=>by simp at hb;omega) HT6.out.bel.size);have HR9:zab.rd w9 hi r (rwR r a6 k6 a7 k7 a8 k8):=zab.rd_below HRK6.out (C9.bel (B:=hi) (fun b hb=>by simp at hb;omega) (by omega)) (Nat.le_refl _);refine bodyPost_ret (v:=.tuple #[.agg (rwR r a6 k6 a7 k7 a8 k8).toArray,.bool true]) (by simp [results,Tryz.results26,go_sem,y0,y1,y2,y3,y4,y5,y6,y7,y8]) rfl ?_;have ef:=zl1 (k:=k) HRE.out HS.out (by rw [← HN1.out];exact hlt) (F:=(nF:Int)) (by rw [← HY0.out];exact H1.out) (fun a ha=>by rw [← HY0.out];exact HNO.out a ha);refine ⟨l,m,HL.out,HM.out,HB9,.inr ⟨_,ef.1,by rw [← HNF.out];exact ef.2,_,?_,rfl⟩⟩
    have e7:(fun i=>recT d.tapes.2 2 (l.getD i 0)) (m.getD (naM (fun i=>recT d.tapes.2 2 (l.getD i 0)) m d.shape g (q k)) 0)=r:=by rw [HR.out,HY0.out];rfl
    exact (congrArg (fun z=>zab.rd w9 hi z (rwR r a6 k6 a7 k7 a8 k8)) e7).mpr HR9
   ·have hfd:(decide (pv≤(nF:Int)))=false:=by simp [hf]
    go_wp2
    go_roundw
    case rel=>exact ⟨k+1,by omega,by go_num,fun t ht=>by
     by_cases c:t=k
     ·rw [c,← HR.out];exact Fits.not HP.out (by omega)
     ·exact HNO.out t (by omega),HB6.out⟩
    case measure=>simp [intOf];omega
  ·obtain rfl:k=n1:=by omega
   clear hbl
   go_wp2_with (refine za4 52 _ _ rfl rfl (w.heap.size+1) rfl (cs:=[.int .i64 0,.int .i64 0,.string ⟨#[]⟩,.int .i64 0,.int .i64 0,.int .i64 0,.slice none 0 0,.slice none 0 0,.slice none 0 0]) rfl (HTX.out.b2) zcy rfl rfl (by simp [Value.oneCell']) ?_;intro w9 X9 C9 z9)
   have y0:w9.cell? ⟨w.heap.size+1,0,none⟩=some (.int .i64 0):=X9.cell 0;have y1:w9.cell? ⟨w.heap.size+1,1,none⟩=some (.int .i64 0):=X9.cell 1;have y2:w9.cell? ⟨w.heap.size+1,2,none⟩=some (.string ⟨#[]⟩):=X9.cell 2;have y3:w9.cell? ⟨w.heap.size+1,3,none⟩=some (.int .i64 0):=X9.cell 3;have y4:w9.cell? ⟨w.heap.size+1,4,none⟩=some (.int .i64 0):=X9.cell 4;have y5:w9.cell? ⟨w.heap.size+1,5,none⟩=some (.int .i64 0):=X9.cell 5;have y6:w9.cell? ⟨w.heap.size+1,6,none⟩=some (.slice none 0 0):=X9.cell 6;have y7:w9.cell? ⟨w.heap.size+1,7,none⟩=some (.slice none 0 0):=X9.cell 7;have y8:w9.cell? ⟨w.heap.size+1,8,none⟩=some (.slice none 0 0):=X9.cell 8;have z9':=C9.size;have HB9:Below w.heap.size w w9:=HTX.out.bel.trans (C9.bel (fun b hb=>by simp at hb;omega) HTX.out.bel.size);refine bodyPost_ret (v:=.tuple #[.agg #[.int .i64 0,.int .i64 0,.string ⟨#[]⟩,.int .i64 0,.int .i64 0,.int .i64 0,.slice none 0 0,.slice none 0 0,.slice none 0 0],.bool false]) (by simp [results,Tryz.results26,go_sem,y0,y1,y2,y3,y4,y5,y6,y7,y8]) rfl ?_;refine ⟨l,m,HL.out,HM.out,HB9,.inl ⟨?_,rfl⟩⟩;rw [← HNF.out];exact zkg (q:=q) HRE.out (fun a ha=>by rw [← HY0.out];exact HNO.out a (by rw [HN1.out];exact ha))
def NxP (d:WorldD) (g:Int) (l m:List Nat) (q:RecsResultD):Prop:=(NdZ d.shape g ((zbf d g l m).1:Int) (fun i=>recT d.tapes.2 2 (l.getD i 0)) m (-1)∧q=⟨4,(0,fun _=>rec0)⟩)∨∃ j:Nat,j<m.length∧NdZ d.shape g ((zbf d g l m).1:Int) (fun i=>recT d.tapes.2 2 (l.getD i 0)) m (j:Int)∧q=⟨0,(1,fun _=>(fun i=>recT d.tapes.2 2 (l.getD i 0)) (m.getD j 0))⟩
theorem NxP.one {d:WorldD} {g:Int} {l m:List Nat} {p q:RecsResultD} (h:NxP d g l m p) (k:NxP d g l m q):p=q:=by
 rcases h with ⟨h1,rfl⟩ | ⟨i,hi,h1,rfl⟩<;>rcases k with ⟨k1,rfl⟩ | ⟨j,hj,k1,rfl⟩
 ·rfl
 ·have:=h1.one k1;omega
 ·have:=h1.one k1;omega
 ·have:=h1.one k1
  obtain rfl:i=j:=by omega
  rfl
def NxAns (d:WorldD) (g:Int) (q:RecsResultD):Prop:=(∃ x,x≠0∧WldAns d x∧q=⟨x,(0,fun _=>rec0)⟩)∨(WldAns d 0∧¬ InP g 0 (d.shape 0-1)∧q=⟨3,(0,fun _=>rec0)⟩)∨(WldAns d 0∧InP g 0 (d.shape 0-1)∧∃ l m,Cnt (recT d.tapes.2 2) (lenT d.tapes.2 2) l∧Live (fun i=>recT d.tapes.2 2 (l.getD i 0)) l.length m∧NxP d g l m q)
theorem NxAns.one {d:WorldD} {g:Int} {p q:RecsResultD} (h:NxAns d g p) (k:NxAns d g q):p=q:=by
 rcases h with ⟨x,h1,h2,rfl⟩ | ⟨h1,hn,rfl⟩ | ⟨h1,hn,l,m,hl,hm,hp⟩<;>rcases k with ⟨y,k1,k2,rfl⟩ | ⟨k1,kn,rfl⟩ | ⟨k1,kn,l',m',kl,km,kp⟩
 ·rw [h2.one k2]
 ·exact absurd (h2.one k1) h1
 ·exact absurd (h2.one k1) h1
 ·exact absurd (k2.one h1) k1
 ·rfl
 ·exact absurd kn hn
 ·exact absurd (k2.one h1) k1
 ·exact absurd hn kn
 ·obtain rfl:=hl.uniq kl
  obtain rfl:=hm.uniq km;exact hp.one kp
theorem mem_lt {x:Nat→RecD} {N:Nat} {m:List Nat} (h:Live x N m) {j:Nat} (hj:j<m.length):m.getD j 0<N:=((h.1 _).1 (zfq (l:=m) (i:=j) hj)).1
set_option maxRecDepth 20000 in
theorem zkh (d:WorldD) (g:Int) (cs:List Value) (hi:Nat) (w:World) (h:zal.rd w hi d cs) (hhi:hi≤w.heap.size) (hsz:zbz d≤1048576) :
 Calls Tryz.prog 7 #[.agg cs.toArray,.int .i64 g] w (zk9 (NxAns d g) w):=by
 have h':=h;obtain ⟨ao1,cap1,ao2,cap2,ao3,cap3,rfl,g1,g2,g3,k0,k4,k5⟩:=zaX h';have HRD:=hid h;have HG3:=hid g3;have HSZ:=hid hsz;clear h h' hsz g1 g2 g3 k0 k4 k5;have T0:=zaN w (rwW d ao1 cap1 ao2 cap2 ao3 cap3).toArray #[.int .i64 0,.slice none 0 0] 38 32
 go_enter Tryz.func7,Tryz.ntmps7
 go_wp2_with (refine zax 38 (.tmp 2) rfl rfl (w.heap.size) rfl (T0.b1) Tryz.underlying38 zdJ rfl ?_)
 refine (zgj d _ hi _ (zal.rd_below HRD.out T0.bel hhi) (Nat.le_trans hhi T0.bel.size) (zeH HSZ.out)).mono ?_;rintro e w1 ⟨x,rfl,hx,b1⟩;have HT1:=hid (T0.call b1);have HX:=hid hx;have z1:w.heap.size+1<w1.heap.size:=HT1.out.b2.lt;clear b1 T0 hx
 by_cases hx0:x=0
 case neg=>
  have hne:(x != 0)=true:=by simp [hx0]
  go_wp2_with (refine za4 32 _ _ rfl rfl (w.heap.size+1) rfl (cs:=[.int .i64 x,.slice none 0 0]) rfl (HT1.out.b2) zbw rfl rfl ((zbu w1 x (zea HX.out) 0 0).one) ?_;intro w9 X9 C9 z9)
  refine zc0 Tryz.results7 rfl X9 Tryz.underlying32 zbw rfl rfl ?_;have zz:=C9.size;exact ⟨⟨x,(0,fun _=>rec0)⟩,[.int .i64 x,.slice none 0 0],rfl,.inl ⟨x,hx0,HX.out,rfl⟩,zbu w9 x (zea HX.out) _ _,HT1.out.bel.trans (C9.bel (fun b hb=>by simp at hb;omega) HT1.out.bel.size)⟩
 subst hx0;have HOK:=hid (WldAns.ok HX.out);have h2:d.tapes.1=2:=HOK.out.form.2.2;have hn0:(d.tapes.2 0).recs.1≤400000:=Nat.le_trans (HOK.out.few 0 (by omega)) (by decide);have hn1:(d.tapes.2 1).recs.1≤400000:=Nat.le_trans (HOK.out.few 1 (by omega)) (by decide);have HH2:=hid h2;clear h2;obtain ⟨b,hb⟩:=exB (InP g 0 (d.shape 0-1));have HBB:=hid hb;have x_0:w1.cell? ⟨w.heap.size,0,none⟩=some (.int .i64 (d.shape 0)):=HT1.out.b1.cell 0;have x_1:w1.cell? ⟨w.heap.size,1,none⟩=some (.int .i64 (d.shape 1)):=HT1.out.b1.cell 1;have x_2:w1.cell? ⟨w.heap.size,2,none⟩=some (.int .i64 (d.shape 2)):=HT1.out.b1.cell 2;have x_3:w1.cell? ⟨w.heap.size,3,none⟩=some (.int .i64 (d.shape 3)):=HT1.out.b1.cell 3;have x_4:w1.cell? ⟨w.heap.size,4,none⟩=some (.int .i64 (d.shape 4)):=HT1.out.b1.cell 4;have x_5:w1.cell? ⟨w.heap.size,5,none⟩=some (.int .i64 (d.shape 5)):=HT1.out.b1.cell 5;have x_6:w1.cell? ⟨w.heap.size,6,none⟩=some (.int .i64 (d.shape 6)):=HT1.out.b1.cell 6;have x_7:w1.cell? ⟨w.heap.size,7,none⟩=some (.int .i64 (d.shape 7)):=HT1.out.b1.cell 7;have x_8:w1.cell? ⟨w.heap.size,8,none⟩=some (.int .i64 (d.shape 8)):=HT1.out.b1.cell 8;have CB:=zd8 HOK.out.shape hb w1;unfold zak at CB;clear hb
 go_wp2_with fail
 refine CB.mono ?_;rintro e wq ⟨rfl,bq⟩;have HTq:=hid (HT1.out.call bq);have zq:w1.heap.size≤wq.heap.size:=bq.size;clear CB bq HT1 x_0 x_1 x_2 x_3 x_4 x_5 x_6 x_7 x_8
 cases b with
 | false=>
  have HNT:Hid (¬ InP g 0 (d.shape 0-1)):=fun h=>absurd (HBB.out.2 h) (by simp)
  go_wp2_with (refine za4 32 _ _ rfl rfl (w.heap.size+1) rfl (cs:=[.int .i64 3,.slice none 0 0]) rfl (HTq.out.b2) zbw rfl rfl ((zbu wq 3 (by decide) 0 0).one) ?_;intro w9 X9 C9 z9)
  refine zc0 Tryz.results7 rfl X9 Tryz.underlying32 zbw rfl rfl ?_;have zz:=C9.size;exact ⟨⟨3,(0,fun _=>rec0)⟩,[.int .i64 3,.slice none 0 0],rfl,.inr (.inl ⟨HX.out,HNT.out,rfl⟩),zbu w9 3 (by decide) _ _,HTq.out.bel.trans (C9.bel (fun b hb=>by simp at hb;omega) HTq.out.bel.size)⟩
 | true=>
 have hIn:InP g 0 (d.shape 0-1):=HBB.out.1 (by simp);have HIN:=hid hIn;have CN:=zfr d g (rwW d ao1 cap1 ao2 cap2 ao3 cap3) hi wq (zal.rd_below HRD.out HTq.out.bel hhi) (Nat.le_trans hhi HTq.out.bel.size) HOK.out
 go_wp2_with (refine zax 38 (.tmp 2) rfl rfl (w.heap.size) rfl (HTq.out.b1) Tryz.underlying38 zdJ rfl ?_)
 refine CN.mono ?_;rintro e w3 ⟨l,m,hCt,hLM,bb3,hcase⟩;have HL:=hid hCt;have HLM:=hid hLM;have HT5:=hid (HTq.out.call bb3);have z5:wq.heap.size≤w3.heap.size:=bb3.size;clear bb3 CN HTq hCt hLM
 rcases hcase with ⟨hz,rfl⟩ | ⟨j,hj,hz,c,hrc,rfl⟩
 ·have HZ:=hid hz
  have bA:Below w3.heap.size w3 (w3.alloc (.cells #[.int .i64 0,.int .i64 0,.string ⟨#[]⟩,.int .i64 0,.int .i64 0,.int .i64 0,.slice none 0 0,.slice none 0 0,.slice none 0 0] 52)):=(Below.refl _ _).alloc (Nat.le_refl _) _;have HTZ:=hid (HT5.out.call bA);have zl:([.int .i64 0,.int .i64 0,.string ⟨#[]⟩,.int .i64 0,.int .i64 0,.int .i64 0,.slice none 0 0,.slice none 0 0,.slice none 0 0]:List Value).length=9:=rfl
  have zo:∀ v,v∈([.int .i64 0,.int .i64 0,.string ⟨#[]⟩,.int .i64 0,.int .i64 0,.int .i64 0,.slice none 0 0,.slice none 0 0,.slice none 0 0]:List Value)→v.oneCell'=true:=by decide
  clear hz
  go_upto_region 7 with (refine zaB 52 6 (.tmp 24) [.int .i64 0,.int .i64 0,.string ⟨#[]⟩,.int .i64 0,.int .i64 0,.int .i64 0,.slice none 0 0,.slice none 0 0,.slice none 0 0] _ 9 rfl rfl rfl rfl rfl rfl (by simp [Act.eval,Act.put]) (by simp [Act.eval,Act.put]) zbt rfl (by assumption) (by assumption) ?_)
  obtain ⟨w6,hw6⟩:∃ y,y=w3.alloc (.cells #[.int .i64 0,.int .i64 0,.string ⟨#[]⟩,.int .i64 0,.int .i64 0,.int .i64 0,.slice none 0 0,.slice none 0 0,.slice none 0 0] 52):=⟨_,rfl⟩;rw [← hw6] at HTZ bA ⊢;clear hw6
  go_wp2_with (refine za4 32 _ _ rfl rfl (w.heap.size+1) rfl (cs:=[.int .i64 4,.slice none 0 0]) rfl (HTZ.out.b2) zbw rfl rfl ((zbu w1 4 (by decide) 0 0).one) ?_;intro w9 X9 C9 z9)
  refine zc0 Tryz.results7 rfl X9 Tryz.underlying32 zbw rfl rfl ?_;exact ⟨⟨4,(0,fun _=>rec0)⟩,[.int .i64 4,.slice none 0 0],rfl,.inr (.inr ⟨HX.out,HIN.out,l,m,HL.out,HLM.out,.inl ⟨HZ.out,rfl⟩⟩),zbu w9 4 (by decide) _ _,HTZ.out.bel.trans (C9.bel (fun b hb=>by simp at hb;omega) HTZ.out.bel.size)⟩
 ·have HZ:=hid hz
  have HJ:=hid hj;have hsz1:=zgv HH2.out HSZ.out HL.out (mem_lt HLM.out hj);obtain ⟨r,hr⟩:∃ r,r=recT d.tapes.2 2 (l.getD (m.getD j 0) 0):=⟨_,rfl⟩;have HRR:=hid hr;rw [← hr] at hsz1
  have rd5:zab.rd w3 hi r c:=by rw [hr];exact hrc
  have zl:c.length=9:=zab.rd_len rd5;have zo:=zdG rd5;have bA:=bAl w3 (.cells c.toArray 52);have HTZ:=hid (HT5.out.call bA);have X6:=zan w3 c.toArray 52;have zw3:w.heap.size≤w3.heap.size:=HT5.out.bel.size;have rd6:=zab.rd_below rd5 bA (by omega);have z6:w3.heap.size<(w3.alloc (.cells c.toArray 52)).heap.size:=X6.lt;clear hz hj hr hrc
  go_upto_region 7 with (refine zaB 52 6 (.tmp 24) c _ 9 rfl rfl rfl rfl rfl rfl (by simp [Act.eval,Act.put]) (by simp [Act.eval,Act.put]) zbt rfl (by assumption) (by assumption) ?_)
  obtain ⟨w6,hw6⟩:∃ y,y=w3.alloc (.cells c.toArray 52):=⟨_,rfl⟩;rw [← hw6] at HTZ X6 rd6 z6 ⊢;clear hw6;have bS:=bAl w6 (.cells c.toArray 52);have XS:=zan w6 c.toArray 52;have zS:w6.heap.size<(w6.alloc (.cells c.toArray 52)).heap.size:=XS.lt;have HT7:=hid (HTZ.out.call bS);have sl:=zlg XS (zab.rd_below rd6 bS (by omega)) zS (by omega);have CT:=zhy _ (1,fun _=>r) _ _ sl (Nat.le_refl _) hsz1.1
  go_wp2_with (first | (refine zax 52 (.tmp 6) rfl rfl (w3.heap.size) rfl X6 Tryz.underlying52 zcy zl ?_) | (refine zet rfl (.tmp 29) rfl rd6 (by simp [Act.eval,Act.put]) ?_))
  obtain ⟨w7,hw7⟩:∃ y,y=w6.alloc (.cells c.toArray 52):=⟨_,rfl⟩;rw [← hw7] at HT7 CT zS ⊢;clear hw7 bS XS sl;refine CT.mono ?_;rintro e w8 ⟨cs3,rfl,O3,bb3⟩;have HT3:=hid (HT7.out.call bb3);obtain ⟨a3,c3,rfl⟩:=zeN O3;have HO3:=hid O3;clear O3 bb3 CT HT5 HT7 HTZ
  go_wp2_with (refine za4 32 _ _ rfl rfl (w.heap.size+1) rfl (cs:=[.int .i64 0,.slice a3 1 c3]) rfl (HT3.out.b2) zbw rfl rfl (HO3.out.one) ?_;intro w9 X9 C9 z9)
  refine zc0 Tryz.results7 rfl X9 Tryz.underlying32 zbw rfl rfl ?_;have zz:=C9.size;have O9:=(HO3.out.chgk C9 (fun b hb=>by simp at hb;omega)).weaken (lo':=w.heap.size) (hi':=w9.heap.size) (by omega) zz;exact ⟨_,_,rfl,.inr (.inr ⟨HX.out,HIN.out,l,m,HL.out,HLM.out,.inr ⟨j,HJ.out,HZ.out,(show (⟨0,(1,fun _=>r)⟩:RecsResultD)=⟨0,(1,fun _=>recT d.tapes.2 2 (l.getD (m.getD j 0) 0))⟩ by rw [← HRR.out])⟩⟩),O9,HT3.out.bel.trans (C9.bel (fun b hb=>by simp at hb;omega) HT3.out.bel.size)⟩
theorem nd_ex (s:Nat→Int) (g F:Int) (x:Nat→RecD) (m:List Nat):∃ z,NdZ s g F x m z∧(z=-1∨∃ j:Nat,j<m.length∧z=(j:Int)):=by
 classical
 have key:∀ n,∃ z,NdU (NdC s g F x m) (fun j=>(x (m.getD j 0)).seq) n z:=by
  intro n
  induction n with
  | zero=>exact ⟨_,NdU.nil _ _⟩
  | succ n ih=>
   obtain ⟨z,hz⟩:=ih
   by_cases hc:NdC s g F x m n
   ·rcases hz with ⟨rfl,h⟩ | ⟨k,hk,rfl,ck,h⟩
    ·exact ⟨_,NdU.first (.inl ⟨rfl,h⟩) hc⟩
    ·by_cases hl:(x (m.getD n 0)).seq<(x (m.getD k 0)).seq
     ·exact ⟨_,NdU.less (.inr ⟨k,hk,rfl,ck,h⟩) hc hl⟩
     ·exact ⟨_,NdU.more (.inr ⟨k,hk,rfl,ck,h⟩) hl⟩
   ·exact ⟨_,NdU.skip hz hc⟩
 obtain ⟨z,hz⟩:=key m.length;have hB:=hz.all (fun j cj=>cj.1.1.1);refine ⟨z,hB,?_⟩
 rcases hz with ⟨rfl,_⟩ | ⟨k,hk,rfl,_,_⟩
 ·exact .inl rfl
 ·exact .inr ⟨k,hk,rfl⟩
end Go.Proofs.YtmehgpcmoejfcaaGreat
