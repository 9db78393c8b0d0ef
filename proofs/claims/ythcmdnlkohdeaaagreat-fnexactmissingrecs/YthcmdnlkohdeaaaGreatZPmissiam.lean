/- The specification's counted records: each laid into its place, if it is not there. -/
import Derived.Test.YthcmdnlkohdeaaaGreatZPmissial
set_option linter.unusedVariables false
set_option linter.unusedSimpArgs false
set_option maxHeartbeats 16000000
namespace Go.Proofs.YthcmdnlkohdeaaaGreat
open Go.RowKit F256
theorem zjY (tp:Nat→TapeD) {T i:Nat} (hT:T<2) (hi:i<(tp T).recs.1):recT tp 2 (lenT tp T+i)=(tp T).recs.2 i:=by
 have:T=0∨T=1:=by omega
 rcases this with rfl | rfl
 ·have h1:recT tp 2 (lenT tp 0+i)=recT tp 1 (lenT tp 0+i):=zbp _ _ (by show lenT tp 0+i<lenT tp 0+(tp 0).recs.1;omega)
  rw [h1];exact zbH _ _ _ _
 ·exact zbH _ _ _ _
theorem zjw {k:Nat} (h:k+1<1000000000):IntKind.i64.wrap (((k+1:Nat):Int)-1)=(k:Int):=by rw [IntKind.wrap_i64];omega
set_option maxRecDepth 100000 in
theorem zfs (d:WorldD) (cs:List Value) (hi B:Nat) (w:World) (h:zam.rd w hi d cs) (hhi:hi≤w.heap.size) (hBX:Box w B cs.toArray 38) (h2:d.tapes.1=2) (hn0:(d.tapes.2 0).recs.1≤400000) (hn1:(d.tapes.2 1).recs.1≤400000) :
 Calls Tryz.prog 25 #[.pointer (some ⟨B,0,none⟩)] w (fun e w'=>∃ v' l ce lo,e=.returned v'∧Cnt (recT d.tapes.2 2) (lenT d.tapes.2 2) l∧w.heap.size≤lo∧View zab 92 w' lo hi v' l.length (fun i=>recT d.tapes.2 2 (l.getD i 0)) ce∧Below w.heap.size w w'):=by
 obtain ⟨ao1,cap1,ao2,cap2,ao3,cap3,rfl,g1,g2,g3,k0,k4,k5⟩:=za3 h;obtain ⟨ao3',cap3',e,hmm,hc⟩:=g3
 simp only [List.cons.injEq,Value.slice.injEq,true_and,and_true] at e
 obtain ⟨rfl,rfl⟩:=e;obtain ⟨tb,toff,rfl,hbh,hel⟩:=hc (by rw [h2];simp);rw [h2] at hel;have HEL:=hid hel;have hBlt:=hBX.lt
 have HBX:Hid (w.cell? ⟨B,11,none⟩=some (.slice (some ⟨tb,toff,none⟩) 2 cap3)):=by have:=hBX.cell 11;rw [h2] at this;exact this
 obtain ⟨tp,htp⟩:∃ t,t=d.tapes.2:=⟨_,rfl⟩;rw [← htp] at HEL hn0 hn1 ⊢;clear h hc hmm g1 g2 k0 k4 k5 hel h2 hBX htp;obtain ⟨x0,hx0⟩:∃ x,x=recT tp 2:=⟨_,rfl⟩;have HX0:=hid hx0;rw [← hx0];clear hx0;have bL:=bAl w (.cells #[] 92);have V0:=View.lit0 (E:=zab) (t:=92) (fun i=>x0 (([]:List Nat).getD i 0)) (fun _=>[]) w hi;have HL:Hid (lenT tp 0=0∧lenT tp 1=(tp 0).recs.1∧lenT tp 2=(tp 0).recs.1+(tp 1).recs.1):=⟨rfl,by simp [lenT],by simp [lenT]⟩
 go_enter Tryz.func25,Tryz.ntmps25
 go_wp2
 go_loopw [3,4] (fun vo vt wr=>∃ (T lo:Nat) (l:List Nat) (co:Nat→List Value),T≤2∧vt=.int .i64 T∧w.heap.size≤lo∧lo≤wr.heap.size∧Cnt x0 (lenT tp T) l∧l.length≤lenT tp T∧View zab 92 wr lo hi vo l.length (fun i=>x0 (l.getD i 0)) co∧Below w.heap.size w wr) (fun _ i _=>2-(intOf i).toNat)
 case atStart=>exact ⟨0,w.heap.size,[],fun _=>[],by omega,rfl,Nat.le_refl _,bL.size,Cnt.nil x0,Nat.zero_le _,V0,bL⟩
 case round=>
  obtain ⟨T,lo,l,co,hT,rfl,hlo,hlow,hCt,hLl,V,bw⟩:=hrel;have HCt:=hid hCt;have HV:=hid V;have HBW:=hid bw;clear bL V0 hCt
  by_cases hlt:T<2
  ·obtain ⟨m,hm⟩:∃ m,m=(tp T).recs.1:=⟨_,rfl⟩
   have HM:=hid hm
   have hmb:m≤400000∧lenT tp T≤400000:=by
    have:T=0∨T=1:=by omega
    have h3:=HL.out
    rcases this with rfl | rfl<;>omega
   have HLS:Hid (lenT tp (T+1)=lenT tp T+m):=by rw [hm];exact rfl
   have HW0:Hid (∀ w',Below w.heap.size w w'→∃ rb cap1,w'.cell? ⟨tb,toff+T*2+1,none⟩=some (.slice rb m cap1)∧(zab.slice 92).rd w' hi (m,(tp T).recs.2) [.slice rb m cap1]):=fun w' hb=>by
    obtain ⟨ct,hy,hcell⟩:=zaz (t:=88) HEL.out hb hhi hbh hlt;obtain ⟨aoT,capT,rfl,hrs⟩:=zbc hy;exact ⟨aoT,capT,by have:=hcell 1 (by decide);rw [hm];exact this,by rw [hm];exact hrs⟩
   obtain ⟨L0,hL0⟩:∃ n,n=lenT tp T:=⟨_,rfl⟩;have HL0:=hid hL0;rw [← hL0] at HCt hLl HLS hmb
   have t1:(T:Int)<2:=by omega
   have t0:(0:Int)≤(T:Int):=by omega
   clear hm bw V hL0 HEL;go_wp2
   go_loopw [3,5] (fun vo vi wr=>∃ (i lo:Nat) (l:List Nat) (co:Nat→List Value),i≤m∧vi=.int .i64 i∧w.heap.size≤lo∧lo≤wr.heap.size∧Cnt x0 (L0+i) l∧l.length≤L0+i∧View zab 92 wr lo hi vo l.length (fun i=>x0 (l.getD i 0)) co∧Below w.heap.size w wr) (fun _ i _=>m-(intOf i).toNat)
   case atStart=>exact ⟨0,lo,l,co,Nat.zero_le _,rfl,hlo,hlow,HCt.out,hLl,HV.out,HBW.out⟩
   case round=>
    clear HCt HV HBW hLl hlow hlo co lo l;obtain ⟨i,lo,l,co,hi',rfl,hlo,hlow,hCt,hLl,V,bw⟩:=hrel;obtain ⟨wi,rfl⟩:∃ y,y=wr:=⟨_,rfl⟩;obtain ⟨n,hn⟩:∃ n,n=l.length:=⟨_,rfl⟩;have HN:=hid hn;rw [← hn] at V hLl;have HCt:=hid hCt;obtain ⟨ao,cap,hvo⟩:=V.form;subst hvo;have HV:=hid V;have HBW:=hid bw;have zr:w.heap.size≤wi.heap.size:=bw.size;have xB:wi.cell? ⟨B,11,none⟩=some (.slice (some ⟨tb,toff,none⟩) 2 cap3):=(bw.cell (p:=⟨B,11,none⟩) hBlt).trans HBX.out;obtain ⟨rb,capT,xT,hrs⟩:=HW0.out wi bw;clear hCt hn V bw
    by_cases hlt2:i<m
    ·obtain ⟨cy,hS,-⟩:=zjE hrs
     obtain ⟨b,off,hrb,hcell⟩:=hS.1 (by omega);subst hrb;have rdR:=hS.2 i hlt2;have hcR:(cy i).length=9:=zab.rd_len rdR
     have rgR:wi.rangeAt b (off+i*9) (cy i):=fun j v hv=>by
      have hj:j<9:=by rw [← hcR];exact (List.getElem?_eq_some_iff.1 hv).1
      have:=hcell i hlt2 j hj;rw [show off+(i*zab.sz+j)=off+i*9+j from (Nat.add_assoc _ _ _).symm] at this;exact this.trans hv
     obtain ⟨cR,hcRe⟩:∃ c,c=cy i:=⟨_,rfl⟩;rw [← hcRe] at rgR hcR rdR
     have hxr:(tp T).recs.2 i=x0 (L0+i):=by rw [HX0.out,HL0.out];exact (zjY tp hlt (by rw [← HM.out];exact hlt2)).symm
     rw [hxr] at rdR;obtain ⟨M,hM⟩:∃ M,M=L0+i:=⟨_,rfl⟩;have HMM:=hid hM;rw [← hM] at rdR HCt;have oneR:∀ v,v∈cR→v.oneCell'=true:=zaL _ _ _ _ rdR
     have i1:(0:Int)≤(i:Int):=by omega
     have i2:(i:Int)<(m:Int):=by omega
     have bA:=bAl wi (.cells cR.toArray 92);have XA:=zav wi cR.toArray 92;have rdW:zab.rd (wi.alloc (.cells cR.toArray 92)) hi (x0 M) cR:=zab.rd_below rdR bA (by omega);clear hrs hS hcell hcRe hxr rdR hM
     go_upto_region 9 with (first | (refine wpList_load_mid rfl 92 (.tmp 35) rfl b (off+i*9) (by simp [Act.eval]) cR _ rgR Tryz.underlying92 rfl (zah hcR) ?_) | (refine zbd 92 6 (.tmp 36) cR _ 9 rfl rfl rfl rfl rfl rfl rfl rfl zev rfl hcR oneR ?_))
     obtain ⟨W,hW⟩:∃ x,x=wi.alloc (.cells cR.toArray 92):=⟨_,rfl⟩;rw [← hW] at bA XA rdW ⊢;clear hW rgR xB xT;have VW:=HV.out.below bA (by omega);have zW':wi.heap.size<W.heap.size:=XA.lt;have CH:=zeB (.slice ao n cap) n (fun i=>x0 (l.getD i 0)) (x0 M) cR W.heap.size W (VW.rd (by omega)) (zab.rd_mono rdW (by omega)) (Nat.le_refl _) (by omega);have HXW:=hid XA;have HVW:=hid VW;have HRW:=hid rdW;have HBW2:=hid (HBW.out.trans (bA.mono zr));clear VW XA rdW bA HV HBW
     go_wp2_with (refine zaB 92 (.tmp 6) rfl rfl (wi.heap.size) rfl HXW.out Tryz.underlying92 zdu hcR ?_)
     refine CH.mono ?_;rintro ee w5 ⟨t,rfl,ht,b5⟩;have z5:W.heap.size≤w5.heap.size:=b5.size;have HV5:Hid (View zab 92 w5 lo hi (.slice ao n cap) n (fun i=>x0 (l.getD i 0)) co):=HVW.out.below b5 (by omega);have HX5:=hid (HXW.out.below b5 zW');have HR5:Hid (zab.rd w5 hi (x0 M) cR):=zab.rd_below HRW.out b5 (by omega);have HB5:Hid (Below w.heap.size w w5):=HBW2.out.trans (b5.mono (by omega))
     have HT:Hid (t=true↔¬ Fst x0 M):=by
      show t=true↔¬ Fst x0 M
      rw [ht,← HCt.out.has,HN.out];have:=(zb6 (l:=l) (al:=0) (P:=fun o=>SameR (x0 o) (x0 M))).symm
      simpa using this
     clear ht b5 CH HVW HXW HRW HBW2
     cases t with
     | true=>
      go_wp2
      go_roundw
      case rel=>exact ⟨i+1,lo,l,co,by omega,by go_num,hlo,by omega,by rw [← Nat.add_assoc,← HMM.out];exact HCt.out.skip (HT.out.1 (by simp)),by rw [← HN.out];omega,by rw [← HN.out];exact HV5.out,HB5.out⟩
      case measure=>simp [intOf];omega
     | false=>
      have HF:Hid (Fst x0 M):=Classical.byContradiction fun h=>absurd (HT.out.2 h) (by simp);clear HT;go_wp2
      go_loopw [7] (fun va wx=>∃ at_:Nat,at_≤n∧va=.int .i64 at_∧(∀ k,at_≤k→k<n→numC (x0 M) (x0 (l.getD k 0))<0)∧Below w5.heap.size w5 wx) (fun va _=>(intOf va).toNat)
      case atStart=>exact ⟨n,Nat.le_refl _,by go_num,fun k h1 h2=>by omega,Below.refl _ _⟩
      case round=>
       obtain ⟨at_,hat,rfl,hbeh,bx⟩:=hrel;obtain ⟨wx,rfl⟩:∃ y,y=wr:=⟨_,rfl⟩;have HBE:=hid hbeh;have zx:w5.heap.size≤wx.heap.size:=bx.size;have HVx:Hid (View zab 92 wx lo hi (.slice ao n cap) n (fun i=>x0 (l.getD i 0)) co):=HV5.out.below bx (by omega);have HXx:Hid (Box wx wi.heap.size cR.toArray 92):=HX5.out.below bx (by omega);have HRx:Hid (zab.rd wx hi (x0 M) cR):=zab.rd_below HR5.out bx (by omega);have HBx:Hid (Below w.heap.size w wx):=HB5.out.trans (bx.mono (by omega));have HB5x:=hid bx;have bD:Below wx.heap.size wx wx.drew:=⟨rfl,rfl,rfl,Nat.le_refl _,fun _ _=>rfl⟩;clear hbeh bx
       by_cases hat0:at_=0
       ·have d1:decide (0<at_)=false:=decide_eq_false (by omega)
        have d2:decide ((0:Int)<(at_:Int))=false:=decide_eq_false (by omega);have HS:Hid (at_=0∨¬ numC (x0 M) (x0 (l.getD (at_-1) 0))<0):=.inl hat0;clear hat0
        go_upto_region 11 with fail
        refine zax 9 (fun w'=>True) zbx trivial (fun hHeld=>?_);refine zkf 0 rfl ?_
        try simp only [Act.put,SL]
        refine zkf 1 rfl ?_
        try simp only [Act.put,SL]
        try rw [d1]
        refine zkf 2 rfl ?_
        try simp only [Act.put,SL]
        refine zkh 3 rfl ?_
        try simp only [Act.put,SL]
        refine zkh 4 rfl ?_
        try simp only [Act.put,SL]
        refine zkh 5 rfl ?_
        try simp only [Act.put,SL]
        refine zkh 6 rfl ?_
        try simp only [Act.put,SL]
        refine zkh 7 rfl ?_
        try simp only [Act.put,SL]
        refine zkh 8 rfl ?_
        try simp only [Act.put,SL]
        refine zat (i:=9) (o:=_) rfl (by kernel_rfl) (by kernel_rfl) (fun KC hKC=>?_);refine zjS (by kernel_rfl) (hKC _ _ ?_);clear hKC KC
        try simp only [Act.put,SL]
        refine zj1 10 (v:=?_) rfl ?_ ?_
        rotate_left
        ·intro w' hSw;go_simp;try with_reducible rfl
        try simp only [Act.put,SL]
        refine zas (by kernel_rfl) ?_ _;obtain ⟨w9,hw9⟩:∃ x,x=wx.drew:=⟨_,rfl⟩;rw [← hw9] at bD ⊢;have b9:Below wx.heap.size wx w9:=bD;clear bD hw9 hHeld d1 d2;have z9:wx.heap.size≤w9.heap.size:=b9.size;have V9:=(HVx.out.below b9 (by omega)).drew;have b9':Below wx.heap.size wx w9.drew:=b9.trans (show Below wx.heap.size w9 w9.drew from ⟨rfl,rfl,rfl,Nat.le_refl _,fun _ _=>rfl⟩);have X9:Box w9.drew wi.heap.size cR.toArray 92:=HXx.out.below b9' (by omega);have R9:zab.rd w9.drew hi (x0 M) cR:=zab.rd_below HRx.out b9' (by omega);have B9:Below w.heap.size w w9.drew:=HBx.out.trans (b9'.mono (by omega))
        have rg9:w9.drew.rangeAt wi.heap.size 0 cR:=fun j v hv=>by
         have:=(X9.cell j).trans (by simpa using hv);rw [Nat.zero_add];exact this
        obtain ⟨D,hD⟩:∃ D,D=w9.drew:=⟨_,rfl⟩;have HD:=hid hD;rw [← hD] at V9 X9 R9 B9 rg9
        have zD:w9.heap.size=D.heap.size:=by rw [hD];rfl
        clear hD b9 b9';obtain ⟨aU,cU,hUr,sU,hUz⟩:=V9.upto_ (show hi≤D.heap.size by omega) (al:=at_) hat;obtain ⟨aF,cF,hFr,sF,rF,hFz⟩:=V9.from_ (show hi≤D.heap.size by omega) (al:=at_) hat
        have hAU:∀ b off,aU=some ⟨b,off,none⟩→b<D.heap.size:=fun b off e=>by
         rcases V9.form2 with ⟨e3,e4⟩ | ⟨g,cp,e3,e4,hg⟩
         ·have hz:at_=0:=by omega
          have:=hUr D;rw [e3,hz,zeu D] at this
          simp only [Result.ok.injEq,Value.slice.injEq,and_true] at this
          rw [← this.1] at e
          cases e
         ·have:=hUr D
          rw [e3,zes g n cp at_ hat e4 D] at this
          simp only [Result.ok.injEq,Value.slice.injEq,and_true] at this
          rw [← this.1] at e
          cases e
          exact hg
        have hAF:∀ b off,aF=some ⟨b,off,none⟩→b<D.heap.size:=fun b off e=>by
         rcases V9.form2 with ⟨e3,e4⟩ | ⟨g,cp,e3,e4,hg⟩
         ·have hz:at_=0:=by omega
          have:=hFr D;rw [e3,hz,zet D] at this
          simp only [Result.ok.injEq,Value.slice.injEq,and_true] at this
          rw [← this.1] at e
          cases e
         ·have:=hFr D
          rw [e3,zer g n cp at_ hat D] at this
          simp only [Result.ok.injEq,Value.slice.injEq,and_true] at this
          rw [← this.1] at e
          split at e<;>cases e<;>exact hg
        have hiD:hi≤D.heap.size:=by omega
        have hpD:wi.heap.size<D.heap.size:=X9.lt
        have hatL:at_≤l.length:=by rw [← HN.out];exact hat
        have HCN:Hid (Cnt x0 (M+1) (l.take at_++M::l.drop at_)):=HCt.out.ins HF.out at_ hatL (fun k h1 h2=>HBE.out k h1 (by rw [HN.out];exact h2)) HS.out;have HRd:=hid R9;have HBD:=hid B9;have HUS:=hid sU;have HFS:=hid sF;clear V9 X9 R9 B9 sU sF rF
        go_upto_region 13 with fail
        refine zax 7 (fun w'=>w'.rangeAt wi.heap.size 0 cR) zbx (by rw [← HD.out];exact rg9) (fun hHeld=>?_);rw [← HD.out] at hHeld ⊢;refine zkf 1 rfl ?_
        try simp only [Act.put,SL]
        refine zkf 2 rfl ?_
        try simp only [Act.put,SL]
        refine zkd 3 (v:=?_) rfl ?_ ?_
        rotate_left
        ·intro w' hSw
         try rw [show (Instr.slice 30 (.slice ao n cap) none (some (.int .i64 (at_:Int))) none).run Tryz.prog w'=_ from hUr w']
         have hSl':=hUr w';go_simp
         try with_reducible rfl
        try simp only [Act.put,SL]
        refine zae (i:=5) (oi:=_) 16 rfl (by kernel_rfl) (fun _ _ _ h=>h) (yieldsIf_load_mid (by kernel_rfl) 92 (.tmp 6) rfl wi.heap.size (0) (by simp [Act.eval,Act.put]) cR _ (fun w h=>h) Tryz.underlying92 rfl (zah hcR)) (by assumption) ?_
        try simp only [Act.put,SL]
        refine zkf 8 rfl ?_
        try simp only [Act.put,SL]
        refine zkf 9 rfl ?_
        try simp only [Act.put,SL]
        refine zkd 10 (v:=?_) rfl ?_ ?_
        rotate_left
        ·intro w' hSw
         try rw [show (Instr.slice 30 (.slice ao n cap) (some (.int .i64 (at_:Int))) none none).run Tryz.prog w'=_ from hFr w']
         have hSl':=hFr w';go_simp
         try with_reducible rfl
        try simp only [Act.put,SL]
        refine zcz (i:=0) (j:=6) (o:=_) (o':=_) rfl rfl (by kernel_rfl) (fun KC hKC=>?_) (fun KC hKC=>?_)
        ·refine zcA rfl rfl ?_
         have bA:=bAl D (.cells #[] 92);refine hKC _ _ (zaF rg9 bA hpD) ?_;clear hKC KC
         try simp only [Act.put,SL]
         have VL:=View.lit0 (E:=zab) (t:=92) (fun i=>x0 (l.getD i 0)) co D hi;have zA1:D.heap.size<(D.alloc (.cells #[] 92)).heap.size:=(zav D #[] 92).lt;obtain ⟨D1,hD1⟩:∃ x,x=D.alloc (.cells #[] 92):=⟨_,rfl⟩;rw [← hD1] at bA VL zA1 ⊢;clear hD1;refine zcz (i:=4) (j:=6) (o:=_) (o':=_) rfl rfl (by kernel_rfl) (fun KC hKC=>?_) (fun KC hKC=>?_)
         ·skip
          obtain ⟨v4,w4,cv4,runv4,V4,bw4⟩:=zjH (lo:=lo) HUS.out hUz hAU bA hiD (by omega) VL;refine zaQ rfl (.tmp 55) (.tmp 58) rfl (by simp [Act.eval,Act.put]) (by simp [Act.eval,Act.put]) runv4 ?_;have b4D:=bA.trans bw4;refine hKC _ _ (zaF rg9 b4D hpD) ?_;clear hKC KC
          try simp only [Act.put,SL]
          refine zbr (i:=6) (o:=_) rfl (by kernel_rfl) (fun KC hKC=>?_);refine zbs rfl (.tmp 60) rfl HRd.out (by simp [Act.eval,Act.put]) ?_;have b6:=bAl w4 (.cells cR.toArray 92);have b6D:=b4D.trans (b6.mono b4D.size);refine hKC _ _ (zaF rg9 b6D hpD) ?_;clear hKC KC
          try simp only [Act.put,SL]
          have V6:=V4.below b6 (by have:=b4D.size;omega);have X6:=zav w4 cR.toArray 92;obtain ⟨v7,w7,cv7,runv7,V7,bw7⟩:=zdI b6D hiD (by omega) V6 X6 (zab.rd_below HRd.out b6D hiD);refine zat (i:=7) (o:=_) rfl (by kernel_rfl) (by kernel_rfl) (fun KC hKC=>?_);refine zaQ rfl (.tmp 59) (.tmp 61) rfl (by simp [Act.eval,Act.put]) (by simp [Act.eval,Act.put]) runv7 ?_;refine hKC _ _ ?_;clear hKC KC
          try simp only [Act.put,SL]
          have b7D:=b6D.trans bw7;obtain ⟨v8,w8,cv8,runv8,V8,bw8⟩:=zc4 HFS.out hFz hAF b7D hiD (by omega) V7;refine zat (i:=11) (o:=_) rfl (by kernel_rfl) (by kernel_rfl) (fun KC hKC=>?_);refine zaQ rfl (.tmp 62) (.tmp 65) rfl (by simp [Act.eval,Act.put]) (by simp [Act.eval,Act.put]) runv8 ?_;refine hKC _ _ ?_;clear hKC KC
          try simp only [Act.put,SL]
          refine zj1 12 (v:=?_) rfl ?_ ?_
          rotate_left
          ·intro w' hSw;go_simp;try with_reducible rfl
          try simp only [Act.put,SL]
          refine zas (by kernel_rfl) ?_ _
          have HV8:Hid (View zab 92 w8 D.heap.size hi v8 (l.take at_++M::l.drop at_).length (fun i=>x0 ((l.take at_++M::l.drop at_).getD i 0)) cv8):=by
           show View _ _ _ _ _ _ _ _ _
           rw [zb1 l M at_ hatL,← HN.out];exact V8.congr (fun i _=>zc5 x0 l M at_ hatL i)
          have HB8:Hid (Below w.heap.size w w8):=HBD.out.trans ((b7D.trans bw8).mono (by omega));have z8:D.heap.size≤w8.heap.size:=(b7D.trans bw8).size
          have HLn:Hid ((l.take at_++M::l.drop at_).length≤L0+(i+1)):=by
           show (l.take at_++M::l.drop at_).length≤L0+(i+1)
           rw [zb1 l M at_ hatL,← HN.out];omega
          clear V8 V7 bw7 bw8 b7D hHeld runv7 runv8 hUr hFr hUz hFz hAU hAF rg9 HUS HFS HRd HBD;go_wp2
          go_roundw
          case rel=>exact ⟨i+1,D.heap.size,l.take at_++M::l.drop at_,cv8,by omega,by go_num,by omega,z8,by rw [← Nat.add_assoc,← HMM.out];exact HCN.out,HLn.out,HV8.out,HB8.out⟩
          case measure=>simp [intOf];omega
         ·refine zbs rfl (.tmp 60) rfl HRd.out (by simp [Act.eval,Act.put]) ?_
          have b6:=bAl D1 (.cells cR.toArray 92);have b6D:=bA.trans (b6.mono bA.size);refine hKC _ _ (zaF rg9 b6D hpD) ?_;clear hKC KC
          try simp only [Act.put,SL]
          have VL6:=VL.below b6 (by have:=bA.size;omega);have X6:=zav D1 cR.toArray 92;have z6:D1.heap.size<(D1.alloc (.cells cR.toArray 92)).heap.size:=X6.lt;have zA:=bA.size;obtain ⟨D2,hD2⟩:∃ x,x=D1.alloc (.cells cR.toArray 92):=⟨_,rfl⟩;rw [← hD2] at b6 b6D VL6 X6 z6 ⊢;clear hD2;have XK:=X6;obtain ⟨v4,w4,cv4,runv4,⟨V4,X4⟩,bw4⟩:=zfr HUS.out hUz hAU b6D hiD (by omega) VL6 X6 (fun h=>by simp [Value.ownBlock] at h;omega);refine zbr (i:=4) (o:=_) rfl (by kernel_rfl) (fun KC hKC=>?_);refine zaQ rfl (.tmp 55) (.tmp 58) rfl (by simp [Act.eval,Act.put]) (by simp [Act.eval,Act.put]) runv4 ?_;have b4D:=b6D.trans bw4;refine hKC _ _ (zaF rg9 b4D hpD) ?_;clear hKC KC
          try simp only [Act.put,SL]
          obtain ⟨v7,w7,cv7,runv7,V7,bw7⟩:=zdI b4D hiD (by omega) V4 X4 (zab.rd_below HRd.out b4D hiD);refine zat (i:=7) (o:=_) rfl (by kernel_rfl) (by kernel_rfl) (fun KC hKC=>?_);refine zaQ rfl (.tmp 59) (.tmp 61) rfl (by simp [Act.eval,Act.put]) (by simp [Act.eval,Act.put]) runv7 ?_;refine hKC _ _ ?_;clear hKC KC
          try simp only [Act.put,SL]
          have b7D:=b4D.trans bw7;obtain ⟨v8,w8,cv8,runv8,V8,bw8⟩:=zc4 HFS.out hFz hAF b7D hiD (by omega) V7;refine zat (i:=11) (o:=_) rfl (by kernel_rfl) (by kernel_rfl) (fun KC hKC=>?_);refine zaQ rfl (.tmp 62) (.tmp 65) rfl (by simp [Act.eval,Act.put]) (by simp [Act.eval,Act.put]) runv8 ?_;refine hKC _ _ ?_;clear hKC KC
          try simp only [Act.put,SL]
          refine zj1 12 (v:=?_) rfl ?_ ?_
          rotate_left
          ·intro w' hSw;go_simp;try with_reducible rfl
          try simp only [Act.put,SL]
          refine zas (by kernel_rfl) ?_ _
          have HV8:Hid (View zab 92 w8 D.heap.size hi v8 (l.take at_++M::l.drop at_).length (fun i=>x0 ((l.take at_++M::l.drop at_).getD i 0)) cv8):=by
           show View _ _ _ _ _ _ _ _ _
           rw [zb1 l M at_ hatL,← HN.out];exact V8.congr (fun i _=>zc5 x0 l M at_ hatL i)
          have HB8:Hid (Below w.heap.size w w8):=HBD.out.trans ((b7D.trans bw8).mono (by omega));have z8:D.heap.size≤w8.heap.size:=(b7D.trans bw8).size
          have HLn:Hid ((l.take at_++M::l.drop at_).length≤L0+(i+1)):=by
           show (l.take at_++M::l.drop at_).length≤L0+(i+1)
           rw [zb1 l M at_ hatL,← HN.out];omega
          clear V8 V7 bw7 bw8 b7D hHeld runv7 runv8 hUr hFr hUz hFz hAU hAF rg9 HUS HFS HRd HBD;go_wp2
          go_roundw
          case rel=>exact ⟨i+1,D.heap.size,l.take at_++M::l.drop at_,cv8,by omega,by go_num,by omega,z8,by rw [← Nat.add_assoc,← HMM.out];exact HCN.out,HLn.out,HV8.out,HB8.out⟩
          case measure=>simp [intOf];omega
        ·refine zbs rfl (.tmp 60) rfl HRd.out (by simp [Act.eval,Act.put]) ?_
         have bA:=bAl D (.cells cR.toArray 92);refine hKC _ _ (zaF rg9 bA hpD) ?_;clear hKC KC
         try simp only [Act.put,SL]
         have XA:=zav D cR.toArray 92;have zA:D.heap.size<(D.alloc (.cells cR.toArray 92)).heap.size:=XA.lt;obtain ⟨D1,hD1⟩:∃ x,x=D.alloc (.cells cR.toArray 92):=⟨_,rfl⟩;rw [← hD1] at bA XA zA ⊢;clear hD1;refine zbr (i:=0) (o:=_) rfl (by kernel_rfl) (fun KC hKC=>?_);refine zcA rfl rfl ?_;have b6:=bAl D1 (.cells #[] 92);have b6D:=bA.trans (b6.mono bA.size);refine hKC _ _ (zaF rg9 b6D hpD) ?_;clear hKC KC
         try simp only [Act.put,SL]
         have VL:=(View.lit0 (E:=zab) (t:=92) (fun i=>x0 (l.getD i 0)) co D1 hi).weakL (lo':=D.heap.size) (by omega);have X6:=XA.below b6 zA;obtain ⟨D2,hD2⟩:∃ x,x=D1.alloc (.cells #[] 92):=⟨_,rfl⟩;rw [← hD2] at b6 b6D VL X6 ⊢;clear hD2;obtain ⟨v4,w4,cv4,runv4,⟨V4,X4⟩,bw4⟩:=zfr HUS.out hUz hAU b6D hiD (by omega) VL X6 (fun h=>by simp [Value.ownBlock] at h;omega);refine zbr (i:=4) (o:=_) rfl (by kernel_rfl) (fun KC hKC=>?_);refine zaQ rfl (.tmp 55) (.tmp 58) rfl (by simp [Act.eval,Act.put]) (by simp [Act.eval,Act.put]) runv4 ?_;have b4D:=b6D.trans bw4;refine hKC _ _ (zaF rg9 b4D hpD) ?_;clear hKC KC
         try simp only [Act.put,SL]
         obtain ⟨v7,w7,cv7,runv7,V7,bw7⟩:=zdI b4D hiD (by omega) V4 X4 (zab.rd_below HRd.out b4D hiD);refine zat (i:=7) (o:=_) rfl (by kernel_rfl) (by kernel_rfl) (fun KC hKC=>?_);refine zaQ rfl (.tmp 59) (.tmp 61) rfl (by simp [Act.eval,Act.put]) (by simp [Act.eval,Act.put]) runv7 ?_;refine hKC _ _ ?_;clear hKC KC
         try simp only [Act.put,SL]
         have b7D:=b4D.trans bw7;obtain ⟨v8,w8,cv8,runv8,V8,bw8⟩:=zc4 HFS.out hFz hAF b7D hiD (by omega) V7;refine zat (i:=11) (o:=_) rfl (by kernel_rfl) (by kernel_rfl) (fun KC hKC=>?_);refine zaQ rfl (.tmp 62) (.tmp 65) rfl (by simp [Act.eval,Act.put]) (by simp [Act.eval,Act.put]) runv8 ?_;refine hKC _ _ ?_;clear hKC KC
         try simp only [Act.put,SL]
         refine zj1 12 (v:=?_) rfl ?_ ?_
         rotate_left
         ·intro w' hSw;go_simp;try with_reducible rfl
         try simp only [Act.put,SL]
         refine zas (by kernel_rfl) ?_ _
         have HV8:Hid (View zab 92 w8 D.heap.size hi v8 (l.take at_++M::l.drop at_).length (fun i=>x0 ((l.take at_++M::l.drop at_).getD i 0)) cv8):=by
          show View _ _ _ _ _ _ _ _ _
          rw [zb1 l M at_ hatL,← HN.out];exact V8.congr (fun i _=>zc5 x0 l M at_ hatL i)
         have HB8:Hid (Below w.heap.size w w8):=HBD.out.trans ((b7D.trans bw8).mono (by omega));have z8:D.heap.size≤w8.heap.size:=(b7D.trans bw8).size
         have HLn:Hid ((l.take at_++M::l.drop at_).length≤L0+(i+1)):=by
          show (l.take at_++M::l.drop at_).length≤L0+(i+1)
          rw [zb1 l M at_ hatL,← HN.out];omega
         clear V8 V7 bw7 bw8 b7D hHeld runv7 runv8 hUr hFr hUz hFz hAU hAF rg9 HUS HFS HRd HBD;go_wp2
         go_roundw
         case rel=>exact ⟨i+1,D.heap.size,l.take at_++M::l.drop at_,cv8,by omega,by go_num,by omega,z8,by rw [← Nat.add_assoc,← HMM.out];exact HCN.out,HLn.out,HV8.out,HB8.out⟩
         case measure=>simp [intOf];omega
       ·obtain ⟨A,hA⟩:∃ A,at_=A+1:=⟨at_-1,by omega⟩
        subst hA
        have hAn:A<n:=by omega
        have VD:=HVx.out.drew;obtain ⟨gO,cO',hgO⟩:=VD.form0 (by omega)
        have rgO:wx.drew.rangeAt gO (A*9) (co A):=by rw [hgO] at VD;exact VD.range hAn
        obtain ⟨rfl,rfl⟩:ao=some ⟨gO,0,none⟩∧cap=cO':=by simpa using hgO
        have hcO:(co A).length=9:=VD.lens A hAn;have CC0:=zg4 (x0 M) (x0 (l.getD A 0)) cR (co A) hi hi wx.drew (zab.rd_below HRx.out bD (by omega)) (VD.each A hAn);obtain ⟨cO,hcOe⟩:∃ c,c=co A:=⟨_,rfl⟩;rw [← hcOe] at rgO hcO CC0;obtain ⟨t,ht⟩:∃ t,t=decide (numC (x0 M) (x0 (l.getD A 0))<0):=⟨_,rfl⟩;rw [← ht] at CC0;have HT:=hid ht
        have CC:Calls Tryz.prog 58 (#[.agg cR.toArray,.agg cO.toArray]++#[]) wx.drew fun e w'=>e=.returned (.bool t)∧Below wx.drew.heap.size wx.drew w':=by rw [Array.append_empty];exact CC0
        have rgB:wx.drew.rangeAt wi.heap.size 0 cR:=fun j v hv=>by
         have:=(HXx.out.cell j).trans (by simpa using hv);rw [Nat.zero_add];exact this
        have d1:decide (0<A+1)=true:=decide_eq_true (by omega);have d2:decide ((0:Int)<((A+1:Nat):Int))=true:=decide_eq_true (by omega);have wP:IntKind.i64.wrap (((A+1:Nat):Int)-1)=(A:Int):=zjw (by omega)
        have wP':IntKind.i64.wrap ((A:Int)+1-1)=(A:Int):=by rw [IntKind.wrap_i64];omega
        have wA:IntKind.i64.wrap (A:Int)=(A:Int):=by rw [IntKind.wrap_i64];omega
        have i3:(0:Int)≤(A:Int):=by omega
        have i4:(A:Int)<(n:Int):=by omega
        clear CC0 ht hcOe VD hgO
        go_upto_region 11 with fail
        refine zax 9 (fun w'=>w'.rangeAt gO (A*9) cO∧w'.rangeAt wi.heap.size 0 cR) zbx ⟨rgO,rgB⟩ (fun hHeld=>?_);refine zkf 0 rfl ?_
        try simp only [Act.put,SL]
        refine zkf 1 rfl ?_
        try simp only [Act.put,SL]
        try rw [d1]
        refine zkf 2 rfl ?_
        try simp only [Act.put,SL]
        refine zae (i:=3) (oi:=_) 16 rfl (by kernel_rfl) (fun _ _ _ h=>h) (yieldsIf_load_mid (by kernel_rfl) 92 (.tmp 6) rfl wi.heap.size (0) (by simp [Act.eval,Act.put]) cR _ (fun w h=>h.2) Tryz.underlying92 rfl (zah hcR)) (by assumption) ?_
        try simp only [Act.put,SL]
        refine zkf 4 rfl ?_
        try simp only [Act.put,SL]
        refine zkf 5 rfl ?_
        try simp only [Act.put,SL]
        refine zkf 6 rfl ?_
        try simp only [Act.put,SL]
        refine zkf 7 rfl ?_
        try simp only [Act.put,SL]
        refine zae (i:=8) (oi:=_) 16 rfl (by kernel_rfl) (fun _ _ _ h=>h) (yieldsIf_load_mid (by kernel_rfl) 92 (.tmp 49) rfl gO (A*9) (by simp [Act.eval,Act.put]) cO _ (fun w h=>h.1) Tryz.underlying92 rfl (zah hcO)) (by assumption) ?_
        try simp only [Act.put,SL]
        refine zat (i:=9) (o:=_) rfl (by kernel_rfl) (by kernel_rfl) (fun KC hKC=>?_);refine za4 (by kernel_rfl) (.func 58) 58 #[] _ _ rfl (by simp [Act.eval,Act.put]) #[.agg cR.toArray,.agg cO.toArray] (by simp [Act.eval,Act.put]) Tryz.func58 (by kernel_rfl) (by kernel_rfl) CC ?_;rintro ee w9 ⟨rfl,b9d⟩;refine ⟨_,rfl,?_⟩;refine hKC _ _ ?_;clear hKC KC
        try simp only [Act.put,SL]
        refine zj1 10 (v:=?_) rfl ?_ ?_
        rotate_left
        ·intro w' hSw;go_simp;try with_reducible rfl
        try simp only [Act.put,SL]
        refine zas (by kernel_rfl) ?_ _;have b9:Below wx.heap.size wx w9:=bD.trans b9d;clear bD hHeld d1 d2 CC rgO rgB hcO b9d
        cases t with
        | true=>
         go_wp2
         go_roundw
         case rel=>exact ⟨A,by omega,by go_num,fun k h1 h2=>by
          by_cases c:k=A
          ·rw [c];simpa using HT.out
          ·exact HBE.out k (by omega) h2,HB5x.out.trans (b9.mono zx)⟩
         case measure=>simp [intOf]
        | false=>
         have HS:Hid (A+1=0∨¬ numC (x0 M) (x0 (l.getD (A+1-1) 0))<0):=.inr (by simpa using HT.out);obtain ⟨at_,hate⟩:∃ a,a=A+1:=⟨_,rfl⟩;rw [← hate] at HS HBE hat ⊢;clear hate HT wP wP' wA hat0;have z9:wx.heap.size≤w9.heap.size:=b9.size;have V9:=(HVx.out.below b9 (by omega)).drew;have b9':Below wx.heap.size wx w9.drew:=b9.trans (show Below wx.heap.size w9 w9.drew from ⟨rfl,rfl,rfl,Nat.le_refl _,fun _ _=>rfl⟩);have X9:Box w9.drew wi.heap.size cR.toArray 92:=HXx.out.below b9' (by omega);have R9:zab.rd w9.drew hi (x0 M) cR:=zab.rd_below HRx.out b9' (by omega);have B9:Below w.heap.size w w9.drew:=HBx.out.trans (b9'.mono (by omega))
         have rg9:w9.drew.rangeAt wi.heap.size 0 cR:=fun j v hv=>by
          have:=(X9.cell j).trans (by simpa using hv);rw [Nat.zero_add];exact this
         obtain ⟨D,hD⟩:∃ D,D=w9.drew:=⟨_,rfl⟩;have HD:=hid hD;rw [← hD] at V9 X9 R9 B9 rg9
         have zD:w9.heap.size=D.heap.size:=by rw [hD];rfl
         clear hD b9 b9';obtain ⟨aU,cU,hUr,sU,hUz⟩:=V9.upto_ (show hi≤D.heap.size by omega) (al:=at_) hat;obtain ⟨aF,cF,hFr,sF,rF,hFz⟩:=V9.from_ (show hi≤D.heap.size by omega) (al:=at_) hat
         have hAU:∀ b off,aU=some ⟨b,off,none⟩→b<D.heap.size:=fun b off e=>by
          rcases V9.form2 with ⟨e3,e4⟩ | ⟨g,cp,e3,e4,hg⟩
          ·have hz:at_=0:=by omega
           have:=hUr D;rw [e3,hz,zeu D] at this
           simp only [Result.ok.injEq,Value.slice.injEq,and_true] at this
           rw [← this.1] at e
           cases e
          ·have:=hUr D
           rw [e3,zes g n cp at_ hat e4 D] at this
           simp only [Result.ok.injEq,Value.slice.injEq,and_true] at this
           rw [← this.1] at e
           cases e
           exact hg
         have hAF:∀ b off,aF=some ⟨b,off,none⟩→b<D.heap.size:=fun b off e=>by
          rcases V9.form2 with ⟨e3,e4⟩ | ⟨g,cp,e3,e4,hg⟩
          ·have hz:at_=0:=by omega
           have:=hFr D;rw [e3,hz,zet D] at this
           simp only [Result.ok.injEq,Value.slice.injEq,and_true] at this
           rw [← this.1] at e
           cases e
          ·have:=hFr D
           rw [e3,zer g n cp at_ hat D] at this
           simp only [Result.ok.injEq,Value.slice.injEq,and_true] at this
           rw [← this.1] at e
           split at e<;>cases e<;>exact hg
         have hiD:hi≤D.heap.size:=by omega
         have hpD:wi.heap.size<D.heap.size:=X9.lt
         have hatL:at_≤l.length:=by rw [← HN.out];exact hat
         have HCN:Hid (Cnt x0 (M+1) (l.take at_++M::l.drop at_)):=HCt.out.ins HF.out at_ hatL (fun k h1 h2=>HBE.out k h1 (by rw [HN.out];exact h2)) HS.out;have HRd:=hid R9;have HBD:=hid B9;have HUS:=hid sU;have HFS:=hid sF;clear V9 X9 R9 B9 sU sF rF
         go_upto_region 13 with fail
         refine zax 7 (fun w'=>w'.rangeAt wi.heap.size 0 cR) zbx (by rw [← HD.out];exact rg9) (fun hHeld=>?_);rw [← HD.out] at hHeld ⊢;refine zkf 1 rfl ?_
         try simp only [Act.put,SL]
         refine zkf 2 rfl ?_
         try simp only [Act.put,SL]
         refine zkd 3 (v:=?_) rfl ?_ ?_
         rotate_left
         ·intro w' hSw
          try rw [show (Instr.slice 30 (.slice (some ⟨gO,0,none⟩) n cap) none (some (.int .i64 (at_:Int))) none).run Tryz.prog w'=_ from hUr w']
          have hSl':=hUr w';go_simp
          try with_reducible rfl
         try simp only [Act.put,SL]
         refine zae (i:=5) (oi:=_) 16 rfl (by kernel_rfl) (fun _ _ _ h=>h) (yieldsIf_load_mid (by kernel_rfl) 92 (.tmp 6) rfl wi.heap.size (0) (by simp [Act.eval,Act.put]) cR _ (fun w h=>h) Tryz.underlying92 rfl (zah hcR)) (by assumption) ?_
         try simp only [Act.put,SL]
         refine zkf 8 rfl ?_
         try simp only [Act.put,SL]
         refine zkf 9 rfl ?_
         try simp only [Act.put,SL]
         refine zkd 10 (v:=?_) rfl ?_ ?_
         rotate_left
         ·intro w' hSw
          try rw [show (Instr.slice 30 (.slice (some ⟨gO,0,none⟩) n cap) (some (.int .i64 (at_:Int))) none none).run Tryz.prog w'=_ from hFr w']
          have hSl':=hFr w';go_simp
          try with_reducible rfl
         try simp only [Act.put,SL]
         refine zcz (i:=0) (j:=6) (o:=_) (o':=_) rfl rfl (by kernel_rfl) (fun KC hKC=>?_) (fun KC hKC=>?_)
         ·refine zcA rfl rfl ?_
          have bA:=bAl D (.cells #[] 92);refine hKC _ _ (zaF rg9 bA hpD) ?_;clear hKC KC
          try simp only [Act.put,SL]
          have VL:=View.lit0 (E:=zab) (t:=92) (fun i=>x0 (l.getD i 0)) co D hi;have zA1:D.heap.size<(D.alloc (.cells #[] 92)).heap.size:=(zav D #[] 92).lt;obtain ⟨D1,hD1⟩:∃ x,x=D.alloc (.cells #[] 92):=⟨_,rfl⟩;rw [← hD1] at bA VL zA1 ⊢;clear hD1;refine zcz (i:=4) (j:=6) (o:=_) (o':=_) rfl rfl (by kernel_rfl) (fun KC hKC=>?_) (fun KC hKC=>?_)
          ·skip
           obtain ⟨v4,w4,cv4,runv4,V4,bw4⟩:=zjH (lo:=lo) HUS.out hUz hAU bA hiD (by omega) VL;refine zaQ rfl (.tmp 55) (.tmp 58) rfl (by simp [Act.eval,Act.put]) (by simp [Act.eval,Act.put]) runv4 ?_;have b4D:=bA.trans bw4;refine hKC _ _ (zaF rg9 b4D hpD) ?_;clear hKC KC
           try simp only [Act.put,SL]
           refine zbr (i:=6) (o:=_) rfl (by kernel_rfl) (fun KC hKC=>?_);refine zbs rfl (.tmp 60) rfl HRd.out (by simp [Act.eval,Act.put]) ?_;have b6:=bAl w4 (.cells cR.toArray 92);have b6D:=b4D.trans (b6.mono b4D.size);refine hKC _ _ (zaF rg9 b6D hpD) ?_;clear hKC KC
           try simp only [Act.put,SL]
           have V6:=V4.below b6 (by have:=b4D.size;omega);have X6:=zav w4 cR.toArray 92;obtain ⟨v7,w7,cv7,runv7,V7,bw7⟩:=zdI b6D hiD (by omega) V6 X6 (zab.rd_below HRd.out b6D hiD);refine zat (i:=7) (o:=_) rfl (by kernel_rfl) (by kernel_rfl) (fun KC hKC=>?_);refine zaQ rfl (.tmp 59) (.tmp 61) rfl (by simp [Act.eval,Act.put]) (by simp [Act.eval,Act.put]) runv7 ?_;refine hKC _ _ ?_;clear hKC KC
           try simp only [Act.put,SL]
           have b7D:=b6D.trans bw7;obtain ⟨v8,w8,cv8,runv8,V8,bw8⟩:=zc4 HFS.out hFz hAF b7D hiD (by omega) V7;refine zat (i:=11) (o:=_) rfl (by kernel_rfl) (by kernel_rfl) (fun KC hKC=>?_);refine zaQ rfl (.tmp 62) (.tmp 65) rfl (by simp [Act.eval,Act.put]) (by simp [Act.eval,Act.put]) runv8 ?_;refine hKC _ _ ?_;clear hKC KC
           try simp only [Act.put,SL]
           refine zj1 12 (v:=?_) rfl ?_ ?_
           rotate_left
           ·intro w' hSw;go_simp;try with_reducible rfl
           try simp only [Act.put,SL]
           refine zas (by kernel_rfl) ?_ _
           have HV8:Hid (View zab 92 w8 D.heap.size hi v8 (l.take at_++M::l.drop at_).length (fun i=>x0 ((l.take at_++M::l.drop at_).getD i 0)) cv8):=by
            show View _ _ _ _ _ _ _ _ _
            rw [zb1 l M at_ hatL,← HN.out];exact V8.congr (fun i _=>zc5 x0 l M at_ hatL i)
           have HB8:Hid (Below w.heap.size w w8):=HBD.out.trans ((b7D.trans bw8).mono (by omega));have z8:D.heap.size≤w8.heap.size:=(b7D.trans bw8).size
           have HLn:Hid ((l.take at_++M::l.drop at_).length≤L0+(i+1)):=by
            show (l.take at_++M::l.drop at_).length≤L0+(i+1)
            rw [zb1 l M at_ hatL,← HN.out];omega
           clear V8 V7 bw7 bw8 b7D hHeld runv7 runv8 hUr hFr hUz hFz hAU hAF rg9 HUS HFS HRd HBD;go_wp2
           go_roundw
           case rel=>exact ⟨i+1,D.heap.size,l.take at_++M::l.drop at_,cv8,by omega,by go_num,by omega,z8,by rw [← Nat.add_assoc,← HMM.out];exact HCN.out,HLn.out,HV8.out,HB8.out⟩
           case measure=>simp [intOf];omega
          ·refine zbs rfl (.tmp 60) rfl HRd.out (by simp [Act.eval,Act.put]) ?_
           have b6:=bAl D1 (.cells cR.toArray 92);have b6D:=bA.trans (b6.mono bA.size);refine hKC _ _ (zaF rg9 b6D hpD) ?_;clear hKC KC
           try simp only [Act.put,SL]
           have VL6:=VL.below b6 (by have:=bA.size;omega);have X6:=zav D1 cR.toArray 92;have z6:D1.heap.size<(D1.alloc (.cells cR.toArray 92)).heap.size:=X6.lt;have zA:=bA.size;obtain ⟨D2,hD2⟩:∃ x,x=D1.alloc (.cells cR.toArray 92):=⟨_,rfl⟩;rw [← hD2] at b6 b6D VL6 X6 z6 ⊢;clear hD2;have XK:=X6;obtain ⟨v4,w4,cv4,runv4,⟨V4,X4⟩,bw4⟩:=zfr HUS.out hUz hAU b6D hiD (by omega) VL6 X6 (fun h=>by simp [Value.ownBlock] at h;omega);refine zbr (i:=4) (o:=_) rfl (by kernel_rfl) (fun KC hKC=>?_);refine zaQ rfl (.tmp 55) (.tmp 58) rfl (by simp [Act.eval,Act.put]) (by simp [Act.eval,Act.put]) runv4 ?_;have b4D:=b6D.trans bw4;refine hKC _ _ (zaF rg9 b4D hpD) ?_;clear hKC KC
           try simp only [Act.put,SL]
           obtain ⟨v7,w7,cv7,runv7,V7,bw7⟩:=zdI b4D hiD (by omega) V4 X4 (zab.rd_below HRd.out b4D hiD);refine zat (i:=7) (o:=_) rfl (by kernel_rfl) (by kernel_rfl) (fun KC hKC=>?_);refine zaQ rfl (.tmp 59) (.tmp 61) rfl (by simp [Act.eval,Act.put]) (by simp [Act.eval,Act.put]) runv7 ?_;refine hKC _ _ ?_;clear hKC KC
           try simp only [Act.put,SL]
           have b7D:=b4D.trans bw7;obtain ⟨v8,w8,cv8,runv8,V8,bw8⟩:=zc4 HFS.out hFz hAF b7D hiD (by omega) V7;refine zat (i:=11) (o:=_) rfl (by kernel_rfl) (by kernel_rfl) (fun KC hKC=>?_);refine zaQ rfl (.tmp 62) (.tmp 65) rfl (by simp [Act.eval,Act.put]) (by simp [Act.eval,Act.put]) runv8 ?_;refine hKC _ _ ?_;clear hKC KC
           try simp only [Act.put,SL]
           refine zj1 12 (v:=?_) rfl ?_ ?_
           rotate_left
           ·intro w' hSw;go_simp;try with_reducible rfl
           try simp only [Act.put,SL]
           refine zas (by kernel_rfl) ?_ _
           have HV8:Hid (View zab 92 w8 D.heap.size hi v8 (l.take at_++M::l.drop at_).length (fun i=>x0 ((l.take at_++M::l.drop at_).getD i 0)) cv8):=by
            show View _ _ _ _ _ _ _ _ _
            rw [zb1 l M at_ hatL,← HN.out];exact V8.congr (fun i _=>zc5 x0 l M at_ hatL i)
           have HB8:Hid (Below w.heap.size w w8):=HBD.out.trans ((b7D.trans bw8).mono (by omega));have z8:D.heap.size≤w8.heap.size:=(b7D.trans bw8).size
           have HLn:Hid ((l.take at_++M::l.drop at_).length≤L0+(i+1)):=by
            show (l.take at_++M::l.drop at_).length≤L0+(i+1)
            rw [zb1 l M at_ hatL,← HN.out];omega
           clear V8 V7 bw7 bw8 b7D hHeld runv7 runv8 hUr hFr hUz hFz hAU hAF rg9 HUS HFS HRd HBD;go_wp2
           go_roundw
           case rel=>exact ⟨i+1,D.heap.size,l.take at_++M::l.drop at_,cv8,by omega,by go_num,by omega,z8,by rw [← Nat.add_assoc,← HMM.out];exact HCN.out,HLn.out,HV8.out,HB8.out⟩
           case measure=>simp [intOf];omega
         ·refine zbs rfl (.tmp 60) rfl HRd.out (by simp [Act.eval,Act.put]) ?_
          have bA:=bAl D (.cells cR.toArray 92);refine hKC _ _ (zaF rg9 bA hpD) ?_;clear hKC KC
          try simp only [Act.put,SL]
          have XA:=zav D cR.toArray 92;have zA:D.heap.size<(D.alloc (.cells cR.toArray 92)).heap.size:=XA.lt;obtain ⟨D1,hD1⟩:∃ x,x=D.alloc (.cells cR.toArray 92):=⟨_,rfl⟩;rw [← hD1] at bA XA zA ⊢;clear hD1;refine zbr (i:=0) (o:=_) rfl (by kernel_rfl) (fun KC hKC=>?_);refine zcA rfl rfl ?_;have b6:=bAl D1 (.cells #[] 92);have b6D:=bA.trans (b6.mono bA.size);refine hKC _ _ (zaF rg9 b6D hpD) ?_;clear hKC KC
          try simp only [Act.put,SL]
          have VL:=(View.lit0 (E:=zab) (t:=92) (fun i=>x0 (l.getD i 0)) co D1 hi).weakL (lo':=D.heap.size) (by omega);have X6:=XA.below b6 zA;obtain ⟨D2,hD2⟩:∃ x,x=D1.alloc (.cells #[] 92):=⟨_,rfl⟩;rw [← hD2] at b6 b6D VL X6 ⊢;clear hD2;obtain ⟨v4,w4,cv4,runv4,⟨V4,X4⟩,bw4⟩:=zfr HUS.out hUz hAU b6D hiD (by omega) VL X6 (fun h=>by simp [Value.ownBlock] at h;omega);refine zbr (i:=4) (o:=_) rfl (by kernel_rfl) (fun KC hKC=>?_);refine zaQ rfl (.tmp 55) (.tmp 58) rfl (by simp [Act.eval,Act.put]) (by simp [Act.eval,Act.put]) runv4 ?_;have b4D:=b6D.trans bw4;refine hKC _ _ (zaF rg9 b4D hpD) ?_;clear hKC KC
          try simp only [Act.put,SL]
          obtain ⟨v7,w7,cv7,runv7,V7,bw7⟩:=zdI b4D hiD (by omega) V4 X4 (zab.rd_below HRd.out b4D hiD);refine zat (i:=7) (o:=_) rfl (by kernel_rfl) (by kernel_rfl) (fun KC hKC=>?_);refine zaQ rfl (.tmp 59) (.tmp 61) rfl (by simp [Act.eval,Act.put]) (by simp [Act.eval,Act.put]) runv7 ?_;refine hKC _ _ ?_;clear hKC KC
          try simp only [Act.put,SL]
          have b7D:=b4D.trans bw7;obtain ⟨v8,w8,cv8,runv8,V8,bw8⟩:=zc4 HFS.out hFz hAF b7D hiD (by omega) V7;refine zat (i:=11) (o:=_) rfl (by kernel_rfl) (by kernel_rfl) (fun KC hKC=>?_);refine zaQ rfl (.tmp 62) (.tmp 65) rfl (by simp [Act.eval,Act.put]) (by simp [Act.eval,Act.put]) runv8 ?_;refine hKC _ _ ?_;clear hKC KC
          try simp only [Act.put,SL]
          refine zj1 12 (v:=?_) rfl ?_ ?_
          rotate_left
          ·intro w' hSw;go_simp;try with_reducible rfl
          try simp only [Act.put,SL]
          refine zas (by kernel_rfl) ?_ _
          have HV8:Hid (View zab 92 w8 D.heap.size hi v8 (l.take at_++M::l.drop at_).length (fun i=>x0 ((l.take at_++M::l.drop at_).getD i 0)) cv8):=by
           show View _ _ _ _ _ _ _ _ _
           rw [zb1 l M at_ hatL,← HN.out];exact V8.congr (fun i _=>zc5 x0 l M at_ hatL i)
          have HB8:Hid (Below w.heap.size w w8):=HBD.out.trans ((b7D.trans bw8).mono (by omega));have z8:D.heap.size≤w8.heap.size:=(b7D.trans bw8).size
          have HLn:Hid ((l.take at_++M::l.drop at_).length≤L0+(i+1)):=by
           show (l.take at_++M::l.drop at_).length≤L0+(i+1)
           rw [zb1 l M at_ hatL,← HN.out];omega
          clear V8 V7 bw7 bw8 b7D hHeld runv7 runv8 hUr hFr hUz hFz hAU hAF rg9 HUS HFS HRd HBD;go_wp2
          go_roundw
          case rel=>exact ⟨i+1,D.heap.size,l.take at_++M::l.drop at_,cv8,by omega,by go_num,by omega,z8,by rw [← Nat.add_assoc,← HMM.out];exact HCN.out,HLn.out,HV8.out,HB8.out⟩
          case measure=>simp [intOf];omega
    ·obtain rfl:i=m:=by omega
     clear hrs hlt2;go_wp2
     go_roundw
     case rel=>exact ⟨T+1,lo,l,co,by omega,by go_num,hlo,hlow,by rw [HLS.out];exact HCt.out,by rw [HLS.out,← HN.out];exact hLl,by rw [← HN.out];exact HV.out,HBW.out⟩
     case measure=>simp [intOf];omega
  ·obtain rfl:T=2:=by omega
   clear hlt bw;go_wp2;go_ret;exact ⟨_,l,co,lo,rfl,HCt.out,hlo,HV.out,HBW.out⟩
set_option maxRecDepth 20000 in
theorem zgj (v:Value) (p:Nat×(Nat→RecD)) (hi:Nat) (w:World) (h:(zab.slice 92).rd w hi p [v]) (hhi:hi≤w.heap.size) (hs:(szSl zaD) p≤1048576) :
 Calls Tryz.prog 31 #[v] w (fun e w'=>∃ cs,e=.returned (.agg cs.toArray)∧OwnT zaw w' w.heap.size w'.heap.size ⟨0,p⟩ cs∧Below w.heap.size w w'):=by
 have B0:=zaK w #[.int .i64 0,.slice none 0 0] 32;have CS:=zgS v p hi (w.alloc (.cells #[.int .i64 0,.slice none 0 0] 32)) (Lay.rd_below _ h B0.bel hhi) (Nat.le_trans hhi B0.bel.size) hs;clear h
 go_enter Tryz.func31,Tryz.ntmps31
 go_wp2_with fail
 refine CS.mono ?_;rintro e w1 ⟨v1,rfl,O1,b1⟩;have HO:=hid (B0.call b1);obtain ⟨a3,c3,rfl⟩:=zgb O1;have z0:w.heap.size<(w.alloc (.cells #[.int .i64 0,.slice none 0 0] 32)).heap.size:=B0.b1.lt;have O2:=zfe (n:=p.1) (f:=p.2) O1 0 (by decide);have HO2:=hid O2;clear O1 O2 b1 CS B0
 go_wp2_with (refine zbB 32 _ _ rfl rfl (w.heap.size) rfl (cs:=[.int .i64 0,.slice a3 p.1 c3]) rfl (HO.out.b1) zbJ rfl rfl (HO2.out.one) ?_;intro w9 X9 C9 z9)
 refine zdd Tryz.results31 rfl X9 Tryz.underlying32 zbJ rfl rfl ?_;have zz:=C9.size;exact ⟨_,rfl,(HO2.out.chgk C9 (fun b hb=>by simp at hb;omega)).weaken (by omega) zz,HO.out.bel.trans (C9.bel (fun b hb=>by simp at hb;omega) HO.out.bel.size)⟩
set_option maxRecDepth 20000 in
theorem zg6 (T a0 a1 tb toff capt m rc:Nat) (rb:Option Addr) (y:Nat→RecD) (r:RecD) (cr:List Value) (hi:Nat) (w:World) (h0:w.cell? ⟨a0,0,none⟩=some (.slice (some ⟨tb,toff,none⟩) 2 capt)) (h1:w.cell? ⟨a1,0,none⟩=some (.int .i64 (T:Int))) (hT:w.cell? ⟨tb,toff+T*2+1,none⟩=some (.slice rb m rc)) (l0:a0<w.heap.size) (l1:a1<w.heap.size) (lt:tb<w.heap.size) (hT2:T<2)
 (hrs:(zab.slice 92).rd w hi (m,y) [.slice rb m rc]) (hr:zab.rd w hi r cr) (hhi:hi≤w.heap.size) (hm:m≤1048576) :
 Calls Tryz.prog 84 #[.agg cr.toArray,.pointer (some ⟨a0,0,none⟩),.pointer (some ⟨a1,0,none⟩)] w (fun e w'=>e=.returned (.bool (hasB m y r))∧Below w.heap.size w w'):=by
 have B0:=zaK w cr.toArray 92;have XB:Box (w.alloc (.cells cr.toArray 92)) w.heap.size cr.toArray 92:=B0.b1;have bA:=B0.bel;have hcr:cr.length=9:=zab.rd_len hr;have c0:(w.alloc (.cells cr.toArray 92)).cell? ⟨a0,0,none⟩=some (.slice (some ⟨tb,toff,none⟩) 2 capt):=(bA.cell (p:=⟨a0,0,none⟩) l0).trans h0;have c1:(w.alloc (.cells cr.toArray 92)).cell? ⟨a1,0,none⟩=some (.int .i64 (T:Int)):=(bA.cell (p:=⟨a1,0,none⟩) l1).trans h1;have c2:(w.alloc (.cells cr.toArray 92)).cell? ⟨tb,toff+T*2+1,none⟩=some (.slice rb m rc):=(bA.cell (p:=⟨tb,toff+T*2+1,none⟩) lt).trans hT;have rs:=Lay.rd_below _ hrs bA hhi;have rr:=zab.rd_below hr bA hhi;have hz:hi≤(w.alloc (.cells cr.toArray 92)).heap.size:=Nat.le_trans hhi bA.size;obtain ⟨b6,bk6,b7,bk7,b8,bk8,rfl,-⟩:=zaM hr;clear h0 h1 hT hrs B0
 go_enter Tryz.func84,Tryz.ntmps84
 go_upto_region 1 with fail
 obtain ⟨W,hW⟩:∃ x,x=w.alloc (.cells #[.int .i64 r.kind,.int .i64 r.seq,.string r.name,.int .i64 r.length,.int .i64 r.group,.int .i64 r.row,.slice b6 r.rows.1 bk6,.slice b7 r.data.1 bk7,.slice b8 r.delta.1 bk8] 92):=⟨_,rfl⟩
 have XB:Box W w.heap.size [.int .i64 r.kind,.int .i64 r.seq,.string r.name,.int .i64 r.length,.int .i64 r.group,.int .i64 r.row,.slice b6 r.rows.1 bk6,.slice b7 r.data.1 bk7,.slice b8 r.delta.1 bk8].toArray 92:=by rw [hW];exact XB
 have c0:W.cell? ⟨a0,0,none⟩=some (.slice (some ⟨tb,toff,none⟩) 2 capt):=by rw [hW];exact c0
 have c1:W.cell? ⟨a1,0,none⟩=some (.int .i64 (T:Int)):=by rw [hW];exact c1
 have c2:W.cell? ⟨tb,toff+T*2+1,none⟩=some (.slice rb m rc):=by rw [hW];exact c2
 have rs:(zab.slice 92).rd W hi (m,y) [.slice rb m rc]:=by rw [hW];exact rs
 have rr:zab.rd W hi r [.int .i64 r.kind,.int .i64 r.seq,.string r.name,.int .i64 r.length,.int .i64 r.group,.int .i64 r.row,.slice b6 r.rows.1 bk6,.slice b7 r.data.1 bk7,.slice b8 r.delta.1 bk8]:=by rw [hW];exact rr
 have HBW:Hid (Below w.heap.size w W):=by rw [hW];exact bA
 have hz:hi≤W.heap.size:=by rw [hW];exact hz
 rw [← hW];clear hW bA;obtain ⟨cq,hcq⟩:∃ c:List Value,c=[.int .i64 r.kind,.int .i64 r.seq,.string r.name,.int .i64 r.length,.int .i64 r.group,.int .i64 r.row,.slice b6 r.rows.1 bk6,.slice b7 r.data.1 bk7,.slice b8 r.delta.1 bk8]:=⟨_,rfl⟩;rw [← hcq] at XB rr hcr;have bD:Below W.heap.size W W.drew:=⟨rfl,rfl,rfl,Nat.le_refl _,fun _ _=>rfl⟩;have CC0:=zc3 (.slice rb m rc) m y r cq hi W.drew (Lay.rd_below _ rs bD hz) (zab.rd_below rr bD hz) hz hm
 have CC:Calls Tryz.prog 73 (#[.slice rb m rc,.agg cq.toArray]++#[]) W.drew (za6 (∃ i,i<m∧SameR (y i) r) W.drew):=by rw [Array.append_empty];exact CC0
 have r6:W.drew.rangeAt w.heap.size 0 cq:=fun j v hv=>by
  have:=(XB.cell j).trans (by simpa using hv);rw [Nat.zero_add];exact this
 have i1:(0:Int)≤(T:Int):=by omega
 have i2:(T:Int)<2:=by omega
 clear CC0 rs rr XB hcq;refine zax 6 (fun w'=>w'.rangeAt w.heap.size 0 cq∧w'.cell? ⟨a0,0,none⟩=some (.slice (some ⟨tb,toff,none⟩) 2 capt)∧w'.cell? ⟨a1,0,none⟩=some (.int .i64 (T:Int))∧w'.cell? ⟨tb,toff+T*2+1,none⟩=some (.slice rb m rc)) zbx ⟨r6,c0,c1,c2⟩ (fun hHeld=>?_);refine zkg 0 rfl ?_
 try simp only [Act.put,SL]
 refine zkg 1 rfl ?_
 try simp only [Act.put,SL]
 refine zkf 2 rfl ?_
 try simp only [Act.put,SL]
 refine zkf 3 rfl ?_
 try simp only [Act.put,SL]
 refine zkg 4 rfl ?_
 try simp only [Act.put,SL]
 refine zae (i:=5) (oi:=_) 16 rfl (by kernel_rfl) (fun _ _ _ h=>h) (yieldsIf_load_mid (by kernel_rfl) 92 (.tmp 3) rfl w.heap.size (0) (by simp [Act.eval,Act.put]) cq _ (fun w h=>h.1) Tryz.underlying92 rfl (zah hcr)) (by assumption) ?_
 try simp only [Act.put,SL]
 refine zat (i:=6) (o:=_) rfl (by kernel_rfl) (by kernel_rfl) (fun KC hKC=>?_);refine za4 (by kernel_rfl) (.func 73) 73 #[] _ _ rfl (by simp [Act.eval,Act.put]) #[.slice rb m rc,.agg cq.toArray] (by simp [Act.eval,Act.put]) Tryz.func73 (by kernel_rfl) (by kernel_rfl) CC ?_;rintro ee w5 ⟨t,rfl,ht,b5⟩;refine ⟨_,rfl,?_⟩;refine hKC _ _ ?_;clear hKC KC
 try simp only [Act.put,SL]
 refine zj1 7 (v:=?_) rfl ?_ ?_
 rotate_left
 ·intro w' hSw;go_simp;try with_reducible rfl
 try simp only [Act.put,SL]
 refine zas (by kernel_rfl) ?_ _;have HT:=hid (zi1 ht);have HB5:Hid (Below w.heap.size w w5):=HBW.out.trans ((bD.trans b5).mono HBW.out.size);clear ht b5 CC bD hHeld r6 c0 c1 c2;go_wp2;go_ret;exact ⟨by rw [← HT.out];rfl,HB5.out⟩
set_option maxRecDepth 20000 in
theorem zeN (a0 a1:Nat) (w:World):Calls Tryz.prog 118 #[.slice none 0 0,.func (.func 84) #[] #[.pointer (some ⟨a0,0,none⟩),.pointer (some ⟨a1,0,none⟩)]] w fun e w'=>e=.returned (.int .i64 (-1))∧Below w.heap.size w w':=by
 go_enter Tryz.func118,Tryz.ntmps118
 go_wp2
 go_loopw [8] (fun z wr=>z=.int .i64 0∧Below w.heap.size w wr) (fun z _=>0)
 case atStart=>exact ⟨rfl,Below.refl _ _⟩
 case round=>
  obtain ⟨rfl,hb⟩:=hrel;go_wp2;go_ret;exact ⟨rfl,hb⟩
theorem zeC (a0 a1:Nat) (w:World):Calls Tryz.prog 83 #[.slice none 0 0,.func (.func 84) #[] #[.pointer (some ⟨a0,0,none⟩),.pointer (some ⟨a1,0,none⟩)]] w fun e w'=>e=.returned (.slice none 0 0)∧Below w.heap.size w w':=by
 have CI:=zeN a0 a1 w
 go_enter Tryz.func83,Tryz.ntmps83
 go_wp2_with fail
 refine CI.mono ?_;rintro e w1 ⟨rfl,b1⟩;have HB:=hid b1
 have te:((-1:Int)==-1)=true:=by decide
 clear b1 CI;go_wp2;go_ret;exact ⟨rfl,HB.out⟩
set_option maxRecDepth 20000 in
theorem zft (d:WorldD) (T:Nat) (ao3:Option Addr) (cap3:Nat) (hi:Nat) (w:World) (h:(zak.slice 88).rd w hi (2,d.tapes.2) [.slice ao3 2 cap3]) (hhi:hi≤w.heap.size) (hT:T<2) (hn0:(d.tapes.2 0).recs.1≤400000) (hn1:(d.tapes.2 1).recs.1≤400000) :
 Calls Tryz.prog 48 #[.slice ao3 2 cap3,.int .i64 (T:Int)] w (fun e w'=>∃ v' l,e=.returned v'∧Cnt (recT d.tapes.2 2) (lenT d.tapes.2 2) l∧(zab.slice 92).rd w' w'.heap.size (zbw d T l) [v']∧Below w.heap.size w w'):=by
 have T0:=zaG w #[.slice ao3 2 cap3] #[.int .i64 (T:Int)] 36 2;obtain ⟨W,hW⟩:∃ x,x=(w.alloc (.cells #[.slice ao3 2 cap3] 36)).alloc (.cells #[.int .i64 (T:Int)] 2):=⟨_,rfl⟩;rw [← hW] at T0;have x0:W.cell? ⟨w.heap.size,0,none⟩=some (.slice ao3 2 cap3):=T0.b1.cell 0;have zW:w.heap.size+1<W.heap.size:=T0.b2.lt;have HT0:=hid T0;have hW3:=Lay.rd_below _ h T0.bel hhi;have CC:=zfc d.tapes.2 (.slice ao3 2 cap3) hi W hW3 (by omega) hn0 hn1;have HW3:=hid hW3;clear T0 h hW3
 go_enter Tryz.func48,Tryz.ntmps48
 go_upto_region 1 with fail
 rw [← hW];clear hW
 go_wp2_with fail
 refine CC.mono ?_;rintro e w2 ⟨v2,l,ce,lo,rfl,hCt,hlo,V,b2⟩;have HL:=hid hCt;have z2:W.heap.size≤w2.heap.size:=b2.size;have B2:=HT0.out.call b2;have y0:w2.cell? ⟨w.heap.size,0,none⟩=some (.slice ao3 2 cap3):=B2.b1.cell 0;have y1:w2.cell? ⟨w.heap.size+1,0,none⟩=some (.int .i64 (T:Int)):=B2.b2.cell 0;have HB2:=hid B2.bel
 have hlen:l.length≤1048576:=by
  have h1:=(hCt.sum (fun _=>0)).2
  have e2:lenT d.tapes.2 2=(d.tapes.2 0).recs.1+(d.tapes.2 1).recs.1:=by simp [lenT]
  omega
 have w2rd:=Lay.rd_below _ HW3.out b2 (by omega);clear CC x0 b2 hCt HT0 B2
 rcases V.form2 with ⟨rfl,hl0⟩ | ⟨g,cap,rfl,hnc,hg⟩
 ·have hnil:l=[]:=List.eq_nil_of_length_eq_zero hl0
  have CD:=zeC w.heap.size (w.heap.size+1) w2;clear V y0 y1 w2rd
  go_wp2_with fail
  refine CD.mono ?_;rintro e w3 ⟨rfl,b3⟩;have HB3:=hid (HB2.out.trans (b3.mono HB2.out.size));clear b3 CD;go_wp2;go_ret;refine ⟨.slice none 0 0,l,rfl,HL.out,?_,HB3.out⟩
  have e:(zbw d T l).1=0:=by unfold zbw;rw [hnil];rfl
  exact ⟨none,0,by rw [e],by rw [e];decide,fun h=>absurd e h⟩
 ·have hglo:=V.row.lt g rfl
  obtain ⟨ao,cp,e,hmm,hc⟩:=w2rd
  simp only [List.cons.injEq,Value.slice.injEq,true_and,and_true] at e
  obtain ⟨rfl,rfl⟩:=e;obtain ⟨tb,toff,rfl,hbh,hel⟩:=hc (by simp);obtain ⟨ct,hy,hcell⟩:=hel T hT;obtain ⟨aoT,capT,rfl,hrs⟩:=zbc hy
  have hcT:w2.cell? ⟨tb,toff+T*2+1,none⟩=some (.slice aoT (d.tapes.2 T).recs.1 capT):=by have:=hcell 1 (by decide);exact this
  have hmT:(d.tapes.2 T).recs.1≤1048576:=by
   have:T=0∨T=1:=by omega
   rcases this with rfl | rfl<;>omega
  have hEach:=V.each
  have CD:=zeM g cap l.length lo hi (fun i=>recT d.tapes.2 2 (l.getD i 0)) ce w.heap.size (w.heap.size+1) (fun i=>hasB (d.tapes.2 T).recs.1 (d.tapes.2 T).recs.2 (recT d.tapes.2 2 (l.getD i 0))) w2 V (by omega) (by omega) hlen (fun k hk w' hch=>by
   have bl:Below W.heap.size w2 w':=hch.bel (fun b hb=>by simp at hb;omega) (by omega);have hz:=hch.size
   exact zg6 T w.heap.size (w.heap.size+1) tb toff cap3 (d.tapes.2 T).recs.1 capT aoT (d.tapes.2 T).recs.2 (recT d.tapes.2 2 (l.getD k 0)) (ce k) hi w' ((bl.cell (p:=⟨w.heap.size,0,none⟩) (by show w.heap.size<_;omega)).trans y0) ((bl.cell (p:=⟨w.heap.size+1,0,none⟩) (by show w.heap.size+1<_;omega)).trans y1) ((bl.cell (p:=⟨tb,toff+T*2+1,none⟩) (by show tb<_;omega)).trans hcT) (by omega) (by omega) (by omega) hT (Lay.rd_below _ hrs bl (by omega)) (zab.rd_below (hEach k hk) bl (by omega)) (by omega) hmT)
  have HGLO:=hid hglo;clear V y0 y1 hEach hrs hcT hcell hel hc hy hglo
  go_wp2_with fail
  refine CD.mono ?_;rintro e w3 ⟨rfl,V3,C3⟩;have z3:=C3.size;have hgl:=HGLO.out;have HB3:Hid (Below w.heap.size w w3):=HB2.out.trans (C3.bel (fun b hb=>by simp at hb;omega) HB2.out.size);have HR3:Hid ((zab.slice 92).rd w3 w3.heap.size (zbw d T l) [.slice (some ⟨g,0,none⟩) (zaT (zfo d T l) l.length).length cap]):=V3.rd (by omega);have eK:(zaT (fun i=>!hasB (d.tapes.2 T).recs.1 (d.tapes.2 T).recs.2 (recT d.tapes.2 2 (l.getD i 0))) l.length).length=(zaT (zfo d T l) l.length).length:=rfl;rw [eK];clear V3 C3 CD hgl eK;go_wp2;go_ret;exact ⟨_,l,rfl,HL.out,HR3.out,HB3.out⟩
set_option maxRecDepth 20000 in
theorem zgk (d:WorldD) (t:Int) (cs:List Value) (hi:Nat) (w:World) (h:zam.rd w hi d cs) (hhi:hi≤w.heap.size) (hsz:zbk d≤1048576) :
 Calls Tryz.prog 19 #[.agg cs.toArray,.int .i64 t] w (ziU (MissAns d t) w):=by
 have h':=h;obtain ⟨ao1,cap1,ao2,cap2,ao3,cap3,rfl,g1,g2,g3,k0,k4,k5⟩:=za3 h';have HRD:=hid h;have HG3:=hid g3;have HSZ:=hid hsz;clear h h' hsz g1 g2 g3 k0 k4 k5;have T0:=zaG w #[.int .i64 (d.shape 0),.int .i64 (d.shape 1),.int .i64 (d.shape 2),.int .i64 (d.shape 3),.int .i64 (d.shape 4),.int .i64 (d.shape 5),.int .i64 (d.shape 6),.int .i64 (d.shape 7),.int .i64 (d.shape 8),.slice ao1 d.groups.1 cap1,.slice ao2 d.on.1 cap2,.slice ao3 d.tapes.1 cap3,.int .i64 d.writes,.int .i64 d.stop,.bool d.down] #[.int .i64 0,.slice none 0 0] 38 32
 go_enter Tryz.func19,Tryz.ntmps19
 go_wp2_with (refine zaB 38 (.tmp 2) rfl rfl (w.heap.size) rfl (T0.b1) Tryz.underlying38 zfY rfl ?_)
 refine (zfn d _ hi _ (zam.rd_below HRD.out T0.bel hhi) (Nat.le_trans hhi T0.bel.size) (zdU HSZ.out)).mono ?_;rintro e w1 ⟨x,rfl,hx,b1⟩;have HT1:=hid (T0.call b1);have HX:=hid hx;have z1:w.heap.size+1<w1.heap.size:=HT1.out.b2.lt;clear b1 T0 hx
 by_cases hx0:x=0
 case neg=>
  have hne:(x != 0)=true:=by simp [hx0]
  go_wp2_with (refine zbB 32 _ _ rfl rfl (w.heap.size+1) rfl (cs:=[.int .i64 x,.slice none 0 0]) rfl (HT1.out.b2) zbJ rfl rfl ((zb0 w1 x (zdz HX.out) 0 0).one) ?_;intro w9 X9 C9 z9)
  refine zdd Tryz.results19 rfl X9 Tryz.underlying32 zbJ rfl rfl ?_;have zz:=C9.size;exact ⟨⟨x,(0,fun _=>rec0)⟩,[.int .i64 x,.slice none 0 0],rfl,.inl ⟨x,hx0,HX.out,rfl⟩,zb0 w9 x (zdz HX.out) _ _,HT1.out.bel.trans (C9.bel (fun b hb=>by simp at hb;omega) HT1.out.bel.size)⟩
 subst hx0;have HOK:=hid (WldAns.ok HX.out);have h2:d.tapes.1=2:=HOK.out.form.2.2;have hn0:(d.tapes.2 0).recs.1≤400000:=Nat.le_trans (HOK.out.few 0 (by omega)) (by decide);have hn1:(d.tapes.2 1).recs.1≤400000:=Nat.le_trans (HOK.out.few 1 (by omega)) (by decide);obtain ⟨b,hb⟩:∃ b:Bool,(b=true↔InP t 0 1):=⟨@decide (InP t 0 1) (Classical.propDecidable _),@decide_eq_true_iff _ (Classical.propDecidable _)⟩;have CB:=zjv hb w1;have HBB:=hid hb;clear hb
 go_wp2_with fail
 refine CB.mono ?_;rintro e wq ⟨rfl,eq⟩;obtain rfl:=eq.symm;clear CB
 cases b with
 | false=>
  have HNT:Hid (¬ InP t 0 1):=fun h=>absurd (HBB.out.2 h) (by simp)
  go_wp2_with (refine zbB 32 _ _ rfl rfl (w.heap.size+1) rfl (cs:=[.int .i64 3,.slice none 0 0]) rfl (HT1.out.b2) zbJ rfl rfl ((zb0 w1 3 (by decide) 0 0).one) ?_;intro w9 X9 C9 z9)
  refine zdd Tryz.results19 rfl X9 Tryz.underlying32 zbJ rfl rfl ?_;have zz:=C9.size;exact ⟨⟨3,(0,fun _=>rec0)⟩,[.int .i64 3,.slice none 0 0],rfl,.inr (.inl ⟨HX.out,HNT.out,rfl⟩),zb0 w9 3 (by decide) _ _,HT1.out.bel.trans (C9.bel (fun b hb=>by simp at hb;omega) HT1.out.bel.size)⟩
 | true=>
 have hIn:InP t 0 1:=HBB.out.1 (by simp);obtain ⟨T,hTe⟩:∃ T:Nat,t=(T:Int):=⟨t.toNat,by have:=hIn.1;omega⟩;subst hTe
 have hT2:T<2:=by have:=hIn.2;omega
 have HIN:=hid hIn;clear hIn HBB
 have x11:w1.cell? ⟨w.heap.size,11,none⟩=some (.slice ao3 2 cap3):=by have:=HT1.out.b1.cell 11;rw [h2] at this;exact this
 have G3:(zak.slice 88).rd w1 hi (2,d.tapes.2) [.slice ao3 2 cap3]:=by
  have:=Lay.rd_below _ HG3.out HT1.out.bel hhi;rw [h2] at this;rw [show d.tapes=(2,d.tapes.2) from Prod.ext h2 rfl] at this;exact this
 have CC:=zft d T ao3 cap3 hi w1 G3 (by omega) hT2 hn0 hn1;clear G3
 go_wp2_with fail
 refine CC.mono ?_;rintro e w2 ⟨v2,l,rfl,hCt,hrd,b2⟩;have HL:=hid hCt;have z2:w1.heap.size≤w2.heap.size:=b2.size;have CT:=zgj v2 (zbw d T l) w2.heap.size w2 hrd (Nat.le_refl _) (zeA h2 HSZ.out hCt T);have HT2:=hid (HT1.out.call b2)
 obtain ⟨a2,c2,rfl⟩:∃ a2 c2,v2=.slice a2 (zbw d T l).1 c2:=by
  obtain ⟨a2,c2,e,_⟩:=hrd;exact ⟨a2,c2,by simpa using e⟩
 clear hrd b2 hCt CC HT1 x11
 go_wp2_with fail
 refine CT.mono ?_;rintro e w3 ⟨cs3,rfl,O3,b3⟩;have HT3:=hid (HT2.out.call b3);obtain ⟨a3,c3,rfl⟩:=zdX O3;have HO3:=hid O3;clear O3 b3 CT HT2
 go_wp2_with (refine zbB 32 _ _ rfl rfl (w.heap.size+1) rfl (cs:=[.int .i64 0,.slice a3 (zbw d T l).1 c3]) rfl (HT3.out.b2) zbJ rfl rfl (HO3.out.one) ?_;intro w9 X9 C9 z9)
 refine zdd Tryz.results19 rfl X9 Tryz.underlying32 zbJ rfl rfl ?_;have zz:=C9.size;have O9:=(HO3.out.chgk C9 (fun b hb=>by simp at hb;omega)).weaken (lo':=w.heap.size) (hi':=w9.heap.size) (by omega) zz;exact ⟨_,_,rfl,.inr (.inr ⟨HX.out,HIN.out,l,HL.out,rfl⟩),O9,HT3.out.bel.trans (C9.bel (fun b hb=>by simp at hb;omega) HT3.out.bel.size)⟩
theorem zg7 {α:Type} {E:Lay α} {T e:TypeId} {by_:Nat} {zs:List Value} (I:ElInfo E T e by_ zs) (R1:zei E) (ty:TypeId) {W:World} {lo hi n:Nat} {v:Value} {x:Nat→α} {ce:Nat→List Value} (h:View E e W lo hi v n x ce)
 {ao:Option Addr} {m:Nat} (c:Nat) {y:Nat→α} {cy:Nat→List Value} (hs:Src E W hi ao m y cy) (hlo:lo≤W.heap.size) (hhi:hi≤lo) (hn:n+m≤10000000) (hc0:ao=none→c=0∨m=0) :
 ∃ v' w',(Builtin.append_ #[T,T] ty #[v,.slice ao m c]).run Tryz.prog W=.ok v' w'∧View E e w' lo hi v' (n+m) (cat2 x n y) (cat2 ce n cy)∧W.grownBy w' v.ownBlock∧Below lo W w'∧(v'.ownBlock=v.ownBlock∨v'.ownBlock=some W.heap.size):=by
 obtain ⟨hz,hzs,hu,hinf,few⟩:=I
 obtain ⟨i0,hi0⟩:∃ i0,Tryz.prog.info? e=some i0:=by
  cases h:Tryz.prog.info? e with
  | none=>rw [h] at hinf;cases hinf
  | some i0=>exact ⟨i0,rfl⟩
 rw [hi0] at hinf
 simp only [Option.map_some,Option.some.injEq,Prod.mk.injEq] at hinf
 obtain ⟨h1,h2,h3⟩:=hinf
 obtain ⟨z,hz0,hzc⟩:∃ z,i0.zero=some z∧z.cells=zs.toArray:=by
  cases h:i0.zero with
  | none=>rw [h] at h1;cases h1
  | some z=>rw [h] at h1;exact ⟨z,rfl,by simpa using h1⟩
 obtain ⟨hcell,hrd⟩:=hs;have hlen:(catN m cy).length=m*E.sz:=zbt (fun j hj=>E.rd_len (hrd j hj))
 have big:∀ ad,ao=some ad→(∀ j u,(catN m cy)[j]?=some u→W.cell? (ad.add j)=some u)→∃ v' w',(Builtin.append_ #[T,T] ty #[v,.slice ao m c]).run Tryz.prog W=.ok v' w'∧View E e w' lo hi v' (n+m) (cat2 x n y) (cat2 ce n cy)∧W.grownBy w' v.ownBlock∧Below lo W w'∧(v'.ownBlock=v.ownBlock∨v'.ownBlock=some W.heap.size):=fun ad ha hc=>by
  subst ha
  obtain ⟨v',w',hr,r1,r2,r3,r4⟩:=run_append_own_at (P:=Tryz.prog) W lo T ty e i0 z E.sz by_ hu hi0 hz0 h2 h3 (by rw [hzc];simpa using hzs) hz v n (catN n ce) h.row ad m c (catN m cy) hlen hc
   (fun u hu=>by
    obtain ⟨i,hi,hm⟩:=za2.1 hu
    exact R1 _ _ _ _ (hrd i hi) u hm) (by unfold maxLen;omega) (by
    have:(n+m)*by_≤10000000*1000:=Nat.mul_le_mul hn few
    omega) hlo
  have hb:Below lo W w':=(Below.refl _ _).grown r2 hlo (fun k hk=>(h.row.lt k hk).1);refine ⟨v',w',hr,⟨by rw [zcR];exact r1,fun i hi=>?_⟩,r2,hb,r4⟩
  by_cases c1:i<n
  ·rw [zbp x y c1,zbp ce cy c1]
   exact E.rd_below (h.each i c1) hb hhi
  ·obtain ⟨k,rfl⟩:∃ k,i=n+k:=⟨i-n,by omega⟩
   rw [zbH,zbH];exact E.rd_below (hrd k (by omega)) hb hhi
 by_cases hm:m=0
 ·subst hm
  cases ao with
  | some ad=>exact big ad rfl (fun j u hj=>by rw [zbn] at hj;simp at hj)
  | none=>
   refine ⟨v,W,run_append_none' W lo T ty e i0 E.sz hu hi0 v n c _ h.row,⟨by rw [zcR,zbn,List.append_nil];exact h.row,fun i hi=>?_⟩,⟨rfl,rfl,rfl,Nat.le_refl _,fun _ _ _=>rfl⟩,Below.refl _ _,.inl rfl⟩
   have hi':i<n:=by omega
   rw [zbp x y hi',zbp ce cy hi'];exact h.each i hi'
 ·obtain ⟨b,off,rfl,hcc⟩:=hcell hm
  refine big _ rfl (fun j u hj=>?_)
  have hj':j<m*E.sz:=by rw [← hlen];exact (List.getElem?_eq_some_iff.1 hj).1
  have e1:j/E.sz<m:=Nat.div_lt_of_lt_mul (by rw [Nat.mul_comm];exact hj');have e2:j%E.sz<E.sz:=Nat.mod_lt _ hz
  have e3:j/E.sz*E.sz+j%E.sz=j:=by rw [Nat.mul_comm];exact Nat.div_add_mod j E.sz
  rw [zjC,← e3,hcc _ e1 _ e2,← zbF (fun j hj=>E.rd_len (hrd j hj)) e1 e2,e3];exact hj
theorem zig {ops:Array Oper} {rest:List Oper} {o:Oper} {a:Act} {W:World} {Q:Exit→Act→World→Prop} (hg:o.guard=none) (x:Operand) (hop:o.op=Op.buildSlice 30 1 #[(0,x)]) {w0:World} {hi0:Nat} {r:RecD} {cs:List Value} (hr:zab.rd w0 hi0 r cs) (hx:a.eval x=.agg cs.toArray)
 (h:wpList Tryz.prog ops Q rest (a.put o.dst (.slice (some ⟨W.heap.size,0,none⟩) 1 1)) (W.alloc (.cells cs.toArray 92))):wpList Tryz.prog ops Q (o::rest) a W:=by
 refine wpList_plain hg fun K hK'=>?_;have:=zbs (ops:=ops) (K:=K) (Q:=Q) (F:=True) hg x hop hr hx (hK' _ _ h);rw [if_pos (by simp [Region.wanted,hg])] at this;exact this
theorem zi6 {p:Nat→Bool} {k n:Nat} (hk:k<n) (hp:p k=true):selF p n (zaT p k).length=k∧∀ m,m≤n→k<m→(zaT p k).length<(zaT p m).length:=by
 have h2:∀ m,m≤n→k<m→(zaT p k).length<(zaT p m).length∧selF p m (zaT p k).length=k:=fun m=>by
  induction m with
  | zero=>intro _ h;omega
  | succ m ih=>
   intro h1 h2
   by_cases c:k=m
   ·subst c
    exact ⟨by rw [zbM,if_pos hp];simp,zgh hp⟩
   ·obtain ⟨a,b⟩:=ih (by omega) (by omega)
    exact ⟨by rw [zbM,List.length_append];omega,by rw [zez a];exact b⟩
 exact ⟨(h2 n (Nat.le_refl _) hk).2,fun m h1 h3=>(h2 m h1 h3).1⟩
set_option maxRecDepth 20000 in
theorem zfu (d:WorldD) (cs:List Value) (T hi B:Nat) (w:World) (h:zam.rd w hi d cs) (hhi:hi≤w.heap.size) (hBX:Box w B cs.toArray 38) (h2:d.tapes.1=2) (hT:T<2) (hn0:(d.tapes.2 0).recs.1≤400000) (hn1:(d.tapes.2 1).recs.1≤400000) :
 Calls Tryz.prog 46 #[.pointer (some ⟨B,0,none⟩),.int .i64 (T:Int)] w (fun e w'=>∃ v' l,e=.returned v'∧Cnt (recT d.tapes.2 2) (lenT d.tapes.2 2) l∧(zab.slice 92).rd w' w'.heap.size (zbw d T l) [v']∧Below w.heap.size w w'):=by
 have bL:=bAl w (.cells #[] 92);have hBlt:=hBX.lt;have CC:=zfs d cs hi B (w.alloc (.cells #[] 92)) (zam.rd_below h bL hhi) (Nat.le_trans hhi bL.size) (hBX.below bL hBlt) h2 hn0 hn1;obtain ⟨ao1,cap1,ao2,cap2,ao3,cap3,rfl,g1,g2,g3,k0,k4,k5⟩:=za3 h;obtain ⟨ao3',cap3',e,hmm,hc⟩:=g3
 simp only [List.cons.injEq,Value.slice.injEq,true_and,and_true] at e
 obtain ⟨rfl,rfl⟩:=e;obtain ⟨tb,toff,rfl,hbh,hel⟩:=hc (by rw [h2];simp);rw [h2] at hel;obtain ⟨ct,hy,hcell⟩:=hel T hT;obtain ⟨aoT,capT,rfl,hrs⟩:=zbc hy
 have HcT:Hid (w.cell? ⟨tb,toff+T*2+1,none⟩=some (.slice aoT (d.tapes.2 T).recs.1 capT)):=by have:=hcell 1 (by decide);exact this
 have HRS:=hid hrs
 have hmT:(d.tapes.2 T).recs.1≤1048576:=by
  have:T=0∨T=1:=by omega
  rcases this with rfl | rfl<;>omega
 have HBX:Hid (w.cell? ⟨B,11,none⟩=some (.slice (some ⟨tb,toff,none⟩) 2 cap3)):=by have:=hBX.cell 11;rw [h2] at this;exact this
 have zL:w.heap.size<(w.alloc (.cells #[] 92)).heap.size:=(zav w #[] 92).lt;clear h hc hmm g1 g2 k0 k4 k5 hel hBX hrs hcell hy
 go_enter Tryz.func46,Tryz.ntmps46
 go_wp2_with fail
 refine CC.mono ?_;rintro e w2 ⟨v2,l,ce,lo2,rfl,hCt,hlo2,V,b2⟩;have HL:=hid hCt
 have hlen:l.length≤1048576:=by
  have h1:=(hCt.sum (fun _=>0)).2
  have e2:lenT d.tapes.2 2=(d.tapes.2 0).recs.1+(d.tapes.2 1).recs.1:=by simp [lenT]
  omega
 have HB2:Hid (Below w.heap.size w w2):=bL.trans (b2.mono (by omega))
 have z2:w.heap.size<w2.heap.size:=by have:=b2.size;omega
 obtain ⟨P,hP⟩:∃ P,P=zfo d T l:=⟨_,rfl⟩;have HP:=hid hP;obtain ⟨x0,hx0⟩:∃ x,x=recT d.tapes.2 2:=⟨_,rfl⟩;have HX0:=hid hx0;rw [← hx0] at V;obtain ⟨n,hn⟩:∃ n,n=l.length:=⟨_,rfl⟩;have HN:=hid hn;rw [← hn] at V hlen;have V0:View zab 92 w2 w.heap.size hi (.slice (some ⟨w.heap.size,0,none⟩) 0 0) 0 (fun i=>x0 (l.getD (selF P n i) 0)) (fun _=>[]):=(View.lit0 (E:=zab) (t:=92) (fun i=>x0 (l.getD (selF P n i) 0)) (fun _=>[]) w hi).below b2 (by omega);have HV2:=hid V;obtain ⟨aC,capC,hvC⟩:=V.form;subst hvC;clear V b2 hCt CC hP hx0 hn bL;go_wp2
 go_loopw [5,7] (fun vo vi wr=>∃ (k:Nat) (co:Nat→List Value),k≤n∧vi=.int .i64 k∧View zab 92 wr w.heap.size hi vo (zaT P k).length (fun i=>x0 (l.getD (selF P n i) 0)) co∧(∀ b,vo.ownBlock=some b→aC≠some ⟨b,0,none⟩)∧View zab 92 wr lo2 hi (.slice aC n capC) n (fun i=>x0 (l.getD i 0)) ce∧Below w.heap.size w wr) (fun _ i _=>n-(intOf i).toNat)
 case atStart=>exact ⟨0,fun _=>[],Nat.zero_le _,rfl,V0,fun b hb e=>by
  simp [Value.ownBlock] at hb
  subst hb;have:=HV2.out.row.lt w.heap.size (by rw [e];rfl)
  omega,HV2.out,HB2.out⟩
 case round=>
  clear V0;obtain ⟨k,co,hk,rfl,VO,hap,VC,bw⟩:=hrel;have HVO:=hid VO;have HAP:=hid hap;have HVC:=hid VC;have HBW:=hid bw;have zr:=bw.size
  by_cases hlt:k<n
  ·obtain ⟨gC,cC',hgC⟩:=VC.form0 (by omega)
   have VCD:=VC.drew
   have rgC:wr.drew.rangeAt gC (k*9) (ce k):=by rw [hgC] at VCD;exact VCD.range hlt
   have rgC':wr.rangeAt gC (k*9) (ce k):=rgC
   obtain ⟨rfl,rfl⟩:aC=some ⟨gC,0,none⟩∧capC=cC':=by simpa using hgC
   have hcK:(ce k).length=9:=VCD.lens k hlt;have rdK:=VCD.each k hlt;have bD:Below wr.heap.size wr wr.drew:=⟨rfl,rfl,rfl,Nat.le_refl _,fun _ _=>rfl⟩;have CH0:=zeB (.slice aoT (d.tapes.2 T).recs.1 capT) (d.tapes.2 T).recs.1 (d.tapes.2 T).recs.2 (x0 (l.getD k 0)) (ce k) hi wr.drew (Lay.rd_below _ HRS.out (bw.trans (bD.mono zr)) hhi) rdK (by show hi≤wr.heap.size;omega) hmT;obtain ⟨cK,hcKe⟩:∃ c,c=ce k:=⟨_,rfl⟩;rw [← hcKe] at rgC rgC' hcK CH0
   have rdK':zab.rd wr hi (x0 (l.getD k 0)) cK:=by rw [hcKe];exact VC.each k hlt
   obtain ⟨mT,hmTe⟩:∃ m,m=(d.tapes.2 T).recs.1:=⟨_,rfl⟩
   have HPK:Hid (P k=!(hasB mT (d.tapes.2 T).recs.2 (x0 (l.getD k 0)))):=by rw [HP.out,HX0.out,hmTe];exact rfl
   rw [← hmTe] at CH0
   have CH:Calls Tryz.prog 57 (#[.slice aoT mT capT,.agg cK.toArray]++#[]) wr.drew (za6 (∃ i,i<mT∧SameR ((d.tapes.2 T).recs.2 i) (x0 (l.getD k 0))) wr.drew):=by rw [Array.append_empty];exact CH0
   have c0:wr.drew.cell? ⟨B,11,none⟩=some (.slice (some ⟨tb,toff,none⟩) 2 cap3):=(bw.cell (p:=⟨B,11,none⟩) hBlt).trans HBX.out
   have c1:wr.drew.cell? ⟨tb,toff+T*2+1,none⟩=some (.slice aoT mT capT):=by rw [hmTe];exact (bw.cell (p:=⟨tb,toff+T*2+1,none⟩) (by show tb<_;omega)).trans HcT.out
   have i1:(0:Int)≤(k:Int):=by omega
   have i2:(k:Int)<(n:Int):=by omega
   have i3:(0:Int)≤(T:Int):=by omega
   have i4:(T:Int)<2:=by omega
   obtain ⟨aO,cO,hvO⟩:=VO.form;subst hvO;have hkk:(zaT P k).length≤k:=(zhp P (fun _=>0) k).2;obtain ⟨qk,hqk⟩:∃ q,q=(zaT P k).length:=⟨_,rfl⟩;have HQK:=hid hqk;rw [← hqk] at hkk HAP HVO ⊢;clear CH0 VCD rdK hcKe hgC VO VC bw hap hmTe hqk
   go_upto_region 6 with fail
   refine zax 12 (fun w'=>w'.rangeAt gC (k*9) cK∧w'.cell? ⟨B,11,none⟩=some (.slice (some ⟨tb,toff,none⟩) 2 cap3)∧w'.cell? ⟨tb,toff+T*2+1,none⟩=some (.slice aoT mT capT)) zbx ⟨rgC,c0,c1⟩ (fun hHeld=>?_);refine zkf 0 rfl ?_
   try simp only [Act.put,SL]
   refine zkf 1 rfl ?_
   try simp only [Act.put,SL]
   refine zkf 2 rfl ?_
   try simp only [Act.put,SL]
   refine zkg 3 rfl ?_
   try simp only [Act.put,SL]
   refine zkf 4 rfl ?_
   try simp only [Act.put,SL]
   refine zkf 5 rfl ?_
   try simp only [Act.put,SL]
   refine zkf 6 rfl ?_
   try simp only [Act.put,SL]
   refine zkg 7 rfl ?_
   try simp only [Act.put,SL]
   refine zkf 8 rfl ?_
   try simp only [Act.put,SL]
   refine zkf 9 rfl ?_
   try simp only [Act.put,SL]
   refine zkf 10 rfl ?_
   try simp only [Act.put,SL]
   refine zae (i:=11) (oi:=_) 16 rfl (by kernel_rfl) (fun _ _ _ h=>h) (yieldsIf_load_mid (by kernel_rfl) 92 (.tmp 27) rfl gC (k*9) (by simp [Act.eval,Act.put]) cK _ (fun w h=>h.1) Tryz.underlying92 rfl (zah hcK)) (by assumption) ?_
   try simp only [Act.put,SL]
   refine zat (i:=12) (o:=_) rfl (by kernel_rfl) (by kernel_rfl) (fun KC hKC=>?_);refine za4 (by kernel_rfl) (.func 57) 57 #[] _ _ rfl (by simp [Act.eval,Act.put]) #[.slice aoT mT capT,.agg cK.toArray] (by simp [Act.eval,Act.put]) Tryz.func57 (by kernel_rfl) (by kernel_rfl) CH ?_;rintro ee w5 ⟨t,rfl,ht,b5⟩;refine ⟨_,rfl,?_⟩;refine hKC _ _ ?_;clear hKC KC
   try simp only [Act.put,SL]
   refine zj1 13 (v:=?_) rfl ?_ ?_
   rotate_left
   ·intro w' hSw;go_simp;try with_reducible rfl
   try simp only [Act.put,SL]
   refine zas (by kernel_rfl) ?_ _;have b5':Below wr.heap.size wr w5:=bD.trans b5;have z5:wr.heap.size≤w5.heap.size:=b5'.size
   have HTK:Hid (P k=!t):=by rw [HPK.out,zi1 ht];exact rfl
   have HVO5:Hid (View zab 92 w5 w.heap.size hi (.slice aO qk cO) qk (fun i=>x0 (l.getD (selF P n i) 0)) co):=HVO.out.below b5' (by omega);have HVC5:Hid (View zab 92 w5 lo2 hi (.slice (some ⟨gC,0,none⟩) n capC) n (fun i=>x0 (l.getD i 0)) ce):=HVC.out.below b5' (by omega);have HB5:=hid (HBW.out.trans (b5'.mono zr));have r5:w5.rangeAt gC (k*9) cK:=fun j v hv=>(b5'.cell (p:=⟨gC,k*9+j,none⟩) (HVC.out.row.lt gC rfl).2).trans (rgC' j v hv);have rd5:zab.rd w5 hi (x0 (l.getD k 0)) cK:=zab.rd_below rdK' b5' (by omega);clear ht b5 b5' bD CH rgC rgC' c0 c1 hHeld HVO HVC HBW rdK'
   cases t with
   | true=>
    clear r5 rd5;go_wp2
    go_roundw
    case rel=>exact ⟨k+1,co,by omega,by go_num,by rw [zcU HTK.out,← HQK.out];exact HVO5.out,HAP.out,HVC5.out,HB5.out⟩
    case measure=>simp [intOf];omega
   | false=>
    have hpk:P k=true:=HTK.out;have hsel:=zi6 (p:=P) hlt hpk
    have hqn:(zaT P (k+1)).length=qk+1:=by rw [zbM,if_pos hpk,List.length_append,← HQK.out];rfl
    have bA:=bAl w5 (.cells cK.toArray 92);obtain ⟨v8,w8,hrun,V8,hgr,b8,how⟩:=zg7 zcF zaL 30 (HVO5.out.below bA (by omega)) 1 (zek (b:=w5.heap.size) (hi:=hi) (y:=x0 (l.getD k 0)) (cs:=cK) (fun j hj=>by rw [(zav w5 cK.toArray 92).cell j];simp) (zab.rd_below rd5 bA (by omega))) (by simp;omega) (by omega) (by omega) (fun h=>by cases h)
    have HV8:Hid (View zab 92 w8 w.heap.size hi v8 (zaT P (k+1)).length (fun i=>x0 (l.getD (selF P n i) 0)) (cat2 co qk (fun _=>cK))):=by
     show View _ _ _ _ _ _ _ _ _
     rw [hqn];refine V8.congr (fun i hi'=>?_)
     by_cases c:i<qk
     ·rw [zbp _ _ c]
     ·obtain rfl:i=qk:=by omega
      have e1:=zbH (fun i=>x0 (l.getD (selF P n i) 0)) i (fun _=>x0 (l.getD k 0)) 0;rw [Nat.add_zero] at e1;rw [e1]
      show x0 (l.getD k 0)=x0 (l.getD (selF P n i) 0)
      rw [HQK.out,hsel.1]
    have gCl:=HVC5.out.row.lt gC rfl
    have HVC8:Hid (View zab 92 w8 lo2 hi (.slice (some ⟨gC,0,none⟩) n capC) n (fun i=>x0 (l.getD i 0)) ce):=by
     have hb8:Below w.heap.size w5 w8:=(bA.mono (by omega)).trans b8;refine HVC5.out.kept (fun b hv=>?_) (hb8.mono (by omega))
     have eb:b=gC:=by simpa [Value.ownBlock] using hv.symm
     subst eb;have h1:=hgr.block b (by have:=bA.size;omega) (fun h=>HAP.out b h.symm rfl);exact h1.trans (bA.block b gCl.2)
    have HAP8:Hid (∀ b,v8.ownBlock=some b→(some ⟨gC,0,none⟩:Option Addr)≠some ⟨b,0,none⟩):=fun b hb e=>by
     rcases how with h1 | h1
     ·exact HAP.out b (by rw [← h1];exact hb) e
     ·rw [h1] at hb
      have e1:b=(w5.alloc (.cells cK.toArray 92)).heap.size:=by simpa using hb.symm
      have e2:gC=b:=by simpa using e
      have:=bA.size;omega
    have HB8:Hid (Below w.heap.size w w8):=(HB5.out.trans (bA.mono (by omega))).trans b8;clear V8 b8 bA hgr how gCl hqn hsel hpk
    go_wp2_with (first | (refine wpList_load_mid rfl 92 (.tmp 34) rfl gC (k*9) (by simp [Act.eval]) cK _ r5 Tryz.underlying92 rfl (zah hcK) ?_) | (refine zig rfl (.tmp 35) rfl rd5 (by simp [Act.eval,Act.put]) ?_) | (at_builtin;refine zcQ rfl (.tmp 31) (.tmp 36) rfl ?_ ?_ hrun ?_;(simp [Act.eval,Act.put]);(simp [Act.eval,Act.put])))
    clear hrun r5 rd5
    go_roundw
    case rel=>exact ⟨k+1,_,by omega,by go_num,HV8.out,HAP8.out,HVC8.out,HB8.out⟩
    case measure=>simp [intOf];omega
  ·obtain rfl:k=n:=by omega
   have HR:Hid ((zab.slice 92).rd wr wr.heap.size (zbw d T l) [u5]):=by
    have:=VO.rd (by omega)
    show (zab.slice 92).rd wr wr.heap.size (zbw d T l) [u5]
    unfold zbw;rw [← HP.out,← HX0.out,← HN.out];exact this
   clear VO VC bw hap hlt;go_wp2;go_ret;exact ⟨_,l,rfl,HL.out,HR.out,HBW.out⟩
set_option maxRecDepth 20000 in
theorem zgl (d:WorldD) (t:Int) (cs:List Value) (hi:Nat) (w:World) (h:zam.rd w hi d cs) (hhi:hi≤w.heap.size) (hsz:zbk d≤1048576) :
 Calls Tryz.prog 18 #[.agg cs.toArray,.int .i64 t] w (ziU (MissAns d t) w):=by
 have h':=h;obtain ⟨ao1,cap1,ao2,cap2,ao3,cap3,rfl,g1,g2,g3,k0,k4,k5⟩:=za3 h';have HRD:=hid h;have HG3:=hid g3;have HSZ:=hid hsz;clear h h' hsz g1 g2 g3 k0 k4 k5;have T0:=zaG w (rwW d ao1 cap1 ao2 cap2 ao3 cap3).toArray #[.int .i64 0,.slice none 0 0] 38 32
 go_enter Tryz.func18,Tryz.ntmps18
 go_wp2_with (refine zaB 38 (.tmp 2) rfl rfl (w.heap.size) rfl (T0.b1) Tryz.underlying38 zfY rfl ?_)
 refine (zff d _ hi _ (zam.rd_below HRD.out T0.bel hhi) (Nat.le_trans hhi T0.bel.size) (zdU HSZ.out)).mono ?_;rintro e w1 ⟨x,rfl,hx,b1⟩;have HT1:=hid (T0.call b1);have HX:=hid hx;have z1:w.heap.size+1<w1.heap.size:=HT1.out.b2.lt;clear b1 T0 hx
 by_cases hx0:x=0
 case neg=>
  have hne:(x != 0)=true:=by simp [hx0]
  go_wp2_with (refine zbB 32 _ _ rfl rfl (w.heap.size+1) rfl (cs:=[.int .i64 x,.slice none 0 0]) rfl (HT1.out.b2) zbJ rfl rfl ((zb0 w1 x (zdz HX.out) 0 0).one) ?_;intro w9 X9 C9 z9)
  refine zdd Tryz.results18 rfl X9 Tryz.underlying32 zbJ rfl rfl ?_;have zz:=C9.size;exact ⟨⟨x,(0,fun _=>rec0)⟩,[.int .i64 x,.slice none 0 0],rfl,.inl ⟨x,hx0,HX.out,rfl⟩,zb0 w9 x (zdz HX.out) _ _,HT1.out.bel.trans (C9.bel (fun b hb=>by simp at hb;omega) HT1.out.bel.size)⟩
 subst hx0;have HOK:=hid (WldAns.ok HX.out);have h2:d.tapes.1=2:=HOK.out.form.2.2;have hn0:(d.tapes.2 0).recs.1≤400000:=Nat.le_trans (HOK.out.few 0 (by omega)) (by decide);have hn1:(d.tapes.2 1).recs.1≤400000:=Nat.le_trans (HOK.out.few 1 (by omega)) (by decide);obtain ⟨b,hb⟩:∃ b:Bool,(b=true↔InP t 0 1):=⟨@decide (InP t 0 1) (Classical.propDecidable _),@decide_eq_true_iff _ (Classical.propDecidable _)⟩;have CB:=zcf (v:=t) (a:=0) (b:=1) hb w1;have HBB:=hid hb;clear hb
 go_wp2_with fail
 refine CB.mono ?_;rintro e wq ⟨rfl,eq⟩;obtain rfl:=eq.symm;clear CB
 cases b with
 | false=>
  have HNT:Hid (¬ InP t 0 1):=fun h=>absurd (HBB.out.2 h) (by simp)
  go_wp2_with (refine zbB 32 _ _ rfl rfl (w.heap.size+1) rfl (cs:=[.int .i64 3,.slice none 0 0]) rfl (HT1.out.b2) zbJ rfl rfl ((zb0 w1 3 (by decide) 0 0).one) ?_;intro w9 X9 C9 z9)
  refine zdd Tryz.results18 rfl X9 Tryz.underlying32 zbJ rfl rfl ?_;have zz:=C9.size;exact ⟨⟨3,(0,fun _=>rec0)⟩,[.int .i64 3,.slice none 0 0],rfl,.inr (.inl ⟨HX.out,HNT.out,rfl⟩),zb0 w9 3 (by decide) _ _,HT1.out.bel.trans (C9.bel (fun b hb=>by simp at hb;omega) HT1.out.bel.size)⟩
 | true=>
 have hIn:InP t 0 1:=HBB.out.1 (by simp);obtain ⟨T,hTe⟩:∃ T:Nat,t=(T:Int):=⟨t.toNat,by have:=hIn.1;omega⟩;subst hTe
 have hT2:T<2:=by have:=hIn.2;omega
 have HIN:=hid hIn;clear hIn HBB;have CC:=zfu d (rwW d ao1 cap1 ao2 cap2 ao3 cap3) T hi w.heap.size w1 (zam.rd_below HRD.out HT1.out.bel hhi) (by omega) HT1.out.b1 h2 hT2 hn0 hn1
 go_wp2_with fail
 refine CC.mono ?_;rintro e w2 ⟨v2,l,rfl,hCt,hrd,b2⟩;have HL:=hid hCt;have z2:w1.heap.size≤w2.heap.size:=b2.size;have CT:=zfp v2 (zbw d T l) w2.heap.size w2 hrd (Nat.le_refl _) (zeA h2 HSZ.out hCt T);have HT2:=hid (HT1.out.call b2)
 obtain ⟨a2,c2,rfl⟩:∃ a2 c2,v2=.slice a2 (zbw d T l).1 c2:=by
  obtain ⟨a2,c2,e,_⟩:=hrd;exact ⟨a2,c2,by simpa using e⟩
 clear hrd b2 hCt CC HT1
 go_wp2_with fail
 refine CT.mono ?_;rintro e w3 ⟨v3,rfl,O3,b3⟩;have HT3:=hid (HT2.out.call b3);obtain ⟨a3,c3,rfl⟩:=zgb O3;have HO3:Hid (OwnT zaw w3 w2.heap.size w3.heap.size ⟨0,zbw d T l⟩ [.int .i64 0,.slice a3 (zbw d T l).1 c3]):=zfe (n:=(zbw d T l).1) (f:=(zbw d T l).2) O3 0 (by decide);clear O3 b3 CT HT2
 go_wp2_with (refine zbB 32 _ _ rfl rfl (w.heap.size+1) rfl (cs:=[.int .i64 0,.slice a3 (zbw d T l).1 c3]) rfl (HT3.out.b2) zbJ rfl rfl (HO3.out.one) ?_;intro w9 X9 C9 z9)
 refine zdd Tryz.results18 rfl X9 Tryz.underlying32 zbJ rfl rfl ?_;have zz:=C9.size;have O9:=(HO3.out.chgk C9 (fun b hb=>by simp at hb;omega)).weaken (lo':=w.heap.size) (hi':=w9.heap.size) (by omega) zz;exact ⟨_,_,rfl,.inr (.inr ⟨HX.out,HIN.out,l,HL.out,rfl⟩),O9,HT3.out.bel.trans (C9.bel (fun b hb=>by simp at hb;omega) HT3.out.bel.size)⟩
end Go.Proofs.YthcmdnlkohdeaaaGreat
namespace Go.Proofs.YthcmdnlkohdeaaaGreat
open Go.RowKit
section
variable {ops:Array Oper} {Q:Exit→Act→World→Prop} {md:Region.Mode} {S:World→Prop} {L:Nat}
theorem zeY {o:Oper} {a:Act} (T:TypeId) (x:Operand) (ho:o.op=.load T x) (hg:o.guard=none) (b:Nat) (hx:a.eval x=.pointer (some ⟨b,0,none⟩)) {cs:List Value} (hB:∀ w,S w→Box w b cs.toArray T) {fs:Array Field} (hu:Tryz.prog.underlying T=some (.struct fs)) {n:Nat} (hi:(Tryz.prog.info? T).map (·.size)=some n) (hl:cs.length=n):YieldsIf Tryz.prog ops S o (.agg cs.toArray) a:=by
 refine .inl ⟨by simp [Region.wanted,hg],fun w hS=>?_⟩;unfold execOp
 simp only [ho,hx,Instr.loadAt,Instr.sureAddr,Sem.run_bind,Sem.run_pure,Result.andThen_ok,run_loadVar_row w b T T cs.toArray (0,0) (.struct fs) (hB w hS) hu rfl (by rw [hi];simp [hl])]
end
theorem zih (w:World):Below w.heap.size w w.drew:=⟨rfl,rfl,rfl,Nat.le_refl _,fun _ _=>rfl⟩
end Go.Proofs.YthcmdnlkohdeaaaGreat
namespace Go.Proofs.YthcmdnlkohdeaaaGreat
open Go.RowKit F256
set_option maxRecDepth 20000 in
theorem zeD:EqV zaw 10:=fun c1 c2 d h1 h2 w r1 r2 u1 u2=>by
 obtain ⟨ao1,cap1,rfl,g1,-⟩:=zb7 r1;obtain ⟨bao1,bcap1,rfl,q1,-⟩:=zb7 r2;clear r1 r2;have G1:=hid g1;have E1:=hid q1;clear g1 q1
 go_enter Tryz.func10,Tryz.ntmps10
 go_wp2_with fail
 have T0:=zaG w #[.int .i64 d.code,.slice ao1 d.recs.1 cap1] #[.int .i64 d.code,.slice bao1 d.recs.1 bcap1] 32 32;refine (zfP _ _ d.recs h1 h2 _ ((zab.slice 92).rd_below G1.out T0.bel u1) ((zab.slice 92).rd_below E1.out T0.bel u2) (Nat.le_trans u1 T0.bel.size) (Nat.le_trans u2 T0.bel.size)).mono ?_;rintro e w1 ⟨rfl,b1⟩;have T1:Two w w1 #[.int .i64 d.code,.slice ao1 d.recs.1 cap1] #[.int .i64 d.code,.slice bao1 d.recs.1 bcap1] 32 32:=T0.call b1;clear T0 b1;have B:=hid T1.bel;clear T1;go_wp2;go_ret;exact ⟨rfl,B.out⟩
end Go.Proofs.YthcmdnlkohdeaaaGreat
