/- The specification's counted records: each laid into its place, if it is not there. -/
import Derived.Lib.MinMax
import Derived.Laws.StructEq
import Derived.Test.YtajibninhikdgaaGreatZPspentai
set_option linter.unusedVariables false
set_option linter.unusedSimpArgs false
set_option maxHeartbeats 16000000
namespace Go.Proofs.YtajibninhikdgaaGreat
open Go.RowKit F256
theorem zln (tp:Nat→TapeD) {T i:Nat} (hT:T<2) (hi:i<(tp T).recs.1):recT tp 2 (lenT tp T+i)=(tp T).recs.2 i:=by
 have:T=0∨T=1:=by omega
 rcases this with rfl | rfl
 ·have h1:recT tp 2 (lenT tp 0+i)=recT tp 1 (lenT tp 0+i):=zbK _ _ (by show lenT tp 0+i<lenT tp 0+(tp 0).recs.1;omega)
  rw [h1];exact zbS _ _ _ _
 ·exact zbS _ _ _ _
theorem zkJ {k:Nat} (h:k+1<1000000000):IntKind.i64.wrap (((k+1:Nat):Int)-1)=(k:Int):=by rw [IntKind.wrap_i64];omega
set_option maxRecDepth 100000 in
theorem zfQ (d:WorldD) (cs:List Value) (hi B:Nat) (w:World) (h:zan.rd w hi d cs) (hhi:hi≤w.heap.size) (hBX:Box w B cs.toArray 38) (h2:d.tapes.1=2) (hn0:(d.tapes.2 0).recs.1≤400000) (hn1:(d.tapes.2 1).recs.1≤400000) :
 Calls Tryz.prog 19 #[.pointer (some ⟨B,0,none⟩)] w (fun e w'=>∃ v' l ce lo,e=.returned v'∧Cnt (recT d.tapes.2 2) (lenT d.tapes.2 2) l∧w.heap.size≤lo∧View zab 83 w' lo hi v' l.length (fun i=>recT d.tapes.2 2 (l.getD i 0)) ce∧Below w.heap.size w w'):=by
 obtain ⟨ao1,cap1,ao2,cap2,ao3,cap3,rfl,g1,g2,g3,k0,k4,k5⟩:=za4 h;obtain ⟨ao3',cap3',e,hmm,hc⟩:=g3
 simp only [List.cons.injEq,Value.slice.injEq,true_and,and_true] at e
 obtain ⟨rfl,rfl⟩:=e;obtain ⟨tb,toff,rfl,hbh,hel⟩:=hc (by rw [h2];simp);rw [h2] at hel;have HEL:=hid hel;have hBlt:=hBX.lt
 have HBX:Hid (w.cell? ⟨B,11,none⟩=some (.slice (some ⟨tb,toff,none⟩) 2 cap3)):=by have:=hBX.cell 11;rw [h2] at this;exact this
 obtain ⟨tp,htp⟩:∃ t,t=d.tapes.2:=⟨_,rfl⟩;rw [← htp] at HEL hn0 hn1 ⊢;clear h hc hmm g1 g2 k0 k4 k5 hel h2 hBX htp;obtain ⟨x0,hx0⟩:∃ x,x=recT tp 2:=⟨_,rfl⟩;have HX0:=hid hx0;rw [← hx0];clear hx0;have bL:=bAl w (.cells #[] 83);have V0:=View.lit0 (E:=zab) (t:=83) (fun i=>x0 (([]:List Nat).getD i 0)) (fun _=>[]) w hi;have HL:Hid (lenT tp 0=0∧lenT tp 1=(tp 0).recs.1∧lenT tp 2=(tp 0).recs.1+(tp 1).recs.1):=⟨rfl,by simp [lenT],by simp [lenT]⟩
 go_enter Tryz.func19,Tryz.ntmps19
 go_wp2
 go_loopw [3,4] (fun vo vt wr=>∃ (T lo:Nat) (l:List Nat) (co:Nat→List Value),T≤2∧vt=.int .i64 T∧w.heap.size≤lo∧lo≤wr.heap.size∧Cnt x0 (lenT tp T) l∧l.length≤lenT tp T∧View zab 83 wr lo hi vo l.length (fun i=>x0 (l.getD i 0)) co∧Below w.heap.size w wr) (fun _ i _=>2-(intOf i).toNat)
 case atStart=>exact ⟨0,w.heap.size,[],fun _=>[],by omega,rfl,Nat.le_refl _,bL.size,Cnt.nil x0,Nat.zero_le _,V0,bL⟩
 case round=>
  obtain ⟨T,lo,l,co,hT,rfl,hlo,hlow,hCt,hLl,V,bw⟩:=hrel;have HCt:=hid hCt;have HV:=hid V;have HBW:=hid bw;clear bL V0 hCt
  by_cases hlt:T<2
  ·obtain ⟨m,hm⟩:∃ m,m=(tp T).recs.1:=⟨_,rfl⟩
   have HM:=hid hm
   have hmb:m≤400000∧lenT tp T≤400000:=by
    have:T=0∨T=1:=by omega
    have h3:=HL.out
    rcases this with rfl | rfl<;>omega
   have HLS:Hid (lenT tp (T+1)=lenT tp T+m):=by rw [hm];exact rfl
   have HW0:Hid (∀ w',Below w.heap.size w w'→∃ rb cap1,w'.cell? ⟨tb,toff+T*2+1,none⟩=some (.slice rb m cap1)∧(zab.slice 83).rd w' hi (m,(tp T).recs.2) [.slice rb m cap1]):=fun w' hb=>by
    obtain ⟨ct,hy,hcell⟩:=zau (t:=79) HEL.out hb hhi hbh hlt;obtain ⟨aoT,capT,rfl,hrs⟩:=zbs hy;exact ⟨aoT,capT,by have:=hcell 1 (by decide);rw [hm];exact this,by rw [hm];exact hrs⟩
   obtain ⟨L0,hL0⟩:∃ n,n=lenT tp T:=⟨_,rfl⟩;have HL0:=hid hL0;rw [← hL0] at HCt hLl HLS hmb
   have t1:(T:Int)<2:=by omega
   have t0:(0:Int)≤(T:Int):=by omega
   clear hm bw V hL0 HEL;go_wp2
   go_loopw [3,5] (fun vo vi wr=>∃ (i lo:Nat) (l:List Nat) (co:Nat→List Value),i≤m∧vi=.int .i64 i∧w.heap.size≤lo∧lo≤wr.heap.size∧Cnt x0 (L0+i) l∧l.length≤L0+i∧View zab 83 wr lo hi vo l.length (fun i=>x0 (l.getD i 0)) co∧Below w.heap.size w wr) (fun _ i _=>m-(intOf i).toNat)
   case atStart=>exact ⟨0,lo,l,co,Nat.zero_le _,rfl,hlo,hlow,HCt.out,hLl,HV.out,HBW.out⟩
   case round=>
    clear HCt HV HBW hLl hlow hlo co lo l;obtain ⟨i,lo,l,co,hi',rfl,hlo,hlow,hCt,hLl,V,bw⟩:=hrel;obtain ⟨wi,rfl⟩:∃ y,y=wr:=⟨_,rfl⟩;obtain ⟨n,hn⟩:∃ n,n=l.length:=⟨_,rfl⟩;have HN:=hid hn;rw [← hn] at V hLl;have HCt:=hid hCt;obtain ⟨ao,cap,hvo⟩:=V.form;subst hvo;have HV:=hid V;have HBW:=hid bw;have zr:w.heap.size≤wi.heap.size:=bw.size;have xB:wi.cell? ⟨B,11,none⟩=some (.slice (some ⟨tb,toff,none⟩) 2 cap3):=(bw.cell (p:=⟨B,11,none⟩) hBlt).trans HBX.out;obtain ⟨rb,capT,xT,hrs⟩:=HW0.out wi bw;clear hCt hn V bw
    by_cases hlt2:i<m
    ·obtain ⟨cy,hS,-⟩:=zk3 hrs
     obtain ⟨b,off,hrb,hcell⟩:=hS.1 (by omega);subst hrb;have rdR:=hS.2 i hlt2;have hcR:(cy i).length=9:=zab.rd_len rdR
     have rgR:wi.rangeAt b (off+i*9) (cy i):=fun j v hv=>by
      have hj:j<9:=by rw [← hcR];exact (List.getElem?_eq_some_iff.1 hv).1
      have:=hcell i hlt2 j hj;rw [show off+(i*zab.sz+j)=off+i*9+j from (Nat.add_assoc _ _ _).symm] at this;exact this.trans hv
     obtain ⟨cR,hcRe⟩:∃ c,c=cy i:=⟨_,rfl⟩;rw [← hcRe] at rgR hcR rdR
     have hxr:(tp T).recs.2 i=x0 (L0+i):=by rw [HX0.out,HL0.out];exact (zln tp hlt (by rw [← HM.out];exact hlt2)).symm
     rw [hxr] at rdR;obtain ⟨M,hM⟩:∃ M,M=L0+i:=⟨_,rfl⟩;have HMM:=hid hM;rw [← hM] at rdR HCt;have oneR:∀ v,v∈cR→v.oneCell'=true:=zaM _ _ _ _ rdR
     have i1:(0:Int)≤(i:Int):=by omega
     have i2:(i:Int)<(m:Int):=by omega
     have bA:=bAl wi (.cells cR.toArray 83);have XA:=zao wi cR.toArray 83;have rdW:zab.rd (wi.alloc (.cells cR.toArray 83)) hi (x0 M) cR:=zab.rd_below rdR bA (by omega);clear hrs hS hcell hcRe hxr rdR hM
     go_upto_region 9 with (first | (refine wpList_load_mid rfl 83 (.tmp 35) rfl b (off+i*9) (by simp [Act.eval]) cR _ rgR Tryz.underlying83 rfl (zag hcR) ?_) | (refine zbe 83 6 (.tmp 36) cR _ 9 rfl rfl rfl rfl rfl rfl rfl rfl zeT rfl hcR oneR ?_))
     obtain ⟨W,hW⟩:∃ x,x=wi.alloc (.cells cR.toArray 83):=⟨_,rfl⟩;rw [← hW] at bA XA rdW ⊢;clear hW rgR xB xT;have VW:=HV.out.below bA (by omega);have zW':wi.heap.size<W.heap.size:=XA.lt;have CH:=zhE (.slice ao n cap) n (fun i=>x0 (l.getD i 0)) (x0 M) cR W.heap.size W (VW.rd (by omega)) (zab.rd_mono rdW (by omega)) (Nat.le_refl _) (by omega);have HXW:=hid XA;have HVW:=hid VW;have HRW:=hid rdW;have HBW2:=hid (HBW.out.trans (bA.mono zr));clear VW XA rdW bA HV HBW
     go_wp2_with (refine zaF 83 (.tmp 6) rfl rfl (wi.heap.size) rfl HXW.out Tryz.underlying83 zdI hcR ?_)
     refine CH.mono ?_;rintro ee w5 ⟨t,rfl,ht,b5⟩;have z5:W.heap.size≤w5.heap.size:=b5.size;have HV5:Hid (View zab 83 w5 lo hi (.slice ao n cap) n (fun i=>x0 (l.getD i 0)) co):=HVW.out.below b5 (by omega);have HX5:=hid (HXW.out.below b5 zW');have HR5:Hid (zab.rd w5 hi (x0 M) cR):=zab.rd_below HRW.out b5 (by omega);have HB5:Hid (Below w.heap.size w w5):=HBW2.out.trans (b5.mono (by omega))
     have HT:Hid (t=true↔¬ Fst x0 M):=by
      show t=true↔¬ Fst x0 M
      rw [ht,← HCt.out.has,HN.out];have:=(zb8 (l:=l) (al:=0) (P:=fun o=>SameR (x0 o) (x0 M))).symm
      simpa using this
     clear ht b5 CH HVW HXW HRW HBW2
     cases t with
     | true=>
      go_wp2
      go_roundw
      case rel=>exact ⟨i+1,lo,l,co,by omega,by go_num,hlo,by omega,by rw [← Nat.add_assoc,← HMM.out];exact HCt.out.skip (HT.out.1 (by simp)),by rw [← HN.out];omega,by rw [← HN.out];exact HV5.out,HB5.out⟩
      case measure=>simp [intOf];omega
     | false=>
      have HF:Hid (Fst x0 M):=Classical.byContradiction fun h=>absurd (HT.out.2 h) (by simp);clear HT;go_wp2
      go_loopw [7] (fun va wx=>∃ at_:Nat,at_≤n∧va=.int .i64 at_∧(∀ k,at_≤k→k<n→numC (x0 M) (x0 (l.getD k 0))<0)∧Below w5.heap.size w5 wx) (fun va _=>(intOf va).toNat)
      case atStart=>exact ⟨n,Nat.le_refl _,by go_num,fun k h1 h2=>by omega,Below.refl _ _⟩
      case round=>
       obtain ⟨at_,hat,rfl,hbeh,bx⟩:=hrel;obtain ⟨wx,rfl⟩:∃ y,y=wr:=⟨_,rfl⟩;have HBE:=hid hbeh;have zx:w5.heap.size≤wx.heap.size:=bx.size;have HVx:Hid (View zab 83 wx lo hi (.slice ao n cap) n (fun i=>x0 (l.getD i 0)) co):=HV5.out.below bx (by omega);have HXx:Hid (Box wx wi.heap.size cR.toArray 83):=HX5.out.below bx (by omega);have HRx:Hid (zab.rd wx hi (x0 M) cR):=zab.rd_below HR5.out bx (by omega);have HBx:Hid (Below w.heap.size w wx):=HB5.out.trans (bx.mono (by omega));have HB5x:=hid bx;have bD:Below wx.heap.size wx wx.drew:=⟨rfl,rfl,rfl,Nat.le_refl _,fun _ _=>rfl⟩;clear hbeh bx
       by_cases hat0:at_=0
       ·have d1:decide (0<at_)=false:=decide_eq_false (by omega)
        have d2:decide ((0:Int)<(at_:Int))=false:=decide_eq_false (by omega);have HS:Hid (at_=0∨¬ numC (x0 M) (x0 (l.getD (at_-1) 0))<0):=.inl hat0;clear hat0
        go_upto_region 11 with fail
        refine zax 9 (fun w'=>True) zbC trivial (fun hHeld=>?_);refine zlN 0 rfl ?_
        try simp only [Act.put,SL]
        refine zlN 1 rfl ?_
        try simp only [Act.put,SL]
        try rw [d1]
        refine zlN 2 rfl ?_
        try simp only [Act.put,SL]
        refine zlP 3 rfl ?_
        try simp only [Act.put,SL]
        refine zlP 4 rfl ?_
        try simp only [Act.put,SL]
        refine zlP 5 rfl ?_
        try simp only [Act.put,SL]
        refine zlP 6 rfl ?_
        try simp only [Act.put,SL]
        refine zlP 7 rfl ?_
        try simp only [Act.put,SL]
        refine zlP 8 rfl ?_
        try simp only [Act.put,SL]
        refine zar (i:=9) (o:=_) rfl (by kernel_rfl) (by kernel_rfl) (fun KC hKC=>?_);refine zlj (by kernel_rfl) (hKC _ _ ?_);clear hKC KC
        try simp only [Act.put,SL]
        refine zlz 10 (v:=?_) rfl ?_ ?_
        rotate_left
        ·intro w' hSw;go_simp;try with_reducible rfl
        try simp only [Act.put,SL]
        refine zas (by kernel_rfl) ?_ _;obtain ⟨w9,hw9⟩:∃ x,x=wx.drew:=⟨_,rfl⟩;rw [← hw9] at bD ⊢;have b9:Below wx.heap.size wx w9:=bD;clear bD hw9 hHeld d1 d2;have z9:wx.heap.size≤w9.heap.size:=b9.size;have V9:=(HVx.out.below b9 (by omega)).drew;have b9':Below wx.heap.size wx w9.drew:=b9.trans (show Below wx.heap.size w9 w9.drew from ⟨rfl,rfl,rfl,Nat.le_refl _,fun _ _=>rfl⟩);have X9:Box w9.drew wi.heap.size cR.toArray 83:=HXx.out.below b9' (by omega);have R9:zab.rd w9.drew hi (x0 M) cR:=zab.rd_below HRx.out b9' (by omega);have B9:Below w.heap.size w w9.drew:=HBx.out.trans (b9'.mono (by omega))
        have rg9:w9.drew.rangeAt wi.heap.size 0 cR:=fun j v hv=>by
         have:=(X9.cell j).trans (by simpa using hv);rw [Nat.zero_add];exact this
        obtain ⟨D,hD⟩:∃ D,D=w9.drew:=⟨_,rfl⟩;have HD:=hid hD;rw [← hD] at V9 X9 R9 B9 rg9
        have zD:w9.heap.size=D.heap.size:=by rw [hD];rfl
        clear hD b9 b9';obtain ⟨aU,cU,hUr,sU,hUz⟩:=V9.upto_ (show hi≤D.heap.size by omega) (al:=at_) hat;obtain ⟨aF,cF,hFr,sF,rF,hFz⟩:=V9.from_ (show hi≤D.heap.size by omega) (al:=at_) hat
        have hAU:∀ b off,aU=some ⟨b,off,none⟩→b<D.heap.size:=fun b off e=>by
         rcases V9.form2 with ⟨e3,e4⟩ | ⟨g,cp,e3,e4,hg⟩
         ·have hz:at_=0:=by omega
          have:=hUr D;rw [e3,hz,zeS D] at this
          simp only [Result.ok.injEq,Value.slice.injEq,and_true] at this
          rw [← this.1] at e
          cases e
         ·have:=hUr D
          rw [e3,zeQ g n cp at_ hat e4 D] at this
          simp only [Result.ok.injEq,Value.slice.injEq,and_true] at this
          rw [← this.1] at e
          cases e
          exact hg
        have hAF:∀ b off,aF=some ⟨b,off,none⟩→b<D.heap.size:=fun b off e=>by
         rcases V9.form2 with ⟨e3,e4⟩ | ⟨g,cp,e3,e4,hg⟩
         ·have hz:at_=0:=by omega
          have:=hFr D;rw [e3,hz,zeR D] at this
          simp only [Result.ok.injEq,Value.slice.injEq,and_true] at this
          rw [← this.1] at e
          cases e
         ·have:=hFr D
          rw [e3,zeP g n cp at_ hat D] at this
          simp only [Result.ok.injEq,Value.slice.injEq,and_true] at this
          rw [← this.1] at e
          split at e<;>cases e<;>exact hg
        have hiD:hi≤D.heap.size:=by omega
        have hpD:wi.heap.size<D.heap.size:=X9.lt
        have hatL:at_≤l.length:=by rw [← HN.out];exact hat
        have HCN:Hid (Cnt x0 (M+1) (l.take at_++M::l.drop at_)):=HCt.out.ins HF.out at_ hatL (fun k h1 h2=>HBE.out k h1 (by rw [HN.out];exact h2)) HS.out;have HRd:=hid R9;have HBD:=hid B9;have HUS:=hid sU;have HFS:=hid sF;clear V9 X9 R9 B9 sU sF rF
        go_upto_region 13 with fail
        refine zax 7 (fun w'=>w'.rangeAt wi.heap.size 0 cR) zbC (by rw [← HD.out];exact rg9) (fun hHeld=>?_);rw [← HD.out] at hHeld ⊢;refine zlN 1 rfl ?_
        try simp only [Act.put,SL]
        refine zlN 2 rfl ?_
        try simp only [Act.put,SL]
        refine zlL 3 (v:=?_) rfl ?_ ?_
        rotate_left
        ·intro w' hSw
         try rw [show (Instr.slice 30 (.slice ao n cap) none (some (.int .i64 (at_:Int))) none).run Tryz.prog w'=_ from hUr w']
         have hSl':=hUr w';go_simp
         try with_reducible rfl
        try simp only [Act.put,SL]
        refine zaf (i:=5) (oi:=_) 16 rfl (by kernel_rfl) (fun _ _ _ h=>h) (yieldsIf_load_mid (by kernel_rfl) 83 (.tmp 6) rfl wi.heap.size (0) (by simp [Act.eval,Act.put]) cR _ (fun w h=>h) Tryz.underlying83 rfl (zag hcR)) (by assumption) ?_
        try simp only [Act.put,SL]
        refine zlN 8 rfl ?_
        try simp only [Act.put,SL]
        refine zlN 9 rfl ?_
        try simp only [Act.put,SL]
        refine zlL 10 (v:=?_) rfl ?_ ?_
        rotate_left
        ·intro w' hSw
         try rw [show (Instr.slice 30 (.slice ao n cap) (some (.int .i64 (at_:Int))) none none).run Tryz.prog w'=_ from hFr w']
         have hSl':=hFr w';go_simp
         try with_reducible rfl
        try simp only [Act.put,SL]
        refine zcD (i:=0) (j:=6) (o:=_) (o':=_) rfl rfl (by kernel_rfl) (fun KC hKC=>?_) (fun KC hKC=>?_)
        ·refine zcE rfl rfl ?_
         have bA:=bAl D (.cells #[] 83);refine hKC _ _ (zaJ rg9 bA hpD) ?_;clear hKC KC
         try simp only [Act.put,SL]
         have VL:=View.lit0 (E:=zab) (t:=83) (fun i=>x0 (l.getD i 0)) co D hi;have zA1:D.heap.size<(D.alloc (.cells #[] 83)).heap.size:=(zao D #[] 83).lt;obtain ⟨D1,hD1⟩:∃ x,x=D.alloc (.cells #[] 83):=⟨_,rfl⟩;rw [← hD1] at bA VL zA1 ⊢;clear hD1;refine zcD (i:=4) (j:=6) (o:=_) (o':=_) rfl rfl (by kernel_rfl) (fun KC hKC=>?_) (fun KC hKC=>?_)
         ·skip
          obtain ⟨v4,w4,cv4,runv4,V4,bw4⟩:=zk5 (lo:=lo) HUS.out hUz hAU bA hiD (by omega) VL;refine zaQ rfl (.tmp 55) (.tmp 58) rfl (by simp [Act.eval,Act.put]) (by simp [Act.eval,Act.put]) runv4 ?_;have b4D:=bA.trans bw4;refine hKC _ _ (zaJ rg9 b4D hpD) ?_;clear hKC KC
          try simp only [Act.put,SL]
          refine za3 (i:=6) (o:=_) rfl (by kernel_rfl) (fun KC hKC=>?_);refine zbB rfl (.tmp 60) rfl HRd.out (by simp [Act.eval,Act.put]) ?_;have b6:=bAl w4 (.cells cR.toArray 83);have b6D:=b4D.trans (b6.mono b4D.size);refine hKC _ _ (zaJ rg9 b6D hpD) ?_;clear hKC KC
          try simp only [Act.put,SL]
          have V6:=V4.below b6 (by have:=b4D.size;omega);have X6:=zao w4 cR.toArray 83;obtain ⟨v7,w7,cv7,runv7,V7,bw7⟩:=zdZ b6D hiD (by omega) V6 X6 (zab.rd_below HRd.out b6D hiD);refine zar (i:=7) (o:=_) rfl (by kernel_rfl) (by kernel_rfl) (fun KC hKC=>?_);refine zaQ rfl (.tmp 59) (.tmp 61) rfl (by simp [Act.eval,Act.put]) (by simp [Act.eval,Act.put]) runv7 ?_;refine hKC _ _ ?_;clear hKC KC
          try simp only [Act.put,SL]
          have b7D:=b6D.trans bw7;obtain ⟨v8,w8,cv8,runv8,V8,bw8⟩:=zdj HFS.out hFz hAF b7D hiD (by omega) V7;refine zar (i:=11) (o:=_) rfl (by kernel_rfl) (by kernel_rfl) (fun KC hKC=>?_);refine zaQ rfl (.tmp 62) (.tmp 65) rfl (by simp [Act.eval,Act.put]) (by simp [Act.eval,Act.put]) runv8 ?_;refine hKC _ _ ?_;clear hKC KC
          try simp only [Act.put,SL]
          refine zlz 12 (v:=?_) rfl ?_ ?_
          rotate_left
          ·intro w' hSw;go_simp;try with_reducible rfl
          try simp only [Act.put,SL]
          refine zas (by kernel_rfl) ?_ _
          have HV8:Hid (View zab 83 w8 D.heap.size hi v8 (l.take at_++M::l.drop at_).length (fun i=>x0 ((l.take at_++M::l.drop at_).getD i 0)) cv8):=by
           show View _ _ _ _ _ _ _ _ _
           rw [zb2 l M at_ hatL,← HN.out];exact V8.congr (fun i _=>zdk x0 l M at_ hatL i)
          have HB8:Hid (Below w.heap.size w w8):=HBD.out.trans ((b7D.trans bw8).mono (by omega));have z8:D.heap.size≤w8.heap.size:=(b7D.trans bw8).size
          have HLn:Hid ((l.take at_++M::l.drop at_).length≤L0+(i+1)):=by
           show (l.take at_++M::l.drop at_).length≤L0+(i+1)
           rw [zb2 l M at_ hatL,← HN.out];omega
          clear V8 V7 bw7 bw8 b7D hHeld runv7 runv8 hUr hFr hUz hFz hAU hAF rg9 HUS HFS HRd HBD;go_wp2
          go_roundw
          case rel=>exact ⟨i+1,D.heap.size,l.take at_++M::l.drop at_,cv8,by omega,by go_num,by omega,z8,by rw [← Nat.add_assoc,← HMM.out];exact HCN.out,HLn.out,HV8.out,HB8.out⟩
          case measure=>simp [intOf];omega
         ·refine zbB rfl (.tmp 60) rfl HRd.out (by simp [Act.eval,Act.put]) ?_
          have b6:=bAl D1 (.cells cR.toArray 83);have b6D:=bA.trans (b6.mono bA.size);refine hKC _ _ (zaJ rg9 b6D hpD) ?_;clear hKC KC
          try simp only [Act.put,SL]
          have VL6:=VL.below b6 (by have:=bA.size;omega);have X6:=zao D1 cR.toArray 83;have z6:D1.heap.size<(D1.alloc (.cells cR.toArray 83)).heap.size:=X6.lt;have zA:=bA.size;obtain ⟨D2,hD2⟩:∃ x,x=D1.alloc (.cells cR.toArray 83):=⟨_,rfl⟩;rw [← hD2] at b6 b6D VL6 X6 z6 ⊢;clear hD2;have XK:=X6;obtain ⟨v4,w4,cv4,runv4,⟨V4,X4⟩,bw4⟩:=zfP HUS.out hUz hAU b6D hiD (by omega) VL6 X6 (fun h=>by simp [Value.ownBlock] at h;omega);refine za3 (i:=4) (o:=_) rfl (by kernel_rfl) (fun KC hKC=>?_);refine zaQ rfl (.tmp 55) (.tmp 58) rfl (by simp [Act.eval,Act.put]) (by simp [Act.eval,Act.put]) runv4 ?_;have b4D:=b6D.trans bw4;refine hKC _ _ (zaJ rg9 b4D hpD) ?_;clear hKC KC
          try simp only [Act.put,SL]
          obtain ⟨v7,w7,cv7,runv7,V7,bw7⟩:=zdZ b4D hiD (by omega) V4 X4 (zab.rd_below HRd.out b4D hiD);refine zar (i:=7) (o:=_) rfl (by kernel_rfl) (by kernel_rfl) (fun KC hKC=>?_);refine zaQ rfl (.tmp 59) (.tmp 61) rfl (by simp [Act.eval,Act.put]) (by simp [Act.eval,Act.put]) runv7 ?_;refine hKC _ _ ?_;clear hKC KC
          try simp only [Act.put,SL]
          have b7D:=b4D.trans bw7;obtain ⟨v8,w8,cv8,runv8,V8,bw8⟩:=zdj HFS.out hFz hAF b7D hiD (by omega) V7;refine zar (i:=11) (o:=_) rfl (by kernel_rfl) (by kernel_rfl) (fun KC hKC=>?_);refine zaQ rfl (.tmp 62) (.tmp 65) rfl (by simp [Act.eval,Act.put]) (by simp [Act.eval,Act.put]) runv8 ?_;refine hKC _ _ ?_;clear hKC KC
          try simp only [Act.put,SL]
          refine zlz 12 (v:=?_) rfl ?_ ?_
          rotate_left
          ·intro w' hSw;go_simp;try with_reducible rfl
          try simp only [Act.put,SL]
          refine zas (by kernel_rfl) ?_ _
          have HV8:Hid (View zab 83 w8 D.heap.size hi v8 (l.take at_++M::l.drop at_).length (fun i=>x0 ((l.take at_++M::l.drop at_).getD i 0)) cv8):=by
           show View _ _ _ _ _ _ _ _ _
           rw [zb2 l M at_ hatL,← HN.out];exact V8.congr (fun i _=>zdk x0 l M at_ hatL i)
          have HB8:Hid (Below w.heap.size w w8):=HBD.out.trans ((b7D.trans bw8).mono (by omega));have z8:D.heap.size≤w8.heap.size:=(b7D.trans bw8).size
          have HLn:Hid ((l.take at_++M::l.drop at_).length≤L0+(i+1)):=by
           show (l.take at_++M::l.drop at_).length≤L0+(i+1)
           rw [zb2 l M at_ hatL,← HN.out];omega
          clear V8 V7 bw7 bw8 b7D hHeld runv7 runv8 hUr hFr hUz hFz hAU hAF rg9 HUS HFS HRd HBD;go_wp2
          go_roundw
          case rel=>exact ⟨i+1,D.heap.size,l.take at_++M::l.drop at_,cv8,by omega,by go_num,by omega,z8,by rw [← Nat.add_assoc,← HMM.out];exact HCN.out,HLn.out,HV8.out,HB8.out⟩
          case measure=>simp [intOf];omega
        ·refine zbB rfl (.tmp 60) rfl HRd.out (by simp [Act.eval,Act.put]) ?_
         have bA:=bAl D (.cells cR.toArray 83);refine hKC _ _ (zaJ rg9 bA hpD) ?_;clear hKC KC
         try simp only [Act.put,SL]
         have XA:=zao D cR.toArray 83;have zA:D.heap.size<(D.alloc (.cells cR.toArray 83)).heap.size:=XA.lt;obtain ⟨D1,hD1⟩:∃ x,x=D.alloc (.cells cR.toArray 83):=⟨_,rfl⟩;rw [← hD1] at bA XA zA ⊢;clear hD1;refine za3 (i:=0) (o:=_) rfl (by kernel_rfl) (fun KC hKC=>?_);refine zcE rfl rfl ?_;have b6:=bAl D1 (.cells #[] 83);have b6D:=bA.trans (b6.mono bA.size);refine hKC _ _ (zaJ rg9 b6D hpD) ?_;clear hKC KC
         try simp only [Act.put,SL]
         have VL:=(View.lit0 (E:=zab) (t:=83) (fun i=>x0 (l.getD i 0)) co D1 hi).weakL (lo':=D.heap.size) (by omega);have X6:=XA.below b6 zA;obtain ⟨D2,hD2⟩:∃ x,x=D1.alloc (.cells #[] 83):=⟨_,rfl⟩;rw [← hD2] at b6 b6D VL X6 ⊢;clear hD2;obtain ⟨v4,w4,cv4,runv4,⟨V4,X4⟩,bw4⟩:=zfP HUS.out hUz hAU b6D hiD (by omega) VL X6 (fun h=>by simp [Value.ownBlock] at h;omega);refine za3 (i:=4) (o:=_) rfl (by kernel_rfl) (fun KC hKC=>?_);refine zaQ rfl (.tmp 55) (.tmp 58) rfl (by simp [Act.eval,Act.put]) (by simp [Act.eval,Act.put]) runv4 ?_;have b4D:=b6D.trans bw4;refine hKC _ _ (zaJ rg9 b4D hpD) ?_;clear hKC KC
         try simp only [Act.put,SL]
         obtain ⟨v7,w7,cv7,runv7,V7,bw7⟩:=zdZ b4D hiD (by omega) V4 X4 (zab.rd_below HRd.out b4D hiD);refine zar (i:=7) (o:=_) rfl (by kernel_rfl) (by kernel_rfl) (fun KC hKC=>?_);refine zaQ rfl (.tmp 59) (.tmp 61) rfl (by simp [Act.eval,Act.put]) (by simp [Act.eval,Act.put]) runv7 ?_;refine hKC _ _ ?_;clear hKC KC
         try simp only [Act.put,SL]
         have b7D:=b4D.trans bw7;obtain ⟨v8,w8,cv8,runv8,V8,bw8⟩:=zdj HFS.out hFz hAF b7D hiD (by omega) V7;refine zar (i:=11) (o:=_) rfl (by kernel_rfl) (by kernel_rfl) (fun KC hKC=>?_);refine zaQ rfl (.tmp 62) (.tmp 65) rfl (by simp [Act.eval,Act.put]) (by simp [Act.eval,Act.put]) runv8 ?_;refine hKC _ _ ?_;clear hKC KC
         try simp only [Act.put,SL]
         refine zlz 12 (v:=?_) rfl ?_ ?_
         rotate_left
         ·intro w' hSw;go_simp;try with_reducible rfl
         try simp only [Act.put,SL]
         refine zas (by kernel_rfl) ?_ _
         have HV8:Hid (View zab 83 w8 D.heap.size hi v8 (l.take at_++M::l.drop at_).length (fun i=>x0 ((l.take at_++M::l.drop at_).getD i 0)) cv8):=by
          show View _ _ _ _ _ _ _ _ _
          rw [zb2 l M at_ hatL,← HN.out];exact V8.congr (fun i _=>zdk x0 l M at_ hatL i)
         have HB8:Hid (Below w.heap.size w w8):=HBD.out.trans ((b7D.trans bw8).mono (by omega));have z8:D.heap.size≤w8.heap.size:=(b7D.trans bw8).size
         have HLn:Hid ((l.take at_++M::l.drop at_).length≤L0+(i+1)):=by
          show (l.take at_++M::l.drop at_).length≤L0+(i+1)
          rw [zb2 l M at_ hatL,← HN.out];omega
         clear V8 V7 bw7 bw8 b7D hHeld runv7 runv8 hUr hFr hUz hFz hAU hAF rg9 HUS HFS HRd HBD;go_wp2
         go_roundw
         case rel=>exact ⟨i+1,D.heap.size,l.take at_++M::l.drop at_,cv8,by omega,by go_num,by omega,z8,by rw [← Nat.add_assoc,← HMM.out];exact HCN.out,HLn.out,HV8.out,HB8.out⟩
         case measure=>simp [intOf];omega
       ·obtain ⟨A,hA⟩:∃ A,at_=A+1:=⟨at_-1,by omega⟩
        subst hA
        have hAn:A<n:=by omega
        have VD:=HVx.out.drew;obtain ⟨gO,cO',hgO⟩:=VD.form0 (by omega)
        have rgO:wx.drew.rangeAt gO (A*9) (co A):=by rw [hgO] at VD;exact VD.range hAn
        obtain ⟨rfl,rfl⟩:ao=some ⟨gO,0,none⟩∧cap=cO':=by simpa using hgO
        have hcO:(co A).length=9:=VD.lens A hAn;have CC0:=zhF (x0 M) (x0 (l.getD A 0)) cR (co A) hi hi wx.drew (zab.rd_below HRx.out bD (by omega)) (VD.each A hAn);obtain ⟨cO,hcOe⟩:∃ c,c=co A:=⟨_,rfl⟩;rw [← hcOe] at rgO hcO CC0;obtain ⟨t,ht⟩:∃ t,t=decide (numC (x0 M) (x0 (l.getD A 0))<0):=⟨_,rfl⟩;rw [← ht] at CC0;have HT:=hid ht
        have CC:Calls Tryz.prog 50 (#[.agg cR.toArray,.agg cO.toArray]++#[]) wx.drew fun e w'=>e=.returned (.bool t)∧Below wx.drew.heap.size wx.drew w':=by rw [Array.append_empty];exact CC0
        have rgB:wx.drew.rangeAt wi.heap.size 0 cR:=fun j v hv=>by
         have:=(HXx.out.cell j).trans (by simpa using hv);rw [Nat.zero_add];exact this
        have d1:decide (0<A+1)=true:=decide_eq_true (by omega);have d2:decide ((0:Int)<((A+1:Nat):Int))=true:=decide_eq_true (by omega);have wP:IntKind.i64.wrap (((A+1:Nat):Int)-1)=(A:Int):=zkJ (by omega)
        have wP':IntKind.i64.wrap ((A:Int)+1-1)=(A:Int):=by rw [IntKind.wrap_i64];omega
        have wA:IntKind.i64.wrap (A:Int)=(A:Int):=by rw [IntKind.wrap_i64];omega
        have i3:(0:Int)≤(A:Int):=by omega
        have i4:(A:Int)<(n:Int):=by omega
        clear CC0 ht hcOe VD hgO
        go_upto_region 11 with fail
        refine zax 9 (fun w'=>w'.rangeAt gO (A*9) cO∧w'.rangeAt wi.heap.size 0 cR) zbC ⟨rgO,rgB⟩ (fun hHeld=>?_);refine zlN 0 rfl ?_
        try simp only [Act.put,SL]
        refine zlN 1 rfl ?_
        try simp only [Act.put,SL]
        try rw [d1]
        refine zlN 2 rfl ?_
        try simp only [Act.put,SL]
        refine zaf (i:=3) (oi:=_) 16 rfl (by kernel_rfl) (fun _ _ _ h=>h) (yieldsIf_load_mid (by kernel_rfl) 83 (.tmp 6) rfl wi.heap.size (0) (by simp [Act.eval,Act.put]) cR _ (fun w h=>h.2) Tryz.underlying83 rfl (zag hcR)) (by assumption) ?_
        try simp only [Act.put,SL]
        refine zlN 4 rfl ?_
        try simp only [Act.put,SL]
        refine zlN 5 rfl ?_
        try simp only [Act.put,SL]
        refine zlN 6 rfl ?_
        try simp only [Act.put,SL]
        refine zlN 7 rfl ?_
        try simp only [Act.put,SL]
        refine zaf (i:=8) (oi:=_) 16 rfl (by kernel_rfl) (fun _ _ _ h=>h) (yieldsIf_load_mid (by kernel_rfl) 83 (.tmp 49) rfl gO (A*9) (by simp [Act.eval,Act.put]) cO _ (fun w h=>h.1) Tryz.underlying83 rfl (zag hcO)) (by assumption) ?_
        try simp only [Act.put,SL]
        refine zar (i:=9) (o:=_) rfl (by kernel_rfl) (by kernel_rfl) (fun KC hKC=>?_);refine zaY (by kernel_rfl) (.func 50) 50 #[] _ _ rfl (by simp [Act.eval,Act.put]) #[.agg cR.toArray,.agg cO.toArray] (by simp [Act.eval,Act.put]) Tryz.func50 (by kernel_rfl) (by kernel_rfl) CC ?_;rintro ee w9 ⟨rfl,b9d⟩;refine ⟨_,rfl,?_⟩;refine hKC _ _ ?_;clear hKC KC
        try simp only [Act.put,SL]
        refine zlz 10 (v:=?_) rfl ?_ ?_
        rotate_left
        ·intro w' hSw;go_simp;try with_reducible rfl
        try simp only [Act.put,SL]
        refine zas (by kernel_rfl) ?_ _;have b9:Below wx.heap.size wx w9:=bD.trans b9d;clear bD hHeld d1 d2 CC rgO rgB hcO b9d
        cases t with
        | true=>
         go_wp2
         go_roundw
         case rel=>exact ⟨A,by omega,by go_num,fun k h1 h2=>by
          by_cases c:k=A
          ·rw [c];simpa using HT.out
          ·exact HBE.out k (by omega) h2,HB5x.out.trans (b9.mono zx)⟩
         case measure=>simp [intOf]
        | false=>
         have HS:Hid (A+1=0∨¬ numC (x0 M) (x0 (l.getD (A+1-1) 0))<0):=.inr (by simpa using HT.out);obtain ⟨at_,hate⟩:∃ a,a=A+1:=⟨_,rfl⟩;rw [← hate] at HS HBE hat ⊢;clear hate HT wP wP' wA hat0;have z9:wx.heap.size≤w9.heap.size:=b9.size;have V9:=(HVx.out.below b9 (by omega)).drew;have b9':Below wx.heap.size wx w9.drew:=b9.trans (show Below wx.heap.size w9 w9.drew from ⟨rfl,rfl,rfl,Nat.le_refl _,fun _ _=>rfl⟩);have X9:Box w9.drew wi.heap.size cR.toArray 83:=HXx.out.below b9' (by omega);have R9:zab.rd w9.drew hi (x0 M) cR:=zab.rd_below HRx.out b9' (by omega);have B9:Below w.heap.size w w9.drew:=HBx.out.trans (b9'.mono (by omega))
         have rg9:w9.drew.rangeAt wi.heap.size 0 cR:=fun j v hv=>by
          have:=(X9.cell j).trans (by simpa using hv);rw [Nat.zero_add];exact this
         obtain ⟨D,hD⟩:∃ D,D=w9.drew:=⟨_,rfl⟩;have HD:=hid hD;rw [← hD] at V9 X9 R9 B9 rg9
         have zD:w9.heap.size=D.heap.size:=by rw [hD];rfl
         clear hD b9 b9';obtain ⟨aU,cU,hUr,sU,hUz⟩:=V9.upto_ (show hi≤D.heap.size by omega) (al:=at_) hat;obtain ⟨aF,cF,hFr,sF,rF,hFz⟩:=V9.from_ (show hi≤D.heap.size by omega) (al:=at_) hat
         have hAU:∀ b off,aU=some ⟨b,off,none⟩→b<D.heap.size:=fun b off e=>by
          rcases V9.form2 with ⟨e3,e4⟩ | ⟨g,cp,e3,e4,hg⟩
          ·have hz:at_=0:=by omega
           have:=hUr D;rw [e3,hz,zeS D] at this
           simp only [Result.ok.injEq,Value.slice.injEq,and_true] at this
           rw [← this.1] at e
           cases e
          ·have:=hUr D
           rw [e3,zeQ g n cp at_ hat e4 D] at this
           simp only [Result.ok.injEq,Value.slice.injEq,and_true] at this
           rw [← this.1] at e
           cases e
           exact hg
         have hAF:∀ b off,aF=some ⟨b,off,none⟩→b<D.heap.size:=fun b off e=>by
          rcases V9.form2 with ⟨e3,e4⟩ | ⟨g,cp,e3,e4,hg⟩
          ·have hz:at_=0:=by omega
           have:=hFr D;rw [e3,hz,zeR D] at this
           simp only [Result.ok.injEq,Value.slice.injEq,and_true] at this
           rw [← this.1] at e
           cases e
          ·have:=hFr D
           rw [e3,zeP g n cp at_ hat D] at this
           simp only [Result.ok.injEq,Value.slice.injEq,and_true] at this
           rw [← this.1] at e
           split at e<;>cases e<;>exact hg
         have hiD:hi≤D.heap.size:=by omega
         have hpD:wi.heap.size<D.heap.size:=X9.lt
         have hatL:at_≤l.length:=by rw [← HN.out];exact hat
         have HCN:Hid (Cnt x0 (M+1) (l.take at_++M::l.drop at_)):=HCt.out.ins HF.out at_ hatL (fun k h1 h2=>HBE.out k h1 (by rw [HN.out];exact h2)) HS.out;have HRd:=hid R9;have HBD:=hid B9;have HUS:=hid sU;have HFS:=hid sF;clear V9 X9 R9 B9 sU sF rF
         go_upto_region 13 with fail
         refine zax 7 (fun w'=>w'.rangeAt wi.heap.size 0 cR) zbC (by rw [← HD.out];exact rg9) (fun hHeld=>?_);rw [← HD.out] at hHeld ⊢;refine zlN 1 rfl ?_
         try simp only [Act.put,SL]
         refine zlN 2 rfl ?_
         try simp only [Act.put,SL]
         refine zlL 3 (v:=?_) rfl ?_ ?_
         rotate_left
         ·intro w' hSw
          try rw [show (Instr.slice 30 (.slice (some ⟨gO,0,none⟩) n cap) none (some (.int .i64 (at_:Int))) none).run Tryz.prog w'=_ from hUr w']
          have hSl':=hUr w';go_simp
          try with_reducible rfl
         try simp only [Act.put,SL]
         refine zaf (i:=5) (oi:=_) 16 rfl (by kernel_rfl) (fun _ _ _ h=>h) (yieldsIf_load_mid (by kernel_rfl) 83 (.tmp 6) rfl wi.heap.size (0) (by simp [Act.eval,Act.put]) cR _ (fun w h=>h) Tryz.underlying83 rfl (zag hcR)) (by assumption) ?_
         try simp only [Act.put,SL]
         refine zlN 8 rfl ?_
         try simp only [Act.put,SL]
         refine zlN 9 rfl ?_
         try simp only [Act.put,SL]
         refine zlL 10 (v:=?_) rfl ?_ ?_
         rotate_left
         ·intro w' hSw
          try rw [show (Instr.slice 30 (.slice (some ⟨gO,0,none⟩) n cap) (some (.int .i64 (at_:Int))) none none).run Tryz.prog w'=_ from hFr w']
          have hSl':=hFr w';go_simp
          try with_reducible rfl
         try simp only [Act.put,SL]
         refine zcD (i:=0) (j:=6) (o:=_) (o':=_) rfl rfl (by kernel_rfl) (fun KC hKC=>?_) (fun KC hKC=>?_)
         ·refine zcE rfl rfl ?_
          have bA:=bAl D (.cells #[] 83);refine hKC _ _ (zaJ rg9 bA hpD) ?_;clear hKC KC
          try simp only [Act.put,SL]
          have VL:=View.lit0 (E:=zab) (t:=83) (fun i=>x0 (l.getD i 0)) co D hi;have zA1:D.heap.size<(D.alloc (.cells #[] 83)).heap.size:=(zao D #[] 83).lt;obtain ⟨D1,hD1⟩:∃ x,x=D.alloc (.cells #[] 83):=⟨_,rfl⟩;rw [← hD1] at bA VL zA1 ⊢;clear hD1;refine zcD (i:=4) (j:=6) (o:=_) (o':=_) rfl rfl (by kernel_rfl) (fun KC hKC=>?_) (fun KC hKC=>?_)
          ·skip
           obtain ⟨v4,w4,cv4,runv4,V4,bw4⟩:=zk5 (lo:=lo) HUS.out hUz hAU bA hiD (by omega) VL;refine zaQ rfl (.tmp 55) (.tmp 58) rfl (by simp [Act.eval,Act.put]) (by simp [Act.eval,Act.put]) runv4 ?_;have b4D:=bA.trans bw4;refine hKC _ _ (zaJ rg9 b4D hpD) ?_;clear hKC KC
           try simp only [Act.put,SL]
           refine za3 (i:=6) (o:=_) rfl (by kernel_rfl) (fun KC hKC=>?_);refine zbB rfl (.tmp 60) rfl HRd.out (by simp [Act.eval,Act.put]) ?_;have b6:=bAl w4 (.cells cR.toArray 83);have b6D:=b4D.trans (b6.mono b4D.size);refine hKC _ _ (zaJ rg9 b6D hpD) ?_;clear hKC KC
           try simp only [Act.put,SL]
           have V6:=V4.below b6 (by have:=b4D.size;omega);have X6:=zao w4 cR.toArray 83;obtain ⟨v7,w7,cv7,runv7,V7,bw7⟩:=zdZ b6D hiD (by omega) V6 X6 (zab.rd_below HRd.out b6D hiD);refine zar (i:=7) (o:=_) rfl (by kernel_rfl) (by kernel_rfl) (fun KC hKC=>?_);refine zaQ rfl (.tmp 59) (.tmp 61) rfl (by simp [Act.eval,Act.put]) (by simp [Act.eval,Act.put]) runv7 ?_;refine hKC _ _ ?_;clear hKC KC
           try simp only [Act.put,SL]
           have b7D:=b6D.trans bw7;obtain ⟨v8,w8,cv8,runv8,V8,bw8⟩:=zdj HFS.out hFz hAF b7D hiD (by omega) V7;refine zar (i:=11) (o:=_) rfl (by kernel_rfl) (by kernel_rfl) (fun KC hKC=>?_);refine zaQ rfl (.tmp 62) (.tmp 65) rfl (by simp [Act.eval,Act.put]) (by simp [Act.eval,Act.put]) runv8 ?_;refine hKC _ _ ?_;clear hKC KC
           try simp only [Act.put,SL]
           refine zlz 12 (v:=?_) rfl ?_ ?_
           rotate_left
           ·intro w' hSw;go_simp;try with_reducible rfl
           try simp only [Act.put,SL]
           refine zas (by kernel_rfl) ?_ _
           have HV8:Hid (View zab 83 w8 D.heap.size hi v8 (l.take at_++M::l.drop at_).length (fun i=>x0 ((l.take at_++M::l.drop at_).getD i 0)) cv8):=by
            show View _ _ _ _ _ _ _ _ _
            rw [zb2 l M at_ hatL,← HN.out];exact V8.congr (fun i _=>zdk x0 l M at_ hatL i)
           have HB8:Hid (Below w.heap.size w w8):=HBD.out.trans ((b7D.trans bw8).mono (by omega));have z8:D.heap.size≤w8.heap.size:=(b7D.trans bw8).size
           have HLn:Hid ((l.take at_++M::l.drop at_).length≤L0+(i+1)):=by
            show (l.take at_++M::l.drop at_).length≤L0+(i+1)
            rw [zb2 l M at_ hatL,← HN.out];omega
           clear V8 V7 bw7 bw8 b7D hHeld runv7 runv8 hUr hFr hUz hFz hAU hAF rg9 HUS HFS HRd HBD;go_wp2
           go_roundw
           case rel=>exact ⟨i+1,D.heap.size,l.take at_++M::l.drop at_,cv8,by omega,by go_num,by omega,z8,by rw [← Nat.add_assoc,← HMM.out];exact HCN.out,HLn.out,HV8.out,HB8.out⟩
           case measure=>simp [intOf];omega
          ·refine zbB rfl (.tmp 60) rfl HRd.out (by simp [Act.eval,Act.put]) ?_
           have b6:=bAl D1 (.cells cR.toArray 83);have b6D:=bA.trans (b6.mono bA.size);refine hKC _ _ (zaJ rg9 b6D hpD) ?_;clear hKC KC
           try simp only [Act.put,SL]
           have VL6:=VL.below b6 (by have:=bA.size;omega);have X6:=zao D1 cR.toArray 83;have z6:D1.heap.size<(D1.alloc (.cells cR.toArray 83)).heap.size:=X6.lt;have zA:=bA.size;obtain ⟨D2,hD2⟩:∃ x,x=D1.alloc (.cells cR.toArray 83):=⟨_,rfl⟩;rw [← hD2] at b6 b6D VL6 X6 z6 ⊢;clear hD2;have XK:=X6;obtain ⟨v4,w4,cv4,runv4,⟨V4,X4⟩,bw4⟩:=zfP HUS.out hUz hAU b6D hiD (by omega) VL6 X6 (fun h=>by simp [Value.ownBlock] at h;omega);refine za3 (i:=4) (o:=_) rfl (by kernel_rfl) (fun KC hKC=>?_);refine zaQ rfl (.tmp 55) (.tmp 58) rfl (by simp [Act.eval,Act.put]) (by simp [Act.eval,Act.put]) runv4 ?_;have b4D:=b6D.trans bw4;refine hKC _ _ (zaJ rg9 b4D hpD) ?_;clear hKC KC
           try simp only [Act.put,SL]
           obtain ⟨v7,w7,cv7,runv7,V7,bw7⟩:=zdZ b4D hiD (by omega) V4 X4 (zab.rd_below HRd.out b4D hiD);refine zar (i:=7) (o:=_) rfl (by kernel_rfl) (by kernel_rfl) (fun KC hKC=>?_);refine zaQ rfl (.tmp 59) (.tmp 61) rfl (by simp [Act.eval,Act.put]) (by simp [Act.eval,Act.put]) runv7 ?_;refine hKC _ _ ?_;clear hKC KC
           try simp only [Act.put,SL]
           have b7D:=b4D.trans bw7;obtain ⟨v8,w8,cv8,runv8,V8,bw8⟩:=zdj HFS.out hFz hAF b7D hiD (by omega) V7;refine zar (i:=11) (o:=_) rfl (by kernel_rfl) (by kernel_rfl) (fun KC hKC=>?_);refine zaQ rfl (.tmp 62) (.tmp 65) rfl (by simp [Act.eval,Act.put]) (by simp [Act.eval,Act.put]) runv8 ?_;refine hKC _ _ ?_;clear hKC KC
           try simp only [Act.put,SL]
           refine zlz 12 (v:=?_) rfl ?_ ?_
           rotate_left
           ·intro w' hSw;go_simp;try with_reducible rfl
           try simp only [Act.put,SL]
           refine zas (by kernel_rfl) ?_ _
           have HV8:Hid (View zab 83 w8 D.heap.size hi v8 (l.take at_++M::l.drop at_).length (fun i=>x0 ((l.take at_++M::l.drop at_).getD i 0)) cv8):=by
            show View _ _ _ _ _ _ _ _ _
            rw [zb2 l M at_ hatL,← HN.out];exact V8.congr (fun i _=>zdk x0 l M at_ hatL i)
           have HB8:Hid (Below w.heap.size w w8):=HBD.out.trans ((b7D.trans bw8).mono (by omega));have z8:D.heap.size≤w8.heap.size:=(b7D.trans bw8).size
           have HLn:Hid ((l.take at_++M::l.drop at_).length≤L0+(i+1)):=by
            show (l.take at_++M::l.drop at_).length≤L0+(i+1)
            rw [zb2 l M at_ hatL,← HN.out];omega
           clear V8 V7 bw7 bw8 b7D hHeld runv7 runv8 hUr hFr hUz hFz hAU hAF rg9 HUS HFS HRd HBD;go_wp2
           go_roundw
           case rel=>exact ⟨i+1,D.heap.size,l.take at_++M::l.drop at_,cv8,by omega,by go_num,by omega,z8,by rw [← Nat.add_assoc,← HMM.out];exact HCN.out,HLn.out,HV8.out,HB8.out⟩
           case measure=>simp [intOf];omega
         ·refine zbB rfl (.tmp 60) rfl HRd.out (by simp [Act.eval,Act.put]) ?_
          have bA:=bAl D (.cells cR.toArray 83);refine hKC _ _ (zaJ rg9 bA hpD) ?_;clear hKC KC
          try simp only [Act.put,SL]
          have XA:=zao D cR.toArray 83;have zA:D.heap.size<(D.alloc (.cells cR.toArray 83)).heap.size:=XA.lt;obtain ⟨D1,hD1⟩:∃ x,x=D.alloc (.cells cR.toArray 83):=⟨_,rfl⟩;rw [← hD1] at bA XA zA ⊢;clear hD1;refine za3 (i:=0) (o:=_) rfl (by kernel_rfl) (fun KC hKC=>?_);refine zcE rfl rfl ?_;have b6:=bAl D1 (.cells #[] 83);have b6D:=bA.trans (b6.mono bA.size);refine hKC _ _ (zaJ rg9 b6D hpD) ?_;clear hKC KC
          try simp only [Act.put,SL]
          have VL:=(View.lit0 (E:=zab) (t:=83) (fun i=>x0 (l.getD i 0)) co D1 hi).weakL (lo':=D.heap.size) (by omega);have X6:=XA.below b6 zA;obtain ⟨D2,hD2⟩:∃ x,x=D1.alloc (.cells #[] 83):=⟨_,rfl⟩;rw [← hD2] at b6 b6D VL X6 ⊢;clear hD2;obtain ⟨v4,w4,cv4,runv4,⟨V4,X4⟩,bw4⟩:=zfP HUS.out hUz hAU b6D hiD (by omega) VL X6 (fun h=>by simp [Value.ownBlock] at h;omega);refine za3 (i:=4) (o:=_) rfl (by kernel_rfl) (fun KC hKC=>?_);refine zaQ rfl (.tmp 55) (.tmp 58) rfl (by simp [Act.eval,Act.put]) (by simp [Act.eval,Act.put]) runv4 ?_;have b4D:=b6D.trans bw4;refine hKC _ _ (zaJ rg9 b4D hpD) ?_;clear hKC KC
          try simp only [Act.put,SL]
          obtain ⟨v7,w7,cv7,runv7,V7,bw7⟩:=zdZ b4D hiD (by omega) V4 X4 (zab.rd_below HRd.out b4D hiD);refine zar (i:=7) (o:=_) rfl (by kernel_rfl) (by kernel_rfl) (fun KC hKC=>?_);refine zaQ rfl (.tmp 59) (.tmp 61) rfl (by simp [Act.eval,Act.put]) (by simp [Act.eval,Act.put]) runv7 ?_;refine hKC _ _ ?_;clear hKC KC
          try simp only [Act.put,SL]
          have b7D:=b4D.trans bw7;obtain ⟨v8,w8,cv8,runv8,V8,bw8⟩:=zdj HFS.out hFz hAF b7D hiD (by omega) V7;refine zar (i:=11) (o:=_) rfl (by kernel_rfl) (by kernel_rfl) (fun KC hKC=>?_);refine zaQ rfl (.tmp 62) (.tmp 65) rfl (by simp [Act.eval,Act.put]) (by simp [Act.eval,Act.put]) runv8 ?_;refine hKC _ _ ?_;clear hKC KC
          try simp only [Act.put,SL]
          refine zlz 12 (v:=?_) rfl ?_ ?_
          rotate_left
          ·intro w' hSw;go_simp;try with_reducible rfl
          try simp only [Act.put,SL]
          refine zas (by kernel_rfl) ?_ _
          have HV8:Hid (View zab 83 w8 D.heap.size hi v8 (l.take at_++M::l.drop at_).length (fun i=>x0 ((l.take at_++M::l.drop at_).getD i 0)) cv8):=by
           show View _ _ _ _ _ _ _ _ _
           rw [zb2 l M at_ hatL,← HN.out];exact V8.congr (fun i _=>zdk x0 l M at_ hatL i)
          have HB8:Hid (Below w.heap.size w w8):=HBD.out.trans ((b7D.trans bw8).mono (by omega));have z8:D.heap.size≤w8.heap.size:=(b7D.trans bw8).size
          have HLn:Hid ((l.take at_++M::l.drop at_).length≤L0+(i+1)):=by
           show (l.take at_++M::l.drop at_).length≤L0+(i+1)
           rw [zb2 l M at_ hatL,← HN.out];omega
          clear V8 V7 bw7 bw8 b7D hHeld runv7 runv8 hUr hFr hUz hFz hAU hAF rg9 HUS HFS HRd HBD;go_wp2
          go_roundw
          case rel=>exact ⟨i+1,D.heap.size,l.take at_++M::l.drop at_,cv8,by omega,by go_num,by omega,z8,by rw [← Nat.add_assoc,← HMM.out];exact HCN.out,HLn.out,HV8.out,HB8.out⟩
          case measure=>simp [intOf];omega
    ·obtain rfl:i=m:=by omega
     clear hrs hlt2;go_wp2
     go_roundw
     case rel=>exact ⟨T+1,lo,l,co,by omega,by go_num,hlo,hlow,by rw [HLS.out];exact HCt.out,by rw [HLS.out,← HN.out];exact hLl,by rw [← HN.out];exact HV.out,HBW.out⟩
     case measure=>simp [intOf];omega
  ·obtain rfl:T=2:=by omega
   clear hlt bw;go_wp2;go_ret;exact ⟨_,l,co,lo,rfl,HCt.out,hlo,HV.out,HBW.out⟩
theorem zj0 (v:Value) (n:Nat) (g:Nat→Int) (hi:Nat) (x:Int) (w:World) (r:RdI w hi v n g) :
 Calls Tryz.prog 142 #[v,.int .i64 x] w fun e w'=>∃ z:Int,e=.returned (.int .i64 z)∧(0≤z↔∃ t,t<n∧g t=x)∧w'=w:=by
 obtain ⟨ao,cap,rfl,hm,hc⟩:=r;unfold maxLen at hm
 go_enter Tryz.func142,Tryz.ntmps142
 go_wp2
 go_loop [8] (fun i=>∃ k:Nat,k≤n∧i=.int .i64 k∧∀ i,i<k→g i≠x) (fun i=>n-(intOf i).toNat)
 case atStart=>exact ⟨0,Nat.zero_le _,rfl,fun i hi=>by omega⟩
 case round=>
  obtain ⟨k,hk,rfl,hall⟩:=hrel;have HALL:=hid hall;clear hall
  by_cases hlt:k<n
  ·obtain ⟨b,off,rfl,hblt,hcell⟩:=hc (by omega)
   have hck:w.cell? ⟨b,off+k,none⟩=some (.int .i64 (g k)):=hcell k hlt;obtain ⟨y,hy⟩:∃ y,y=g k:=⟨_,rfl⟩;have HY:=hid hy;rw [← hy] at hck;clear hc hcell hy
   by_cases heq:x=y
   ·have HP:Hid (0≤(k:Int)↔∃ t,t<n∧g t=x):=⟨fun _=>⟨k,hlt,by rw [← HY.out,heq]⟩,fun _=>by omega⟩
    have te:(x==y)=true:=by simp [heq]
    clear heq;go_wp2;go_ret;exact ⟨_,rfl,HP.out,rfl⟩
   ·have te:(x==y)=false:=by simp [heq]
    have HN:Hid (g k≠x):=by show g k≠x;rw [← HY.out];exact fun h=>heq h.symm
    clear heq;go_wp2
    go_round
    case rel=>exact ⟨k+1,by omega,by go_num,fun i hi=>by
     by_cases c:i=k
     ·rw [c];exact HN.out
     ·exact HALL.out i (by omega)⟩
    case measure=>simp [intOf];omega
  ·obtain rfl:k=n:=by omega
   have HP:Hid (0≤(-1:Int)↔∃ t,t<k∧g t=x):=⟨fun h=>by omega,fun ⟨t,ht,he⟩=>absurd he (HALL.out t ht)⟩;clear hc;go_wp2;go_ret;exact ⟨-1,rfl,HP.out,rfl⟩
theorem zgM (v:Value) (n:Nat) (g:Nat→Int) (hi:Nat) (x:Int) (w:World) (r:RdI w hi v n g) :
 Calls Tryz.prog 125 #[v,.int .i64 x] w (zaT (∃ t,t<n∧g t=x) w):=by
 have C:=zj0 v n g hi x w r;obtain ⟨ao,cap,rfl,hm,hc⟩:=r;clear hc hm;have HI:=hid C;clear C;obtain ⟨P,hP⟩:∃ P:Prop,P=∃ t,t<n∧g t=x:=⟨_,rfl⟩;rw [← hP] at HI ⊢;clear hP
 go_enter Tryz.func125,Tryz.ntmps125
 go_wp2_with fail
 refine HI.out.mono ?_;rintro e w1 ⟨z,rfl,hz,hw1⟩;obtain rfl:=hw1.symm;have HZ:=hid hz;clear hz HI
 by_cases h0:0≤z
 ·have HP:Hid P:=HZ.out.mp h0
  go_wp2;go_ret;exact zaC rfl HP.out (Below.refl _ _)
 ·have HP:Hid (¬ P):=fun h=>h0 (HZ.out.mpr h)
  have td:decide (0≤z)=false:=by simp;omega
  clear h0;go_wp2;go_ret;exact zak rfl HP.out (Below.refl _ _)
theorem zhG (x a b:Int) (w:World) :
 Calls Tryz.prog 123 #[.int .i64 x,.int .i64 a,.int .i64 b] w fun e w'=>e=.returned (.int .i64 (max a (min x b)))∧w'=w:=by
 go_enter Tryz.func123,Tryz.ntmps123
 go_wp2;go_ret;exact ⟨rfl,rfl⟩
def zaK (x a b:Int):Int:=max a (min x b)
theorem zbL (x a b:Int) (h:a≤b):x=zaK x a b↔a≤x∧x≤b:=by
 unfold zaK;omega
theorem zbM (x a b:Int) (w:World) :
 Calls Tryz.prog 123 #[.int .i64 x,.int .i64 a,.int .i64 b] w fun e w'=>e=.returned (.int .i64 (zaK x a b))∧w'=w:=zhG x a b w
set_option maxRecDepth 20000 in
theorem zei (a0 a1 a2 a3 a4 a5 a6 a7 a8:Int) (w:World) :
 Calls Tryz.prog 95 #[.agg #[.int .i64 a0,.int .i64 a1,.int .i64 a2,.int .i64 a3,.int .i64 a4,.int .i64 a5,.int .i64 a6,.int .i64 a7,.int .i64 a8]] w fun e w'=>e=.returned (.agg #[.int .i64 (zaK a0 1 4),.int .i64 (zaK a1 0 2),.int .i64 (zaK a2 1 3),.int .i64 (zaK a3 0 2),.int .i64 (zaK a4 1 6),.int .i64 (zaK a5 1 6),.int .i64 (zaK a6 1 4),.int .i64 (zaK a7 1 6),.int .i64 (zaK a8 0 400)])∧Below w.heap.size w w':=by
 go_enter Tryz.func95,Tryz.ntmps95
 go_wp2_with fail
 have XA:=(zao w #[.int .i64 a0,.int .i64 a1,.int .i64 a2,.int .i64 a3,.int .i64 a4,.int .i64 a5,.int .i64 a6,.int .i64 a7,.int .i64 a8] 34).allocd (.cells #[.int .i64 0,.int .i64 0,.int .i64 0,.int .i64 0,.int .i64 0,.int .i64 0,.int .i64 0,.int .i64 0,.int .i64 0] 34);have XZ:=zao (w.alloc (.cells #[.int .i64 a0,.int .i64 a1,.int .i64 a2,.int .i64 a3,.int .i64 a4,.int .i64 a5,.int .i64 a6,.int .i64 a7,.int .i64 a8] 34)) #[.int .i64 0,.int .i64 0,.int .i64 0,.int .i64 0,.int .i64 0,.int .i64 0,.int .i64 0,.int .i64 0,.int .i64 0] 34
 have hz:(w.alloc (.cells #[.int .i64 a0,.int .i64 a1,.int .i64 a2,.int .i64 a3,.int .i64 a4,.int .i64 a5,.int .i64 a6,.int .i64 a7,.int .i64 a8] 34)).heap.size=w.heap.size+1:=by simp
 rw [hz] at XZ;have BA:Below w.heap.size w ((w.alloc (.cells #[.int .i64 a0,.int .i64 a1,.int .i64 a2,.int .i64 a3,.int .i64 a4,.int .i64 a5,.int .i64 a6,.int .i64 a7,.int .i64 a8] 34)).alloc (.cells #[.int .i64 0,.int .i64 0,.int .i64 0,.int .i64 0,.int .i64 0,.int .i64 0,.int .i64 0,.int .i64 0,.int .i64 0] 34)):=((Below.refl _ _).alloc (Nat.le_refl _) _).alloc (by simp) _;obtain ⟨wA,hwA⟩:∃ x,x=(w.alloc (.cells #[.int .i64 a0,.int .i64 a1,.int .i64 a2,.int .i64 a3,.int .i64 a4,.int .i64 a5,.int .i64 a6,.int .i64 a7,.int .i64 a8] 34)).alloc (.cells #[.int .i64 0,.int .i64 0,.int .i64 0,.int .i64 0,.int .i64 0,.int .i64 0,.int .i64 0,.int .i64 0,.int .i64 0] 34):=⟨_,rfl⟩;rw [← hwA] at XA XZ BA ⊢;clear hwA hz;refine wp_region_still_tail 28 (by kernel_rfl) (by kernel_rfl) ?_;have XA':Box { wA with drawn:=wA.drawn+1 } w.heap.size #[.int .i64 a0,.int .i64 a1,.int .i64 a2,.int .i64 a3,.int .i64 a4,.int .i64 a5,.int .i64 a6,.int .i64 a7,.int .i64 a8] 34:=XA;have XZ':Box { wA with drawn:=wA.drawn+1 } (w.heap.size+1) #[.int .i64 0,.int .i64 0,.int .i64 0,.int .i64 0,.int .i64 0,.int .i64 0,.int .i64 0,.int .i64 0,.int .i64 0] 34:=XZ;have BA':Below w.heap.size w { wA with drawn:=wA.drawn+1 }:=⟨BA.os,BA.tape,BA.output,BA.size,BA.block⟩;obtain ⟨wB,hwB⟩:∃ x:World,x={ wA with drawn:=wA.drawn+1 }:=⟨_,rfl⟩;rw [← hwB] at XA' XZ' BA' ⊢;clear XA XZ BA hwB;obtain ⟨x0,x1,x2,x3,x4,x5,x6,x7,x8⟩:=box9 XA';obtain ⟨y0,y1,y2,y3,y4,y5,y6,y7,y8⟩:=box9 XZ'
 simp only [List.take_succ_cons,List.take_zero,List.drop_succ_cons,List.drop_zero]
 still_step
 still_step
 still_call (zbM _ _ _ _)
 still_step
 still_step
 still_call (zbM _ _ _ _)
 still_step
 still_step
 still_call (zbM _ _ _ _)
 still_step
 still_step
 still_call (zbM _ _ _ _)
 still_step
 still_step
 still_call (zbM _ _ _ _)
 still_step
 still_step
 still_call (zbM _ _ _ _)
 still_step
 still_step
 still_call (zbM _ _ _ _)
 still_step
 still_step
 still_call (zbM _ _ _ _)
 still_step
 still_step
 still_call (zbM _ _ _ _)
 still_step
 refine wpStill_nil ?_;have z0:wB.frozen? ⟨w.heap.size+1,0,none⟩=false:=XZ'.frozen 0;have z1:wB.frozen? ⟨w.heap.size+1,1,none⟩=false:=XZ'.frozen 1;have z2:wB.frozen? ⟨w.heap.size+1,2,none⟩=false:=XZ'.frozen 2;have z3:wB.frozen? ⟨w.heap.size+1,3,none⟩=false:=XZ'.frozen 3;have z4:wB.frozen? ⟨w.heap.size+1,4,none⟩=false:=XZ'.frozen 4;have z5:wB.frozen? ⟨w.heap.size+1,5,none⟩=false:=XZ'.frozen 5;have z6:wB.frozen? ⟨w.heap.size+1,6,none⟩=false:=XZ'.frozen 6;have z7:wB.frozen? ⟨w.heap.size+1,7,none⟩=false:=XZ'.frozen 7;have z8:wB.frozen? ⟨w.heap.size+1,8,none⟩=false:=XZ'.frozen 8;go_wp2;refine bodyPost_ret (v:=.agg #[.int .i64 (zaK a0 1 4),.int .i64 (zaK a1 0 2),.int .i64 (zaK a2 1 3),.int .i64 (zaK a3 0 2),.int .i64 (zaK a4 1 6),.int .i64 (zaK a5 1 6),.int .i64 (zaK a6 1 4),.int .i64 (zaK a7 1 6),.int .i64 (zaK a8 0 400)]) (by simp [results,Tryz.results95,go_sem,y0,y1,y2,y3,y4,y5,y6,y7,y8]) rfl ⟨rfl,?_⟩;exact (((((((((BA'.setCell (Nat.le_succ _) _).setCell (Nat.le_succ _) _).setCell (Nat.le_succ _) _).setCell (Nat.le_succ _) _).setCell (Nat.le_succ _) _).setCell (Nat.le_succ _) _).setCell (Nat.le_succ _) _).setCell (Nat.le_succ _) _).setCell (Nat.le_succ _) _)
theorem zgN (a0 a1 a2 a3 a4 a5 a6 a7 a8:Int) (w:World):(Op.equalIn 10000 34 (.agg #[.int .i64 a0,.int .i64 a1,.int .i64 a2,.int .i64 a3,.int .i64 a4,.int .i64 a5,.int .i64 a6,.int .i64 a7,.int .i64 a8]) (.agg #[.int .i64 a0,.int .i64 a1,.int .i64 a2,.int .i64 a3,.int .i64 a4,.int .i64 a5,.int .i64 a6,.int .i64 a7,.int .i64 a8])).run Tryz.prog w=.ok true w:=by
 have u3:=Tryz.underlying2;rw [show (10000:Nat)=9999+1 from rfl,run_equalIn_agg w 9999 34 _ _ (by kernel_rfl) (by kernel_rfl)]
 simp only [Program.fieldsOf,Tryz.underlying34]
 go_simp
theorem zhH (a0 a1 a2 a3 a4 a5 a6 a7 a8 b0 b1 b2 b3 b4 b5 b6 b7 b8:Int) (h:¬ (a0=b0∧a1=b1∧a2=b2∧a3=b3∧a4=b4∧a5=b5∧a6=b6∧a7=b7∧a8=b8)) (w:World):(Op.equalIn 10000 34 (.agg #[.int .i64 a0,.int .i64 a1,.int .i64 a2,.int .i64 a3,.int .i64 a4,.int .i64 a5,.int .i64 a6,.int .i64 a7,.int .i64 a8]) (.agg #[.int .i64 b0,.int .i64 b1,.int .i64 b2,.int .i64 b3,.int .i64 b4,.int .i64 b5,.int .i64 b6,.int .i64 b7,.int .i64 b8])).run Tryz.prog w=.ok false w:=by
 have u3:=Tryz.underlying2;rw [show (10000:Nat)=9999+1 from rfl,run_equalIn_agg w 9999 34 _ _ (by kernel_rfl) (by kernel_rfl)]
 simp only [Program.fieldsOf,Tryz.underlying34]
 have H:=hid h;clear h;go_simp;exact fun h0 h1 h2 h3 h4 h5 h6 h7 h8=>H.out ⟨h0,h1,h2,h3,h4,h5,h6,h7,h8⟩
theorem zlo (s:Nat→Int):zah s↔s 0=zaK (s 0) 1 4∧s 1=zaK (s 1) 0 2∧s 2=zaK (s 2) 1 3∧s 3=zaK (s 3) 0 2∧s 4=zaK (s 4) 1 6∧s 5=zaK (s 5) 1 6∧s 6=zaK (s 6) 1 4∧s 7=zaK (s 7) 1 6∧s 8=zaK (s 8) 0 400:=by
 unfold zah Shp3 Shp;rw [zbL (s 0) 1 4 (by omega),zbL (s 1) 0 2 (by omega),zbL (s 2) 1 3 (by omega),zbL (s 3) 0 2 (by omega),zbL (s 4) 1 6 (by omega),zbL (s 5) 1 6 (by omega),zbL (s 6) 1 4 (by omega),zbL (s 7) 1 6 (by omega),zbL (s 8) 0 400 (by omega)];omega
theorem zcH (s:Nat→Int) (w:World) :
 Calls Tryz.prog 53 #[zae s] w fun e w'=>∃ x,e=.returned (.int .i64 x)∧zkW s x∧Below w.heap.size w w':=by
 have HK:Hid (zah s↔s 0=zaK (s 0) 1 4∧s 1=zaK (s 1) 0 2∧s 2=zaK (s 2) 1 3∧s 3=zaK (s 3) 0 2∧s 4=zaK (s 4) 1 6∧s 5=zaK (s 5) 1 6∧s 6=zaK (s 6) 1 4∧s 7=zaK (s 7) 1 6∧s 8=zaK (s 8) 0 400):=zlo s;unfold zae;obtain ⟨a0,h0⟩:∃ a,a=s 0:=⟨_,rfl⟩;obtain ⟨a1,h1⟩:∃ a,a=s 1:=⟨_,rfl⟩;obtain ⟨a2,h2⟩:∃ a,a=s 2:=⟨_,rfl⟩;obtain ⟨a3,h3⟩:∃ a,a=s 3:=⟨_,rfl⟩;obtain ⟨a4,h4⟩:∃ a,a=s 4:=⟨_,rfl⟩;obtain ⟨a5,h5⟩:∃ a,a=s 5:=⟨_,rfl⟩;obtain ⟨a6,h6⟩:∃ a,a=s 6:=⟨_,rfl⟩;obtain ⟨a7,h7⟩:∃ a,a=s 7:=⟨_,rfl⟩;obtain ⟨a8,h8⟩:∃ a,a=s 8:=⟨_,rfl⟩;rw [← h0,← h1,← h2,← h3,← h4,← h5,← h6,← h7,← h8]
 have HK2:Hid (zah s↔a0=zaK a0 1 4∧a1=zaK a1 0 2∧a2=zaK a2 1 3∧a3=zaK a3 0 2∧a4=zaK a4 1 6∧a5=zaK a5 1 6∧a6=zaK a6 1 4∧a7=zaK a7 1 6∧a8=zaK a8 0 400):=by
  show zah s↔_
  rw [h0,h1,h2,h3,h4,h5,h6,h7,h8];exact HK.out
 clear HK h0 h1 h2 h3 h4 h5 h6 h7 h8;have CN:=zei a0 a1 a2 a3 a4 a5 a6 a7 a8;have XA:=zao w #[.int .i64 a0,.int .i64 a1,.int .i64 a2,.int .i64 a3,.int .i64 a4,.int .i64 a5,.int .i64 a6,.int .i64 a7,.int .i64 a8] 34;obtain ⟨x0,x1,x2,x3,x4,x5,x6,x7,x8⟩:=box9 XA;have HX:=hid XA;have HB:Hid (Below w.heap.size w (w.alloc (.cells #[.int .i64 a0,.int .i64 a1,.int .i64 a2,.int .i64 a3,.int .i64 a4,.int .i64 a5,.int .i64 a6,.int .i64 a7,.int .i64 a8] 34))):=bnew (Below.refl _ _);obtain ⟨wA,hwA⟩:∃ x,x=w.alloc (.cells #[.int .i64 a0,.int .i64 a1,.int .i64 a2,.int .i64 a3,.int .i64 a4,.int .i64 a5,.int .i64 a6,.int .i64 a7,.int .i64 a8] 34):=⟨_,rfl⟩;rw [← hwA] at x0 x1 x2 x3 x4 x5 x6 x7 x8 HX HB;clear XA
 by_cases ok:zah s
 ·have HO:=hid ok
  obtain ⟨e0,e1,e2,e3,e4,e5,e6,e7,e8⟩:=HK2.out.mp ok;rw [← e0,← e1,← e2,← e3,← e4,← e5,← e6,← e7,← e8] at CN;have heq:=zgN a0 a1 a2 a3 a4 a5 a6 a7 a8;clear e0 e1 e2 e3 e4 e5 e6 e7 e8 ok
  go_enter Tryz.func53,Tryz.ntmps53
  go_wp2_with fail
  rw [← hwA];clear hwA
  go_region_with (go_at_call 95;refine (CN _).mono ?_;rintro ee w2 ⟨rfl,hb2⟩;have hB2:Below wA.heap.size wA w2:=⟨hb2.os,hb2.tape,hb2.output,hb2.size,hb2.block⟩;obtain ⟨y0,y1,y2,y3,y4,y5,y6,y7,y8⟩:=box9 (HX.out.below hB2 HX.out.lt))
  all_goals
   go_wp2;go_ret;exact ⟨0,rfl,.inr ⟨rfl,HO.out⟩,HB.out.trans (hB2.mono HB.out.size)⟩
 ·have HO:=hid ok
  have hno:¬ (a0=zaK a0 1 4∧a1=zaK a1 0 2∧a2=zaK a2 1 3∧a3=zaK a3 0 2∧a4=zaK a4 1 6∧a5=zaK a5 1 6∧a6=zaK a6 1 4∧a7=zaK a7 1 6∧a8=zaK a8 0 400):=fun h=>ok (HK2.out.mpr h);have heq:=zhH a0 a1 a2 a3 a4 a5 a6 a7 a8 (zaK a0 1 4) (zaK a1 0 2) (zaK a2 1 3) (zaK a3 0 2) (zaK a4 1 6) (zaK a5 1 6) (zaK a6 1 4) (zaK a7 1 6) (zaK a8 0 400) hno;clear hno ok
  go_enter Tryz.func53,Tryz.ntmps53
  go_wp2_with fail
  rw [← hwA];clear hwA
  go_region_with (go_at_call 95;refine (CN _).mono ?_;rintro ee w2 ⟨rfl,hb2⟩;have hB2:Below wA.heap.size wA w2:=⟨hb2.os,hb2.tape,hb2.output,hb2.size,hb2.block⟩;obtain ⟨y0,y1,y2,y3,y4,y5,y6,y7,y8⟩:=box9 (HX.out.below hB2 HX.out.lt))
  all_goals
   go_wp2;go_ret;exact ⟨3,rfl,.inl ⟨rfl,HO.out⟩,HB.out.trans (hB2.mono HB.out.size)⟩
theorem zdM (s:Nat→Int) (h1:1≤s 2) (h2:s 2≤1000) (w:World) :
 Calls Tryz.prog 156 #[zae s] w fun e w'=>e=.returned (.int .i64 (s 2*4))∧Below w.heap.size w w':=by
 unfold zae;obtain ⟨a2,h0⟩:∃ a,a=s 2:=⟨_,rfl⟩;rw [← h0] at h1 h2 ⊢;clear h0;have B0:Below w.heap.size w (w.alloc (.cells #[.int .i64 (s 0),.int .i64 (s 1),.int .i64 a2,.int .i64 (s 3),.int .i64 (s 4),.int .i64 (s 5),.int .i64 (s 6),.int .i64 (s 7),.int .i64 (s 8)] 34)):=bnew (Below.refl _ _)
 go_enter Tryz.func156,Tryz.ntmps156
 go_wp2;go_ret;exact ⟨rfl,B0⟩
theorem zfR (s:Nat→Int) (l:Int) (w:World) :
 Calls Tryz.prog 155 #[zae s,.int .i64 l] w fun e w'=>∃ x c,e=.returned (intR c x)∧zlf s l x c∧Below w.heap.size w w':=by
 unfold zae
 go_enter Tryz.func155,Tryz.ntmps155
 go_wp2_with fail
 refine (zcH s _).mono ?_;rintro e w1 ⟨x,rfl,hx,B1'⟩;obtain ⟨X1,X2,B1,z1⟩:=zle B1';obtain ⟨x0,x1,x2,x3,x4,x5,x6,x7,x8⟩:=box9 X1;obtain ⟨y0,y1,y2,y3⟩:=zet X2;have HX:=hid X2;have HX1:=hid X1;clear B1' X1 X2
 rcases hx with ⟨rfl,hx⟩ | ⟨rfl,hx⟩
 ·have HN:=hid hx
  clear hx;go_wp2;exact bodyPost_ret (v:=intR 3 0) (by simp [results,Tryz.results155,go_sem,intR,y0,y1]) rfl ⟨0,3,rfl,.inl ⟨HN.out,rfl,rfl⟩,(B1.setCell (Nat.le_succ _) _).setCell (Nat.le_succ _) _⟩
 ·have HO:=hid hx
  have HD:Hid (1≤s 2∧s 2≤1000):=by show 1≤s 2∧s 2≤1000;have:=hx.2.1;unfold Shp at this;omega
  clear hx;have CL:=zdM s HD.out.1 HD.out.2;unfold zae at CL;have HM:Hid (∀ m,m=(l+s 2*4-1)/(s 2*4)→1≤l→l≤3*(s 2*4)→zlf s l m 0):=fun m hm h1 h2=>.inr (.inr (.inr ⟨HO.out,h1,h2,rfl,hm⟩));have HM2:Hid (1≤l→3*(s 2*4)<l→zlf s l 0 2):=fun h1 h2=>.inr (.inr (.inl ⟨HO.out,h1,h2,rfl,rfl⟩));obtain ⟨S,hS⟩:∃ S,S=s 2*4:=⟨_,rfl⟩;rw [← hS] at CL HM HM2
  have q1:4≤S:=by have:=HD.out.1;omega
  have q2:S≤4000:=by have:=HD.out.2;omega
  clear hS
  by_cases c1:l<1
  ·go_wp2
   exact bodyPost_ret (v:=intR 6 0) (by simp [results,Tryz.results155,go_sem,intR,y0,y1]) rfl ⟨0,6,rfl,.inr (.inl ⟨HO.out,c1,rfl,rfl⟩),(B1.setCell (Nat.le_succ _) _).setCell (Nat.le_succ _) _⟩
  ·go_wp2_with fail
   refine (CL _).mono ?_;rintro e w2 ⟨rfl,B2⟩;have z2:=B2.size;have B12:Below w.heap.size w w2:=B1.trans (B2.mono B1.size);have HX2:Hid (Box w2 (w.heap.size+1) #[.int .i64 0,.int .i64 0] 185):=HX.out.below B2 z1;have HY2:Hid (Box w2 w.heap.size (rwS s).toArray 34):=HX1.out.below B2 (by omega);clear x0 x1 x2 x3 x4 x5 x6 x7 x8 y0 y1 y2 y3 B2 HX HX1;obtain ⟨y0,y1,y2,y3⟩:=zet HX2.out;obtain ⟨x0,x1,x2,x3,x4,x5,x6,x7,x8⟩:=box9 HY2.out
   by_cases c2:3*S<l
   ·have t2:decide (3*S<l)=true:=by simp;omega
    go_wp2;exact bodyPost_ret (v:=intR 2 0) (by simp [results,Tryz.results155,go_sem,intR,y0,y1]) rfl ⟨0,2,rfl,HM2.out (by omega) c2,(B12.setCell (Nat.le_succ _) _).setCell (Nat.le_succ _) _⟩
   ·have t2:decide (3*S<l)=false:=by simp;omega
    have q3:0≤l+S-1:=by omega
    go_wp2_with fail
    have K0:Hid (Below w2.heap.size w2 w2):=Below.refl _ _
    go_region_with (go_at_call 156;refine (CL _).mono ?_;rintro ee w3 ⟨rfl,hb3⟩;(first | (have hB2:Below w2.heap.size w2 w3:=hB.trans ((⟨hb3.os,hb3.tape,hb3.output,hb3.size,hb3.block⟩:Below _ _ _).mono hB.size);clear hb3;obtain ⟨v0,v1,v2,v3⟩:=zet (HX2.out.below hB2 (by omega));obtain ⟨u0,u1,u2,u3,u4,u5,u6,u7,u8⟩:=box9 (HY2.out.below hB2 (by omega))) | (have hB:Below w2.heap.size w2 w3:=⟨hb3.os,hb3.tape,hb3.output,hb3.size,hb3.block⟩;clear hb3;obtain ⟨u0,u1,u2,u3,u4,u5,u6,u7,u8⟩:=box9 (HY2.out.below hB (by omega)))))
    all_goals
     have B4:Below w.heap.size w w3:=B12.trans (hB2.mono B12.size);go_wp2;exact bodyPost_ret (v:=intR 0 ((l+S-1)/S)) (by simp [results,Tryz.results155,go_sem,intR,v0,v1]) rfl ⟨(l+S-1)/S,0,rfl,HM.out _ rfl (by omega) (by omega),(B4.setCell (Nat.le_succ _) _).setCell (Nat.le_succ _) _⟩
theorem zaZ {x a b:Int} {t:Bool} (hab:a≤b) (ht:t=true↔InP x a b) (w:World) :
 Calls Tryz.prog 60 #[.int .i64 x,.int .i64 a,.int .i64 b] w fun e w'=>e=.returned (.bool t)∧w'=w:=by
 by_cases h1:a≤x
 ·by_cases h2:x≤b
  ·obtain rfl:t=true:=ht.2 ⟨h1,h2⟩
   clear ht hab
   go_enter Tryz.func60,Tryz.ntmps60
   go_wp2;go_ret;exact ⟨rfl,rfl⟩
  ·obtain rfl:t=false:=by
    cases t with
    | false=>rfl
    | true=>exact absurd (ht.1 rfl).2 h2
   clear ht hab;have hd:decide (x≤b)=false:=decide_eq_false h2
   go_enter Tryz.func60,Tryz.ntmps60
   go_wp2;go_ret;exact ⟨rfl,rfl⟩
 ·obtain rfl:t=false:=by
   cases t with
   | false=>rfl
   | true=>exact absurd (ht.1 rfl).1 h1
  clear ht hab;have hd:decide (a≤x)=false:=decide_eq_false h1
  go_enter Tryz.func60,Tryz.ntmps60
  go_wp2;go_ret;exact ⟨rfl,rfl⟩
theorem zbj (s:Nat→Int) (h:zah s) (w:World) :
 Calls Tryz.prog 96 #[zae s] w fun e w'=>e=.returned (.int .i64 (s 0+s 1))∧Below w.heap.size w w':=by
 obtain ⟨h1,h2,_⟩:=h;unfold Shp3 at h1;have B0:=(zaE w (rwS s).toArray 34).bel;unfold zae
 have hw:-9223372036854775808≤s 0+s 1∧s 0+s 1≤9223372036854775807:=by omega
 go_enter Tryz.func96,Tryz.ntmps96
 go_wp2;go_ret;exact ⟨rfl,B0⟩
theorem zfa (s:Nat→Int) (h:zah s) (w:World) :
 Calls Tryz.prog 97 #[zae s] w fun e w'=>e=.returned (.int .i64 (s 2+s 3))∧Below w.heap.size w w':=by
 obtain ⟨h1,h2,_⟩:=h;unfold Shp at h2;have B0:=(zaE w (rwS s).toArray 34).bel;unfold zae
 have hw:-9223372036854775808≤s 2+s 3∧s 2+s 3≤9223372036854775807:=by omega
 go_enter Tryz.func97,Tryz.ntmps97
 go_wp2;go_ret;exact ⟨rfl,B0⟩
theorem okB {s:Nat→Int} (h:zah s):1≤s 0∧s 0≤4∧0≤s 1∧s 1≤2∧1≤s 2∧s 2≤3∧0≤s 3∧s 3≤2∧1≤s 4∧s 4≤6∧1≤s 5∧s 5≤6:=by
 obtain ⟨h1,h2,h3,h4,_⟩:=h;unfold Shp3 at h1;unfold Shp at h2;omega
theorem zgO {s:Nat→Int} (h:zah s) {x:Int} {t:Bool} (ht:t=true↔InP x 0 (s 0+s 1-1)) (w:World) :
 Calls Tryz.prog 149 #[zae s,.int .i64 x] w fun e w'=>e=.returned (.bool t)∧Below w.heap.size w w':=by
 have hb:=okB h;have C:=zbj s h;have CB:=fun w'=>zaZ (w:=w') (show 0≤s 0+s 1-1 by omega) ht;have T0:=zaE w (rwS s).toArray 34;unfold zae at C ⊢;clear ht h
 go_enter Tryz.func149,Tryz.ntmps149
 go_wp2_with fail
 refine (C _).mono ?_;rintro e w1 ⟨rfl,b1⟩;have HB:Hid (Below w.heap.size w w1):=(T0.call b1).bel;clear b1 T0 C
 go_wp2_with fail
 refine (CB _).mono ?_;rintro e w2 ⟨rfl,hw2⟩;obtain rfl:=hw2.symm;go_wp2;go_ret;exact ⟨rfl,HB.out⟩
theorem zfS {s:Nat→Int} (h:zah s) {x:Int} {t:Bool} (ht:t=true↔InP x 0 (s 0-1)) (w:World) :
 Calls Tryz.prog 146 #[zae s,.int .i64 x] w fun e w'=>e=.returned (.bool t)∧Below w.heap.size w w':=by
 have hb:=okB h;have CB:=fun w'=>zaZ (w:=w') (show 0≤s 0-1 by omega) ht;have HB:Hid (Below w.heap.size w (w.alloc (.cells (rwS s).toArray 34))):=(zaE w (rwS s).toArray 34).bel;unfold zae;clear ht h
 go_enter Tryz.func146,Tryz.ntmps146
 go_wp2_with fail
 refine (CB _).mono ?_;rintro e w2 ⟨rfl,hw2⟩;obtain rfl:=hw2.symm;go_wp2;go_ret;exact ⟨rfl,HB.out⟩
theorem zj1 {s:Nat→Int} (h:zah s) {x:Int} {t:Bool} (ht:t=true↔InP x 0 (s 4-1)) (w:World) :
 Calls Tryz.prog 147 #[zae s,.int .i64 x] w fun e w'=>e=.returned (.bool t)∧Below w.heap.size w w':=by
 have hb:=okB h;have CB:=fun w'=>zaZ (w:=w') (show 0≤s 4-1 by omega) ht;have HB:Hid (Below w.heap.size w (w.alloc (.cells (rwS s).toArray 34))):=(zaE w (rwS s).toArray 34).bel;unfold zae;clear ht h
 go_enter Tryz.func147,Tryz.ntmps147
 go_wp2_with fail
 refine (CB _).mono ?_;rintro e w2 ⟨rfl,hw2⟩;obtain rfl:=hw2.symm;go_wp2;go_ret;exact ⟨rfl,HB.out⟩
theorem zeU {s:Nat→Int} (h:zah s) {ao:Option Addr} {n cap:Nat} (hn:n≤9223372036854775807) {t:Bool} (ht:((n:Int)==s 2*4)=t) (w:World) :
 Calls Tryz.prog 148 #[zae s,.slice ao n cap] w fun e w'=>e=.returned (.bool t)∧Below w.heap.size w w':=by
 have hb:=okB h;have C:=fun w'=>zdM s (by omega) (by omega) w';have T0:=zaE w (rwS s).toArray 34;unfold zae at C ⊢;clear h
 go_enter Tryz.func148,Tryz.ntmps148
 go_wp2_with fail
 refine (C _).mono ?_;rintro e w1 ⟨rfl,b1⟩;have HB:Hid (Below w.heap.size w w1):=(T0.call b1).bel;clear b1 T0 C;go_wp2;go_ret;exact ⟨by simp [ht],HB.out⟩
theorem zcQ (
 v:Value) (n:Nat) (g:Nat→Int) (hi:Nat) (bound:Int) (hb1:1≤bound) (hb2:bound≤1000000) (w:World) (r:RdI w hi v n g) (hcp:CapP v n) (hhi:hi≤w.heap.size) :
 Calls Tryz.prog 99 #[v,.int .i64 bound] w (zaT (zbZ n g (bound-1)) w):=by
 have HR:=hid r;obtain ⟨ao,cap,rfl,hm,hc⟩:=r;obtain ⟨_,_,e,hcp⟩:=hcp
 cases e
 unfold maxLen at hm
 go_enter Tryz.func99,Tryz.ntmps99
 go_wp2
 go_loopw [9] (fun i wr=>∃ k:Nat,k≤n∧i=.int .i64 k∧zbZ k g (bound-1)∧Below w.heap.size w wr) (fun i _=>n-(intOf i).toNat)
 case atStart=>exact ⟨0,Nat.zero_le _,rfl,fun i hi=>by omega,Below.refl _ _⟩
 case round=>
  obtain ⟨k,hk,rfl,hall,hb⟩:=hrel;have HALL:=hid hall;clear hall
  by_cases hlt:k<n
  ·obtain ⟨b,off,rfl,hblt,hcell⟩:=hc (by omega)
   have hck:wr.cell? ⟨b,off+k,none⟩=some (.int .i64 (g k)):=(hb.cell (p:=⟨b,off+k,none⟩) (by show b<w.heap.size;omega)).trans (hcell k hlt)
   have kcp:k≤cap:=by omega
   obtain ⟨t1,h1⟩:=exB (InP (g k) 0 (bound-1));obtain ⟨t2,h2⟩:=exB (∃ t,t<k∧g t=g k);have C1:=fun w'=>zaZ (w:=w') (show 0≤bound-1 by omega) h1;have C2:=zbb (zgM (.slice (some ⟨b,off,none⟩) k cap) k g hi (g k) wr ((HR.out.part hk (by omega)).below hb hhi)) h2;have H1:=hid h1;have H2:=hid h2;obtain ⟨y,hy⟩:∃ y,y=g k:=⟨_,rfl⟩;have HY:=hid hy;rw [← hy] at hck C1 C2;have HB:=hid hb;clear hc hcell h1 h2 hy hb
   go_wp2_with fail
   refine (C1 _).mono ?_;rintro e w' ⟨rfl,hw'⟩;obtain rfl:=hw'.symm;clear C1
   cases t1 with
   | false=>
    go_wp2;go_ret
    exact zak rfl (fun h=>by
     have:=H1.out.2 (h k hlt).1
     simp at this) HB.out
   | true=>
    go_wp2_with fail
    refine C2.mono ?_;rintro e w2 ⟨rfl,b2⟩;have HB2:=hid (HB.out.trans (b2.mono HB.out.size));clear b2 C2
    cases t2 with
    | true=>
     go_wp2;go_ret
     exact zak rfl (fun h=>by
      obtain ⟨t,ht,e⟩:=H2.out.1 (by simp)
      exact (h k hlt).2 t ht e) HB2.out
    | false=>
     go_wp2
     go_roundw
     case rel=>exact ⟨k+1,by omega,by go_num,fun i hi=>by
      by_cases c:i=k
      ·subst c
       exact ⟨H1.out.1 (by simp),fun t ht e=>by
        have:=H2.out.2 ⟨t,ht,e⟩
        simp at this⟩
      ·exact HALL.out i (by omega),HB2.out⟩
     case measure=>simp [intOf];omega
  ·obtain rfl:k=n:=by omega
   go_wp2;go_ret;exact zaC rfl HALL.out hb
theorem zfT (b:BlockD) (ao:Option Addr) (cap:Nat) (w:World) :
 Calls Tryz.prog 124 #[.agg #[.int .i64 b.stamp,.slice ao b.bytes.1 cap]] w (zaT (zdm b) w):=by
 obtain ⟨t1,h1⟩:=exB (InP b.stamp 0 1000000000);obtain ⟨b2,h2⟩:∃ x,((b.bytes.1:Int)==4)=x:=⟨_,rfl⟩
 have HE:Hid (zdm b↔(t1=true∧b2=true)):=by
  show zdm b↔_
  rw [h1,← h2];unfold zdm
  simp
  intro _;omega
 have C1:=fun w'=>zaZ (w:=w') (show (0:Int)≤1000000000 by omega) h1;have HB:Hid (Below w.heap.size w (w.alloc (.cells #[.int .i64 b.stamp,.slice ao b.bytes.1 cap] 130))):=(Below.refl _ _).alloc (Nat.le_refl _) _;clear h1
 go_enter Tryz.func124,Tryz.ntmps124
 go_wp2_with fail
 refine (C1 _).mono ?_;rintro e w' ⟨rfl,hw'⟩;obtain rfl:=hw'.symm;clear C1
 cases t1 with
 | false=>
  go_wp2;go_ret;exact zak rfl (fun h=>by have:=HE.out.1 h;simp at this) HB.out
 | true=>
  cases b2 with
  | false=>
   go_wp2;go_ret;exact zak rfl (fun h=>by have:=HE.out.1 h;simp at this) HB.out
  | true=>
   go_wp2;go_ret;exact zaC rfl (HE.out.2 (by simp)) HB.out
theorem zfU (s:Nat→Int) (hs:zah s) (p:Nat×(Nat→BlockD)) (t:TypeId) (v:Value) (hi:Nat) (w:World) (h:(zat.slice t).rd w hi p [v]) (hhi:hi≤w.heap.size) :
 Calls Tryz.prog 98 #[zae s,v] w (zaT (zeC s p) w):=by
 obtain ⟨ao,cap,e,hm,hc⟩:=h
 cases e
 unfold maxLen at hm;have HC:=hid hc;have HT0:Hid (One w (w.alloc (.cells (rwS s).toArray 34)) (rwS s).toArray 34):=zaE w (rwS s).toArray 34;clear hc;unfold zae
 go_enter Tryz.func98,Tryz.ntmps98
 by_cases hl:(p.1:Int)=s 4
 ·have hne:((p.1:Int) != s 4)=false:=by simpa using hl
  have HL:=hid hl;clear hl;go_wp2
  go_loopw [14] (fun i wr=>∃ k:Nat,k≤p.1∧i=.int .i64 k∧(∀ i,i<k→zdm (p.2 i))∧Below w.heap.size w wr) (fun i _=>p.1-(intOf i).toNat)
  case atStart=>exact ⟨0,Nat.zero_le _,rfl,fun i hi=>by omega,HT0.out.bel⟩
  case round=>
   obtain ⟨k,hk,rfl,hal,hb⟩:=hrel;have HAL:=hid hal;have HB:=hid hb;clear hal
   by_cases hlt:k<p.1
   ·obtain ⟨b,off,he,hbl,hel⟩:=HC.out (by omega)
    subst he;obtain ⟨ck,hrk,hcell⟩:=zau (t:=0) hel hb hhi hbl hlt;obtain ⟨ao1,cap1,rfl,-⟩:=zbU hrk;have c0:wr.cell? ⟨b,off+k*2,none⟩=some (.int .i64 (p.2 k).stamp):=hcell 0 (by decide);have c1:wr.cell? ⟨b,off+k*2+1,none⟩=some (.slice ao1 (p.2 k).bytes.1 cap1):=hcell 1 (by decide);have C:=fun w'=>zfT (p.2 k) ao1 cap1 w';clear hel hcell hrk hb
    go_wp2_with fail
    refine (C _).mono ?_;rintro e w2 ⟨t2,rfl,ht2,b2⟩;have HB2:Hid (Below w.heap.size w w2):=HB.out.trans ((bnew b2).mono HB.out.size);have HT2:=hid ht2;clear C b2 ht2
    cases t2 with
    | false=>
     go_wp2;go_ret;exact zak rfl (fun h=>by have:=HT2.out.2 (h.2 k hlt);simp at this) HB2.out
    | true=>
     go_wp2
     go_roundw
     case rel=>exact ⟨k+1,by omega,by go_num,fun i hi=>by
      by_cases c:i=k
      ·subst c;exact HT2.out.1 (by simp)
      ·exact HAL.out i (by omega),HB2.out⟩
     case measure=>simp [intOf];omega
   ·obtain rfl:k=p.1:=by omega
    go_wp2;go_ret;exact zaC rfl ⟨HL.out,HAL.out⟩ hb
 ·have hne:((p.1:Int) != s 4)=true:=by simpa using hl
  have HN:=hid hl;clear hl;go_wp2;go_ret;exact zak rfl (fun h=>HN.out h.1) HT0.out.bel
theorem zgP (wp:Bool) (n:Nat) (hn:n≤9223372036854775807) (ao:Option Addr) (cap:Nat) (w:World) :
 Calls Tryz.prog 57 #[.agg #[.bool wp,.slice ao n cap]] w (zaT (200<n) w):=by
 obtain ⟨P,hP⟩:∃ P:Prop,P=(200<n):=⟨_,rfl⟩;have HB:Hid (Below w.heap.size w (w.alloc (.cells #[.bool wp,.slice ao n cap] 79))):=(Below.refl _ _).alloc (Nat.le_refl _) _;have HP:=hid hP;rw [← hP];clear hP
 by_cases h:200<n
 ·have h1:decide (200<(n:Int))=true:=by simp;omega
  go_enter Tryz.func57,Tryz.ntmps57
  go_wp2;go_ret;exact zaC (by simp [h1]) (by rw [HP.out];exact h) HB.out
 ·have h1:decide (200<(n:Int))=false:=by simp;omega
  go_enter Tryz.func57,Tryz.ntmps57
  go_wp2;go_ret;exact zak (by simp [h1]) (by rw [HP.out];exact h) HB.out
theorem zfV (wp:Bool) (n:Nat) (hn:n≤9223372036854775807) (ao:Option Addr) (cap:Nat) (w:World) :
 Calls Tryz.prog 59 #[.agg #[.bool wp,.slice ao n cap]] w (zaT (wp=true∧0<n) w):=by
 obtain ⟨P,hP⟩:∃ P:Prop,P=(wp=true∧0<n):=⟨_,rfl⟩;have HB:Hid (Below w.heap.size w (w.alloc (.cells #[.bool wp,.slice ao n cap] 79))):=(Below.refl _ _).alloc (Nat.le_refl _) _;have HP:=hid hP;rw [← hP];clear hP
 cases wp with
 | false=>
  go_enter Tryz.func59,Tryz.ntmps59
  go_wp2;go_ret;exact zak rfl (by rw [HP.out];simp) HB.out
 | true=>
  by_cases h:0<n
  ·have h1:decide (0<(n:Int))=true:=by simp;omega
   go_enter Tryz.func59,Tryz.ntmps59
   go_wp2;go_ret;exact zaC (by simp [h]) (by rw [HP.out];exact ⟨by simp,h⟩) HB.out
  ·have h1:decide (0<(n:Int))=false:=by simp;omega
   go_enter Tryz.func59,Tryz.ntmps59
   go_wp2;go_ret;exact zak (by simp [h]) (by rw [HP.out];exact fun x=>h x.2) HB.out
def zbD (p:Nat×(Nat→TapeD)):Prop:=∃ t,t<p.1∧200<(p.2 t).recs.1
def za0 (p:Nat×(Nat→TapeD)):Prop:=∃ t,t<p.1∧((p.2 t).wiped=true∧0<(p.2 t).recs.1)
theorem zfb (p:Nat×(Nat→TapeD)) (t:TypeId) (v:Value) (hi:Nat) (w:World) (h:(zam.slice t).rd w hi p [v]) (hhi:hi≤w.heap.size) :
 Calls Tryz.prog 100 #[v,.func (.func 57) #[] #[]] w fun e w'=>∃ z:Int,e=.returned (.int .i64 z)∧(0≤z↔zbD p)∧Below w.heap.size w w':=by
 obtain ⟨ao,cap,e,hm,hc⟩:=h
 cases e
 unfold maxLen at hm;have HC:=hid hc;clear hc
 go_enter Tryz.func100,Tryz.ntmps100
 go_wp2
 go_loopw [8] (fun i wr=>∃ k:Nat,k≤p.1∧i=.int .i64 k∧(∀ i,i<k→¬ (200<(p.2 i).recs.1))∧Below w.heap.size w wr) (fun i _=>p.1-(intOf i).toNat)
 case atStart=>exact ⟨0,Nat.zero_le _,rfl,fun i hi=>by omega,Below.refl _ _⟩
 case round=>
  obtain ⟨k,hk,rfl,hal,hb⟩:=hrel;have HAL:=hid hal;have HB:=hid hb;clear hal
  by_cases hlt:k<p.1
  ·obtain ⟨b,off,he,hbl,hel⟩:=HC.out (by omega)
   subst he;obtain ⟨ck,hrk,hcell⟩:=zau (t:=0) hel hb hhi hbl hlt;obtain ⟨ao1,cap1,rfl,g1⟩:=zbs hrk
   have hm1:(p.2 k).recs.1≤maxLen:=by
    obtain ⟨_,_,_,h,_⟩:=g1;exact h
   unfold maxLen at hm1;have c0:wr.cell? ⟨b,off+k*2,none⟩=some (.bool (p.2 k).wiped):=hcell 0 (by decide);have c1:wr.cell? ⟨b,off+k*2+1,none⟩=some (.slice ao1 (p.2 k).recs.1 cap1):=hcell 1 (by decide);have C:=fun w'=>zgP (p.2 k).wiped (p.2 k).recs.1 (by omega) ao1 cap1 w';clear hel hcell hrk hb g1
   go_wp2_with fail
   refine (C _).mono ?_;rintro e w2 ⟨t2,rfl,ht2,b2⟩;have HB2:=hid (HB.out.trans (b2.mono HB.out.size));have HT2:=hid ht2;clear C b2 ht2
   cases t2 with
   | true=>
    have HP:Hid (0≤(k:Int)↔zbD p):=⟨fun _=>⟨k,hlt,HT2.out.1 rfl⟩,fun _=>by omega⟩;go_wp2;go_ret;exact ⟨_,rfl,HP.out,HB2.out⟩
   | false=>
    go_wp2
    go_roundw
    case rel=>exact ⟨k+1,by omega,by go_num,fun i hi=>by
     by_cases c:i=k
     ·subst c;exact fun h=>by have:=HT2.out.2 h;simp at this
     ·exact HAL.out i (by omega),HB2.out⟩
    case measure=>simp [intOf];omega
  ·obtain rfl:k=p.1:=by omega
   have HP:Hid (0≤(-1:Int)↔zbD p):=⟨fun h=>by omega,fun ⟨t,ht,he⟩=>absurd he (HAL.out t ht)⟩;go_wp2;go_ret;exact ⟨-1,rfl,HP.out,hb⟩
theorem zd0 (p:Nat×(Nat→TapeD)) (t:TypeId) (v:Value) (hi:Nat) (w:World) (h:(zam.slice t).rd w hi p [v]) (hhi:hi≤w.heap.size) :
 Calls Tryz.prog 56 #[v,.func (.func 57) #[] #[]] w (zaT (zbD p) w):=by
 have C:=zfb p t v hi w h hhi;obtain ⟨ao,cap,e,hm,hc⟩:=h
 cases e
 clear hc hm
 go_enter Tryz.func56,Tryz.ntmps56
 go_wp2_with fail
 refine C.mono ?_;rintro e w1 ⟨z,rfl,hz,b1⟩;have HZ:=hid hz;have HB:=hid b1;clear hz C b1
 by_cases h0:0≤z
 ·have HP:=hid (HZ.out.mp h0)
  go_wp2;go_ret;exact zaC rfl HP.out HB.out
 ·have HP:Hid (¬ zbD p):=fun h=>h0 (HZ.out.mpr h)
  have td:decide (0≤z)=false:=by simp;omega
  clear h0;go_wp2;go_ret;exact zak rfl HP.out HB.out
theorem zdq (p:Nat×(Nat→TapeD)) (t:TypeId) (v:Value) (hi:Nat) (w:World) (h:(zam.slice t).rd w hi p [v]) (hhi:hi≤w.heap.size) :
 Calls Tryz.prog 100 #[v,.func (.func 59) #[] #[]] w fun e w'=>∃ z:Int,e=.returned (.int .i64 z)∧(0≤z↔za0 p)∧Below w.heap.size w w':=by
 obtain ⟨ao,cap,e,hm,hc⟩:=h
 cases e
 unfold maxLen at hm;have HC:=hid hc;clear hc
 go_enter Tryz.func100,Tryz.ntmps100
 go_wp2
 go_loopw [8] (fun i wr=>∃ k:Nat,k≤p.1∧i=.int .i64 k∧(∀ i,i<k→¬ ((p.2 i).wiped=true∧0<(p.2 i).recs.1))∧Below w.heap.size w wr) (fun i _=>p.1-(intOf i).toNat)
 case atStart=>exact ⟨0,Nat.zero_le _,rfl,fun i hi=>by omega,Below.refl _ _⟩
 case round=>
  obtain ⟨k,hk,rfl,hal,hb⟩:=hrel;have HAL:=hid hal;have HB:=hid hb;clear hal
  by_cases hlt:k<p.1
  ·obtain ⟨b,off,he,hbl,hel⟩:=HC.out (by omega)
   subst he;obtain ⟨ck,hrk,hcell⟩:=zau (t:=0) hel hb hhi hbl hlt;obtain ⟨ao1,cap1,rfl,g1⟩:=zbs hrk
   have hm1:(p.2 k).recs.1≤maxLen:=by
    obtain ⟨_,_,_,h,_⟩:=g1;exact h
   unfold maxLen at hm1;have c0:wr.cell? ⟨b,off+k*2,none⟩=some (.bool (p.2 k).wiped):=hcell 0 (by decide);have c1:wr.cell? ⟨b,off+k*2+1,none⟩=some (.slice ao1 (p.2 k).recs.1 cap1):=hcell 1 (by decide);have C:=fun w'=>zfV (p.2 k).wiped (p.2 k).recs.1 (by omega) ao1 cap1 w';clear hel hcell hrk hb g1
   go_wp2_with fail
   refine (C _).mono ?_;rintro e w2 ⟨t2,rfl,ht2,b2⟩;have HB2:=hid (HB.out.trans (b2.mono HB.out.size));have HT2:=hid ht2;clear C b2 ht2
   cases t2 with
   | true=>
    have HP:Hid (0≤(k:Int)↔za0 p):=⟨fun _=>⟨k,hlt,HT2.out.1 rfl⟩,fun _=>by omega⟩;go_wp2;go_ret;exact ⟨_,rfl,HP.out,HB2.out⟩
   | false=>
    go_wp2
    go_roundw
    case rel=>exact ⟨k+1,by omega,by go_num,fun i hi=>by
     by_cases c:i=k
     ·subst c;exact fun h=>by have:=HT2.out.2 h;simp at this
     ·exact HAL.out i (by omega),HB2.out⟩
    case measure=>simp [intOf];omega
  ·obtain rfl:k=p.1:=by omega
   have HP:Hid (0≤(-1:Int)↔za0 p):=⟨fun h=>by omega,fun ⟨t,ht,he⟩=>absurd he (HAL.out t ht)⟩;go_wp2;go_ret;exact ⟨-1,rfl,HP.out,hb⟩
theorem zcR (p:Nat×(Nat→TapeD)) (t:TypeId) (v:Value) (hi:Nat) (w:World) (h:(zam.slice t).rd w hi p [v]) (hhi:hi≤w.heap.size) :
 Calls Tryz.prog 56 #[v,.func (.func 59) #[] #[]] w (zaT (za0 p) w):=by
 have C:=zdq p t v hi w h hhi;obtain ⟨ao,cap,e,hm,hc⟩:=h
 cases e
 clear hc hm
 go_enter Tryz.func56,Tryz.ntmps56
 go_wp2_with fail
 refine C.mono ?_;rintro e w1 ⟨z,rfl,hz,b1⟩;have HZ:=hid hz;have HB:=hid b1;clear hz C b1
 by_cases h0:0≤z
 ·have HP:=hid (HZ.out.mp h0)
  go_wp2;go_ret;exact zaC rfl HP.out HB.out
 ·have HP:Hid (¬ za0 p):=fun h=>h0 (HZ.out.mpr h)
  have td:decide (0≤z)=false:=by simp;omega
  clear h0;go_wp2;go_ret;exact zak rfl HP.out HB.out
def zj2 (s:Nat→Int) (p:Nat×(Nat→Nat×(Nat→DriveD))):Prop:=(p.1:Int)=s 0+s 1∧∀ i,i<p.1→zfE s (p.2 i)
theorem zfW (s:Nat→Int) (hs:zah s) (p:Nat×(Nat→Nat×(Nat→DriveD))) (v:Value) (hi:Nat) (w:World) (h:((zad.slice 128).slice 90).rd w hi p [v]) (hhi:hi≤w.heap.size) :
 Calls Tryz.prog 54 #[zae s,v] w (zaT (zj2 s p) w):=by
 obtain ⟨ao,cap,e,hm,hc⟩:=h
 cases e
 unfold maxLen at hm;have HC:=hid hc;have T0:=zaE w (rwS s).toArray 34;have CG:=fun w'=>zbj s hs w';have CD:=fun w'=>zfa s hs w';have HS:=hid hs;clear hc hs;unfold zae at CG CD ⊢
 go_enter Tryz.func54,Tryz.ntmps54
 go_wp2_with fail
 refine (CG _).mono ?_;rintro e w1 ⟨rfl,b1⟩;have HT1:=hid (T0.call b1);clear b1 T0 CG
 by_cases hl:(p.1:Int)=s 0+s 1
 ·have hne:((p.1:Int) != s 0+s 1)=false:=by simpa using hl
  have HL:=hid hl;clear hl;go_wp2
  go_loopw [16] (fun i wr=>∃ k:Nat,k≤p.1∧i=.int .i64 k∧(∀ i,i<k→zfE s (p.2 i))∧One w wr (rwS s).toArray 34) (fun i _=>p.1-(intOf i).toNat)
  case atStart=>exact ⟨0,Nat.zero_le _,rfl,fun i hi=>by omega,HT1.out⟩
  case round=>
   clear HT1;obtain ⟨k,hk,rfl,hal,T2⟩:=hrel;obtain ⟨wo,rfl⟩:∃ x,x=wr:=⟨_,rfl⟩;have HAL:=hid hal;have HT2:=hid T2;clear hal;have x2_0:wo.cell? ⟨w.heap.size,0,none⟩=some (.int .i64 (s 0)):=T2.b1.cell 0;have x2_1:wo.cell? ⟨w.heap.size,1,none⟩=some (.int .i64 (s 1)):=T2.b1.cell 1;have x2_2:wo.cell? ⟨w.heap.size,2,none⟩=some (.int .i64 (s 2)):=T2.b1.cell 2;have x2_3:wo.cell? ⟨w.heap.size,3,none⟩=some (.int .i64 (s 3)):=T2.b1.cell 3;have x2_4:wo.cell? ⟨w.heap.size,4,none⟩=some (.int .i64 (s 4)):=T2.b1.cell 4;have x2_5:wo.cell? ⟨w.heap.size,5,none⟩=some (.int .i64 (s 5)):=T2.b1.cell 5;have x2_6:wo.cell? ⟨w.heap.size,6,none⟩=some (.int .i64 (s 6)):=T2.b1.cell 6;have x2_7:wo.cell? ⟨w.heap.size,7,none⟩=some (.int .i64 (s 7)):=T2.b1.cell 7;have x2_8:wo.cell? ⟨w.heap.size,8,none⟩=some (.int .i64 (s 8)):=T2.b1.cell 8
   by_cases hlt:k<p.1
   ·obtain ⟨b,off,he,hbl,hel⟩:=HC.out (by omega)
    subst he;obtain ⟨ck,hrk,hcell⟩:=zau (t:=0) hel T2.bel hhi hbl hlt;obtain ⟨ao9,cap9,rfl⟩:=zbP hrk
    have c0:wo.cell? ⟨b,off+k,none⟩=some (.slice ao9 (p.2 k).1 cap9):=by
     have h:=hcell 0 (show 0<1 by decide);rw [show (zad.slice 128).sz=1 from rfl,Nat.mul_one,Nat.add_zero] at h;exact h
    obtain ⟨_,_,e9,hm9,hc9⟩:=hrk
    cases e9
    have HC9:=hid hc9;unfold maxLen at hm9;have zw:w.heap.size<wo.heap.size:=T2.b1.lt;clear hcell hc9 hel T2
    go_wp2_with fail
    refine (CD _).mono ?_;rintro e w3 ⟨rfl,b3⟩;have HT3:=hid (HT2.out.call b3);have HB3:=hid b3;clear b3 c0 x2_0 x2_1 x2_2 x2_3 x2_4 x2_5 x2_6 x2_7 x2_8
    by_cases hl2:((p.2 k).1:Int)=s 2+s 3
    ·have hne2:(((p.2 k).1:Int) != s 2+s 3)=false:=by simpa using hl2
     have HL2:=hid hl2;clear hl2;go_wp2
     go_loopw [27] (fun i wx=>∃ q:Nat,q≤(p.2 k).1∧i=.int .i64 q∧(∀ i,i<q→zeC s ((p.2 k).2 i).blocks)∧One w wx (rwS s).toArray 34∧Below wo.heap.size wo wx) (fun i _=>(p.2 k).1-(intOf i).toNat)
     case atStart=>exact ⟨0,Nat.zero_le _,rfl,fun i hi=>by omega,HT3.out,HB3.out⟩
     case round=>
      clear HT3 HB3;obtain ⟨q,hq,rfl,hal2,T4,hb4⟩:=hrel;obtain ⟨wx,rfl⟩:∃ x,x=wr:=⟨_,rfl⟩;have HAL2:=hid hal2;have HT4:=hid T4;have HB4:=hid hb4;clear hal2
      by_cases hlq:q<(p.2 k).1
      ·obtain ⟨b9,off9,he9,hb9,hel9⟩:=HC9.out (by omega)
       subst he9;obtain ⟨cq,hrq,hcq⟩:=zau (t:=0) hel9 hb4 (by omega) hb9 hlq;obtain ⟨ao5,cap5,rfl,g5⟩:=zbV hrq;have c4:wx.cell? ⟨b9,off9+q*2,none⟩=some (.bool ((p.2 k).2 q).wiped):=hcq 0 (by decide);have c5:wx.cell? ⟨b9,off9+q*2+1,none⟩=some (.slice ao5 ((p.2 k).2 q).blocks.1 cap5):=hcq 1 (by decide);have HG5:=hid g5;have zx:w.heap.size<wx.heap.size:=T4.b1.lt;clear hel9 hcq hrq T4 hb4 g5
       go_upto_region 11 with fail
       have bA:=bAl wx (.cells #[.bool ((p.2 k).2 q).wiped,.slice ao5 ((p.2 k).2 q).blocks.1 cap5] 128);have T5:One w (wx.alloc (.cells #[.bool ((p.2 k).2 q).wiped,.slice ao5 ((p.2 k).2 q).blocks.1 cap5] 128)) (rwS s).toArray 34:=HT4.out.call bA;have X5:=zao wx #[.bool ((p.2 k).2 q).wiped,.slice ao5 ((p.2 k).2 q).blocks.1 cap5] 128;obtain ⟨W5,hW5⟩:∃ x,x=wx.alloc (.cells #[.bool ((p.2 k).2 q).wiped,.slice ao5 ((p.2 k).2 q).blocks.1 cap5] 128):=⟨_,rfl⟩;rw [← hW5] at T5 X5 bA ⊢;have y5_1:W5.cell? ⟨wx.heap.size,1,none⟩=some (.slice ao5 ((p.2 k).2 q).blocks.1 cap5):=X5.cell 1;have HT5:=hid T5;have HB5:=hid bA;have x5_0:W5.cell? ⟨w.heap.size,0,none⟩=some (.int .i64 (s 0)):=T5.b1.cell 0;have x5_1:W5.cell? ⟨w.heap.size,1,none⟩=some (.int .i64 (s 1)):=T5.b1.cell 1;have x5_2:W5.cell? ⟨w.heap.size,2,none⟩=some (.int .i64 (s 2)):=T5.b1.cell 2;have x5_3:W5.cell? ⟨w.heap.size,3,none⟩=some (.int .i64 (s 3)):=T5.b1.cell 3;have x5_4:W5.cell? ⟨w.heap.size,4,none⟩=some (.int .i64 (s 4)):=T5.b1.cell 4;have x5_5:W5.cell? ⟨w.heap.size,5,none⟩=some (.int .i64 (s 5)):=T5.b1.cell 5;have x5_6:W5.cell? ⟨w.heap.size,6,none⟩=some (.int .i64 (s 6)):=T5.b1.cell 6;have x5_7:W5.cell? ⟨w.heap.size,7,none⟩=some (.int .i64 (s 7)):=T5.b1.cell 7;have x5_8:W5.cell? ⟨w.heap.size,8,none⟩=some (.int .i64 (s 8)):=T5.b1.cell 8;obtain ⟨t6,h6⟩:=exB (zeC s ((p.2 k).2 q).blocks);have CB:=zbb (zfU s HS.out ((p.2 k).2 q).blocks _ _ hi W5 ((zat.slice 130).rd_below HG5.out bA (by omega)) (by have:=bA.size;omega)) h6;unfold zae at CB;have H6:=hid h6;clear T5 X5 bA hW5 h6 c4 c5
       go_wp2_with fail
       refine CB.mono ?_;rintro e w6 ⟨rfl,b6⟩;have HT6:=hid (HT5.out.call b6);have HB6:Hid (Below wo.heap.size wo w6):=HB4.out.trans ((HB5.out.trans (b6.mono HB5.out.size)).mono HB4.out.size);clear b6 CB x5_0 x5_1 x5_2 x5_3 x5_4 x5_5 x5_6 x5_7 x5_8 y5_1
       cases t6 with
       | false=>
        go_wp2;go_ret;exact zak rfl (fun h=>by have:=H6.out.2 ((h.2 k hlt).2 q hlq);simp at this) HT6.out.bel
       | true=>
        go_wp2
        go_roundw
        case rel=>exact ⟨q+1,by omega,by go_num,fun i hi=>by
         by_cases c:i=q
         ·subst c;exact H6.out.1 (by simp)
         ·exact HAL2.out i (by omega),HT6.out,HB6.out⟩
        case measure=>simp [intOf];omega
      ·obtain rfl:q=(p.2 k).1:=by omega
       clear T4 hb4;go_wp2
       go_roundw
       case rel=>exact ⟨k+1,by omega,by go_num,fun i hi=>by
        by_cases c:i=k
        ·subst c
         exact ⟨HL2.out,HAL2.out⟩
        ·exact HAL.out i (by omega),HT4.out⟩
       case measure=>simp [intOf];omega
    ·have hne2:(((p.2 k).1:Int) != s 2+s 3)=true:=by simpa using hl2
     have HN2:=hid hl2;clear hl2;go_wp2;go_ret;exact zak rfl (fun h=>HN2.out (h.2 k hlt).1) HT3.out.bel
   ·obtain rfl:k=p.1:=by omega
    go_wp2;go_ret;exact zaC rfl ⟨HL.out,HAL.out⟩ HT2.out.bel
 ·have hne:((p.1:Int) != s 0+s 1)=true:=by simpa using hl
  have HN:=hid hl;clear hl;go_wp2;go_ret;exact zak rfl (fun h=>HN.out h.1) HT1.out.bel
theorem zi3 (s:Nat→Int) (hs:zah s) (r:RecD) (cs:List Value) (hi:Nat) (w:World) (h:zab.rd w hi r cs) (hhi:hi≤w.heap.size) :
 Calls Tryz.prog 145 #[zae s,.agg cs.toArray] w (zaT (zbF s r) w):=by
 obtain ⟨ao6,cap6,ao7,cap7,ao8,cap8,rfl,g6,g7,g8,-,-,-,hl,-⟩:=zaw h;clear h;have hb:=okB hs;obtain ⟨v6,e6,⟨h6,hcp6⟩,_⟩:=g6
 cases e6
 have H6:=hid h6;have HCP:=hid hcp6;have hm6:=h6.mx;obtain ⟨v7,e7,⟨_,_,e7',hm7,_⟩,_⟩:=g7
 cases e7
 cases e7'
 unfold maxLen at hm6 hm7;clear h6 hcp6 g8;have T0:=zaD w (rwS s).toArray (rwR r ao6 cap6 ao7 cap7 ao8 cap8).toArray 34 83;have CP:=fun w'=>zfR s r.length w';unfold zae intR at CP;unfold zae
 go_enter Tryz.func145,Tryz.ntmps145
 by_cases hl1:r.length=-1
 ·have HL:=hid hl1
  have e1:(r.length==-1)=true:=by simp [hl1]
  have HB:=hid T0.bel;clear T0 CP hl1;obtain ⟨b0,h0⟩:∃ b,((r.data.1:Int)==0)=b:=⟨_,rfl⟩;obtain ⟨b1,h1⟩:∃ b,((r.rows.1:Int)==0)=b:=⟨_,rfl⟩
  have HE:Hid (zbF s r↔(b0=true∧b1=true)):=by
   show zbF s r↔_
   rw [← h0,← h1];unfold zbF
   simp [HL.out]
  have hst:b0=false∨(b0=true∧b1=false)∨(b0=true∧b1=true):=by
   clear HE h0 h1
   cases b0<;>simp
  rcases hst with rfl | ⟨rfl,rfl⟩ | ⟨rfl,rfl⟩
  all_goals
   go_wp2;go_ret
   first
    | exact zak rfl (fun h=>by have:=HE.out.1 h;simp at this) HB.out
    | exact zaC rfl (HE.out.2 (by simp)) HB.out
 ·have e1:(r.length==-1)=false:=by simp [hl1]
  have HL:=hid hl1;clear hl1
  go_wp2_with fail
  refine (CP _).mono ?_;rintro e w1 ⟨pv,pc,rfl,hp,b1⟩;have T1:Two w w1 (rwS s).toArray (rwR r ao6 cap6 ao7 cap7 ao8 cap8).toArray 34 83:=T0.call b1;clear b1 T0 CP;have HT1:=hid T1;have z1:w.heap.size+1<w1.heap.size:=T1.b2.lt;have x1_0:w1.cell? ⟨w.heap.size,0,none⟩=some (.int .i64 (s 0)):=T1.b1.cell 0;have x1_1:w1.cell? ⟨w.heap.size,1,none⟩=some (.int .i64 (s 1)):=T1.b1.cell 1;have x1_2:w1.cell? ⟨w.heap.size,2,none⟩=some (.int .i64 (s 2)):=T1.b1.cell 2;have x1_3:w1.cell? ⟨w.heap.size,3,none⟩=some (.int .i64 (s 3)):=T1.b1.cell 3;have x1_4:w1.cell? ⟨w.heap.size,4,none⟩=some (.int .i64 (s 4)):=T1.b1.cell 4;have x1_5:w1.cell? ⟨w.heap.size,5,none⟩=some (.int .i64 (s 5)):=T1.b1.cell 5;have x1_6:w1.cell? ⟨w.heap.size,6,none⟩=some (.int .i64 (s 6)):=T1.b1.cell 6;have x1_7:w1.cell? ⟨w.heap.size,7,none⟩=some (.int .i64 (s 7)):=T1.b1.cell 7;have x1_8:w1.cell? ⟨w.heap.size,8,none⟩=some (.int .i64 (s 8)):=T1.b1.cell 8;have y1_0:w1.cell? ⟨w.heap.size+1,0,none⟩=some (.int .i64 r.kind):=T1.b2.cell 0;have y1_1:w1.cell? ⟨w.heap.size+1,1,none⟩=some (.int .i64 r.seq):=T1.b2.cell 1;have y1_2:w1.cell? ⟨w.heap.size+1,2,none⟩=some (.string r.name):=T1.b2.cell 2;have y1_3:w1.cell? ⟨w.heap.size+1,3,none⟩=some (.int .i64 r.length):=T1.b2.cell 3;have y1_4:w1.cell? ⟨w.heap.size+1,4,none⟩=some (.int .i64 r.group):=T1.b2.cell 4;have y1_5:w1.cell? ⟨w.heap.size+1,5,none⟩=some (.int .i64 r.row):=T1.b2.cell 5;have y1_6:w1.cell? ⟨w.heap.size+1,6,none⟩=some (.slice ao6 r.rows.1 cap6):=T1.b2.cell 6;have y1_7:w1.cell? ⟨w.heap.size+1,7,none⟩=some (.slice ao7 r.data.1 cap7):=T1.b2.cell 7;have y1_8:w1.cell? ⟨w.heap.size+1,8,none⟩=some (.slice ao8 r.delta.1 cap8):=T1.b2.cell 8;clear T1
  go_upto_region 4 with fail
  have bA:=bAl w1 (.cells #[.int .i64 pc,.int .i64 pv] 185);have T2:Two w (w1.alloc (.cells #[.int .i64 pc,.int .i64 pv] 185)) (rwS s).toArray (rwR r ao6 cap6 ao7 cap7 ao8 cap8).toArray 34 83:=HT1.out.call bA;have X2:=zao w1 #[.int .i64 pc,.int .i64 pv] 185;obtain ⟨W2,hW2⟩:∃ W2,W2=w1.alloc (.cells #[.int .i64 pc,.int .i64 pv] 185):=⟨_,rfl⟩;rw [← hW2] at T2 X2 ⊢;have HT2:=hid T2;have q0:W2.cell? ⟨w1.heap.size,0,none⟩=some (.int .i64 pc):=X2.cell 0;have q1:W2.cell? ⟨w1.heap.size,1,none⟩=some (.int .i64 pv):=X2.cell 1;clear bA hW2 x1_0 y1_0 x1_1 y1_1 x1_2 y1_2 x1_3 y1_3 x1_4 y1_4 x1_5 y1_5 x1_6 y1_6 x1_7 y1_7 x1_8 y1_8;have x2_0:W2.cell? ⟨w.heap.size,0,none⟩=some (.int .i64 (s 0)):=T2.b1.cell 0;have x2_1:W2.cell? ⟨w.heap.size,1,none⟩=some (.int .i64 (s 1)):=T2.b1.cell 1;have x2_2:W2.cell? ⟨w.heap.size,2,none⟩=some (.int .i64 (s 2)):=T2.b1.cell 2;have x2_3:W2.cell? ⟨w.heap.size,3,none⟩=some (.int .i64 (s 3)):=T2.b1.cell 3;have x2_4:W2.cell? ⟨w.heap.size,4,none⟩=some (.int .i64 (s 4)):=T2.b1.cell 4;have x2_5:W2.cell? ⟨w.heap.size,5,none⟩=some (.int .i64 (s 5)):=T2.b1.cell 5;have x2_6:W2.cell? ⟨w.heap.size,6,none⟩=some (.int .i64 (s 6)):=T2.b1.cell 6;have x2_7:W2.cell? ⟨w.heap.size,7,none⟩=some (.int .i64 (s 7)):=T2.b1.cell 7;have x2_8:W2.cell? ⟨w.heap.size,8,none⟩=some (.int .i64 (s 8)):=T2.b1.cell 8;have y2_0:W2.cell? ⟨w.heap.size+1,0,none⟩=some (.int .i64 r.kind):=T2.b2.cell 0;have y2_1:W2.cell? ⟨w.heap.size+1,1,none⟩=some (.int .i64 r.seq):=T2.b2.cell 1;have y2_2:W2.cell? ⟨w.heap.size+1,2,none⟩=some (.string r.name):=T2.b2.cell 2;have y2_3:W2.cell? ⟨w.heap.size+1,3,none⟩=some (.int .i64 r.length):=T2.b2.cell 3;have y2_4:W2.cell? ⟨w.heap.size+1,4,none⟩=some (.int .i64 r.group):=T2.b2.cell 4;have y2_5:W2.cell? ⟨w.heap.size+1,5,none⟩=some (.int .i64 r.row):=T2.b2.cell 5;have y2_6:W2.cell? ⟨w.heap.size+1,6,none⟩=some (.slice ao6 r.rows.1 cap6):=T2.b2.cell 6;have y2_7:W2.cell? ⟨w.heap.size+1,7,none⟩=some (.slice ao7 r.data.1 cap7):=T2.b2.cell 7;have y2_8:W2.cell? ⟨w.heap.size+1,8,none⟩=some (.slice ao8 r.delta.1 cap8):=T2.b2.cell 8
  clear T2 X2
  by_cases hok:1≤r.length∧r.length≤3*(s 2*4)
  ·have hpp:pc=0∧pv=(r.length+s 2*4-1)/(s 2*4):=by
    rcases hp with ⟨h1,_⟩ | ⟨_,h1,_⟩ | ⟨_,h1,h2,_⟩ | ⟨_,_,_,h1,h2⟩
    ·exact absurd hs h1
    ·omega
    ·omega
    ·exact ⟨h1,h2⟩
   obtain ⟨rfl,hpv⟩:=hpp;have HPV:=hid hpv;have HOK:=hid hok;clear hp hpv hs
   by_cases hd:0<r.data.1
   ·have d1:decide (0<(r.data.1:Int))=true:=by simp;omega
    obtain ⟨b0,h0⟩:∃ b,((r.data.1:Int)==r.length)=b:=⟨_,rfl⟩;obtain ⟨b1,h1⟩:∃ b,((r.rows.1:Int)==0)=b:=⟨_,rfl⟩
    have HE:Hid (zbF s r↔(b0=true∧b1=true)):=by
     show zbF s r↔_
     rw [← h0,← h1];unfold zbF;have:=HL.out;have:=HOK.out
     constructor
     ·rintro (h | ⟨_,_,_,h | h⟩)
      ·omega
      ·simp;omega
      ·omega
     ·intro h
      simp at h
      exact .inr ⟨by omega,by omega,by omega,.inl ⟨hd,h.1,h.2⟩⟩
    have hst:b0=false∨(b0=true∧b1=false)∨(b0=true∧b1=true):=by
     clear HE h0 h1
     cases b0<;>simp
    clear hok
    rcases hst with rfl | ⟨rfl,rfl⟩ | ⟨rfl,rfl⟩
    all_goals
     go_wp2;go_ret
     first
      | exact zak rfl (fun h=>by have:=HE.out.1 h;simp at this) HT2.out.bel
      | exact zaC rfl (HE.out.2 (by simp)) HT2.out.bel
   ·have d1:decide (0<(r.data.1:Int))=false:=by simp;omega
    have hd0:r.data.1=0:=by omega
    obtain ⟨t2,h2⟩:=exB (zbZ r.rows.1 r.rows.2 (s 4-1));have cQ:=zbb (zcQ _ r.rows.1 r.rows.2 hi (s 4) (by omega) (by omega) W2 (H6.out.below HT2.out.bel hhi) HCP.out (Nat.le_trans hhi HT2.out.bel.size)) h2;obtain ⟨b0,h0⟩:∃ b,((r.rows.1:Int)==pv)=b:=⟨_,rfl⟩
    have HE:Hid (zbF s r↔(b0=true∧t2=true)):=by
     show zbF s r↔_
     rw [← h0,h2,HPV.out];unfold zbF;have:=HL.out;have:=HOK.out
     constructor
     ·rintro (h | ⟨_,_,_,h | h⟩)
      ·omega
      ·omega
      ·exact ⟨by simpa using h.2.1,h.2.2⟩
     ·intro h
      exact .inr ⟨by omega,by omega,by omega,.inr ⟨hd0,by simpa using h.1,h.2⟩⟩
    clear hok h2 hd0
    cases b0 with
    | false=>
     go_wp2;go_ret;exact zak rfl (fun h=>by have:=HE.out.1 h;simp at this) HT2.out.bel
    | true=>
     go_wp2_with fail
     refine cQ.mono ?_;rintro e w3 ⟨rfl,b3⟩;have HB3:Hid (Below w.heap.size w w3):=(HT2.out.call b3).bel;clear b3 cQ;go_wp2;go_ret
     cases t2 with
     | true=>exact zaC rfl (HE.out.2 (by simp)) HB3.out
     | false=>exact zak rfl (fun h=>by have:=HE.out.1 h;simp at this) HB3.out
  ·have hc0:(pc != 0)=true:=by
    have:pc≠0:=by
     rcases hp with ⟨h1,h2,_⟩ | ⟨_,h1,h2,_⟩ | ⟨_,h1,h2,h3,_⟩ | ⟨_,h1,h2,h3,_⟩
     ·omega
     ·omega
     ·omega
     ·omega
    simp [this]
   have HNO:Hid (¬ zbF s r):=fun h=>by
    have:=HL.out;unfold zbF at h;omega
   clear hp hok;go_wp2;go_ret;exact zak rfl HNO.out HT2.out.bel
def zeb (g:Nat→Int):Nat→Int
 | 0=>0
 | k+1=>g k+1
theorem zj3 {g:Nat→Int} {most:Int} {k:Nat} (h:zcY k g most) (h1:zeb g k≤g k) (h2:g k≤most):zcY (k+1) g most:=fun i hi=>by
 by_cases c:i=k
 ·subst c
  cases i with
  | zero=>exact ⟨h1,h2,fun h0=>by omega⟩
  | succ j=>
   have:=(h j (by omega)).1
   simp only [zeb] at h1
   exact ⟨by omega,h2,fun _=>by rw [show j+1-1=j by omega];omega⟩
 ·exact h i (by omega)
theorem zi4 {g:Nat→Int} {most:Int} {n k:Nat} (h:zcY n g most) (hk:k<n):zeb g k≤g k:=by
 cases k with
 | zero=>exact (h 0 hk).1
 | succ j=>
  have:=(h (j+1) hk).2.2 (by omega);rw [show j+1-1=j by omega] at this
  simp only [zeb]
  omega
theorem zeV (v:Value) (n:Nat) (g:Nat→Int) (hi:Nat) (bound:Int) (hb:bound≤1000000) (w:World) (r:RdI w hi v n g) :
 Calls Tryz.prog 157 #[v,.int .i64 bound] w (zaT (zcY n g (bound-1)) w):=by
 obtain ⟨ao,cap,rfl,hm,hc⟩:=r;unfold maxLen at hm
 go_enter Tryz.func157,Tryz.ntmps157
 go_wp2
 go_loop [5,10] (fun l i=>∃ k:Nat,k≤n∧i=.int .i64 k∧l=.int .i64 (zeb g k)∧zcY k g (bound-1)) (fun _ i=>n-(intOf i).toNat)
 case atStart=>exact ⟨0,Nat.zero_le _,rfl,rfl,fun i hi=>by omega⟩
 case round=>
  obtain ⟨k,hk,rfl,rfl,hall⟩:=hrel;have HALL:=hid hall;clear hall
  by_cases hlt:k<n
  ·obtain ⟨b,off,rfl,hblt,hcell⟩:=hc (by omega)
   have hck:w.cell? ⟨b,off+k,none⟩=some (.int .i64 (g k)):=hcell k hlt;obtain ⟨x,hx⟩:∃ x,x=g k:=⟨_,rfl⟩;have HX:=hid hx;rw [← hx] at hck;obtain ⟨l,hl⟩:∃ l,l=zeb g k:=⟨_,rfl⟩;have HL:=hid hl;rw [← hl]
   have hl0:0≤l:=by
    rw [hl]
    cases k with
    | zero=>exact Int.le_refl _
    | succ j=>
     have:=(HALL.out j (by omega)).1
     simp only [zeb]
     omega
   clear hc hcell hx hl
   by_cases h1:x<l
   ·have HNO:Hid (¬ zcY n g (bound-1)):=fun h=>by
     have:=zi4 h hlt;rw [← HX.out,← HL.out] at this;omega
    go_wp2;go_ret;exact zak rfl HNO.out (Below.refl _ _)
   ·have e1:decide (x<l)=false:=by simp;omega
    by_cases h2:bound≤x
    ·have HNO:Hid (¬ zcY n g (bound-1)):=fun h=>by
      have:=(h k hlt).2.1;rw [← HX.out] at this;omega
     clear h1;go_wp2;go_ret;exact zak rfl HNO.out (Below.refl _ _)
    ·have e2:decide (bound≤x)=false:=by simp;omega
     have HRN:Hid (zcY (k+1) g (bound-1)):=zj3 HALL.out (by rw [← HX.out,← HL.out];omega) (by rw [← HX.out];omega)
     have hxb:x≤1000000:=by omega
     have hx0:0≤x:=by omega
     have HLN:Hid (x+1=zeb g (k+1)):=by show x+1=g k+1;rw [HX.out]
     have wadd:IntKind.i64.wrap (x+1)=x+1:=by rw [IntKind.wrap_i64];omega
     clear h1 h2;go_wp2
     go_round
     case rel=>exact ⟨k+1,by omega,by go_num,by rw [← HLN.out],HRN.out⟩
     case measure=>simp [intOf];omega
  ·obtain rfl:k=n:=by omega
   clear hc;go_wp2;go_ret;exact zaC rfl HALL.out (Below.refl _ _)
end Go.Proofs.YtajibninhikdgaaGreat
