/- The specification's newest items that are not deleted: each laid into its place by name. -/
import Derived.Test.YtecofihpkcljcaaGreatZPwaitial
set_option linter.unusedVariables false
set_option linter.unusedSimpArgs false
set_option maxHeartbeats 16000000
namespace Go.Proofs.YtecofihpkcljcaaGreat
open Go.RowKit F256
def LiveK (x:Nat→RecD) (N k:Nat) (l:List Nat):Prop:=(∀ i,i∈l↔i<k∧LiveP x N i)∧l.Pairwise (fun a b=>nmL (x a)<nmL (x b))
theorem bl_eq (a b:ByteArray):Op.bytesLess a.toList b.toList=decide (a.data.toList<b.data.toList):=by
 rw [bytesLess_eq,ByteArray.toList_eq,ByteArray.toList_eq]
theorem LiveK.nil (x:Nat→RecD) (N:Nat):LiveK x N 0 []:=⟨fun i=>⟨(fun h=>by cases h),(fun h=>by omega)⟩,List.Pairwise.nil⟩
theorem LiveK.skip {x:Nat→RecD} {N k:Nat} {l:List Nat} (h:LiveK x N k l) (hn:¬ LiveP x N k):LiveK x N (k+1) l:=
 ⟨fun i=>by
  rw [h.1 i]
  constructor
  ·rintro ⟨h1,h2⟩
   exact ⟨by omega,h2⟩
  ·rintro ⟨h1,h2⟩
   refine ⟨?_,h2⟩
   by_cases e:i=k
   ·subst e;exact absurd h2 hn
   ·omega,h.2⟩
theorem LiveK.done {x:Nat→RecD} {N:Nat} {l:List Nat} (h:LiveK x N N l):Live x N l:=⟨fun i=>by rw [h.1 i];exact ⟨fun h=>h.2,fun h=>⟨h.1,h⟩⟩,h.2⟩
theorem LiveP.same {x:Nat→RecD} {N a b:Nat} (h:LiveP x N a) (k:LiveP x N b) (e:nmL (x a)=nmL (x b)):a=b:=by
 have e2:(x a).name=(x b).name:=by
  have h1:=zfT (x a).name;have h2:=zfT (x b).name;rw [← h1,← h2];exact congrArg (fun l:List UInt8=>(⟨l.toArray⟩:ByteArray)) e
 have h1:=h.2.2.2;have h2:=k.2.2.2;rw [e2,h2] at h1;omega
theorem LiveK.ins {x:Nat→RecD} {N M:Nat} {l:List Nat} (h:LiveK x N M l) (hp:LiveP x N M) (al:Nat) (hat:al≤l.length) (hbeh:∀ k,al≤k→k<l.length→nmL (x M)<nmL (x (l.getD k 0))) (hS:al=0∨¬ nmL (x M)<nmL (x (l.getD (al-1) 0))):LiveK x N (M+1) (l.take al++M::l.drop al):=by
 have hmem:∀ i,i∈l.take al++M::l.drop al↔i=M∨i∈l:=fun i=>by
  have e:i∈l↔i∈l.take al∨i∈l.drop al:=by
   rw [← List.mem_append,List.take_append_drop]
  rw [List.mem_append,List.mem_cons,e]
  constructor
  ·rintro (h | h | h)
   ·exact .inr (.inl h)
   ·exact .inl h
   ·exact .inr (.inr h)
  ·rintro (h | h | h)
   ·exact .inr (.inl h)
   ·exact .inl h
   ·exact .inr (.inr h)
 have hpl:=h.2;rw [← List.take_append_drop al l] at hpl;obtain ⟨p1,p2,p3⟩:=List.pairwise_append.1 hpl
 have hb:∀ a,a∈l.drop al→nmL (x M)<nmL (x a):=fun a ha=>by
  obtain ⟨j,hj,rfl⟩:=List.getElem_of_mem ha;rw [List.length_drop] at hj;have:=hbeh (al+j) (by omega) (by omega);rw [List.getElem_drop];rw [List.getD_eq_getElem?_getD,List.getElem?_eq_getElem (by omega)] at this;exact this
 have ha:∀ a,a∈l.take al→nmL (x a)<nmL (x M):=fun a ha=>by
  obtain ⟨j,hj,rfl⟩:=List.getElem_of_mem ha;rw [List.length_take] at hj;rw [List.getElem_take]
  have hal:al-1<l.length:=by omega
  have hlast:nmL (x (l[al-1]'hal))<nmL (x M):=by
   rcases hS with e | hS
   ·omega
   ·rw [List.getD_eq_getElem?_getD,List.getElem?_eq_getElem hal] at hS
    have hne:nmL (x (l[al-1]'hal))≠nmL (x M):=fun e=>by
     have hm:=(h.1 _).1 (List.getElem_mem hal);have:=LiveP.same hm.2 hp e;omega
    apply Classical.byContradiction
    intro hn;exact hne (List.le_antisymm (List.not_lt.1 hS) (List.not_lt.1 hn))
  by_cases e:j=al-1
  ·subst e;exact hlast
  ·have:=List.pairwise_iff_getElem.1 h.2 j (al-1) (by omega) hal (by omega)
   exact List.lt_trans this hlast
 refine ⟨fun i=>?_,List.pairwise_append.2 ⟨p1,List.pairwise_cons.2 ⟨hb,p2⟩,fun a h1 b h2=>?_⟩⟩
 ·rw [hmem,h.1 i]
  constructor
  ·rintro (rfl | ⟨h1,h2⟩)
   ·exact ⟨by omega,hp⟩
   ·exact ⟨by omega,h2⟩
  ·rintro ⟨h1,h2⟩
   by_cases e:i=M
   ·exact .inl e
   ·exact .inr ⟨by omega,h2⟩
 ·rcases List.mem_cons.1 h2 with rfl | h2
  ·exact ha a h1
  ·exact p3 a h1 b h2
theorem zgi (p:Nat→Prop):∀ n,∃ al,al≤n∧(∀ k,al≤k→k<n→p k)∧(al=0∨¬ p (al-1))
 | 0=>⟨0,Nat.le_refl _,fun k h1 h2=>by omega,.inl rfl⟩
 | n+1=>by
  by_cases h:p n
  ·obtain ⟨al,h1,h2,h3⟩:=zgi p n
   exact ⟨al,by omega,fun k q1 q2=>by
    by_cases e:k=n
    ·subst e;exact h
    ·exact h2 k q1 (by omega),h3⟩
  ·exact ⟨n+1,Nat.le_refl _,fun k h1 h2=>by omega,.inr h⟩
theorem zgj (x:Nat→RecD) (N:Nat):∀ k,∃ l,LiveK x N k l
 | 0=>⟨_,LiveK.nil x N⟩
 | k+1=>by
  obtain ⟨l,h⟩:=zgj x N k
  by_cases hp:LiveP x N k
  ·obtain ⟨al,h1,h2,h3⟩:=zgi (fun i=>nmL (x k)<nmL (x (l.getD i 0))) l.length
   exact ⟨_,h.ins hp al h1 h2 h3⟩
  ·exact ⟨l,h.skip hp⟩
theorem zjq (x:Nat→RecD) (N:Nat):∃ l,Live x N l:=by
 obtain ⟨l,h⟩:=zgj x N N;exact ⟨l,h.done⟩
set_option maxRecDepth 100000 in
theorem zfY (hiE:Nat) (v:Value) (N:Nat) (x0:Nat→RecD) (hi:Nat) (w:World) (h:(zab.slice 59).rd w hi (N,x0) [v]) (hEle:hiE≤hi) (hE:∀ ao cap,v=.slice ao N cap→∀ w',Below w.heap.size w w'→∃ cy,Src zab w' hiE ao N x0 cy) (hhi:hi≤w.heap.size) (hNb:N≤800000) :
 Calls Tryz.prog 35 #[v] w (fun e w'=>∃ v' l ce lo,e=.returned v'∧Live x0 N l∧w.heap.size≤lo∧View zab 59 w' lo hiE v' l.length (fun i=>x0 (l.getD i 0)) ce∧Below w.heap.size w w'):=by
 obtain ⟨ao0,cap0,ev,_⟩:=h
 obtain rfl:v=.slice ao0 N cap0:=by simpa using ev
 have HRS:Hid (∀ w',Below w.heap.size w w'→(zab.slice 59).rd w' hi (N,x0) [.slice ao0 N cap0]):=fun w' hb=>Lay.rd_below _ ⟨ao0,cap0,ev,by assumption⟩ hb hhi;have HSE:Hid (∀ w',Below w.heap.size w w'→∃ cy,Src zab w' hiE ao0 N x0 cy):=hE ao0 cap0 rfl;clear hE;have bL:=bAl w (.cells #[] 59);have V0:=View.lit0 (E:=zab) (t:=59) (fun i=>x0 (([]:List Nat).getD i 0)) (fun _=>[]) w hiE;clear ev
 go_enter Tryz.func35,Tryz.ntmps35
 go_wp2
 go_loopw [3,4] (fun vo vi wr=>∃ (i lo:Nat) (l:List Nat) (co:Nat→List Value),i≤N∧vi=.int .i64 i∧w.heap.size≤lo∧lo≤wr.heap.size∧LiveK x0 N i l∧l.length≤i∧View zab 59 wr lo hiE vo l.length (fun i=>x0 (l.getD i 0)) co∧Below w.heap.size w wr) (fun _ i _=>N-(intOf i).toNat)
 case atStart=>exact ⟨0,w.heap.size,[],fun _=>[],Nat.zero_le _,rfl,Nat.le_refl _,bL.size,LiveK.nil x0 N,Nat.zero_le _,V0,bL⟩
 case round=>
  clear bL V0;obtain ⟨i,lo,l,co,hiE',rfl,hlo,hlow,hLK,hLl,V,bw⟩:=hrel;obtain ⟨wi,rfl⟩:∃ y,y=wr:=⟨_,rfl⟩;obtain ⟨n,hn⟩:∃ n,n=l.length:=⟨_,rfl⟩;have HN:=hid hn;rw [← hn] at V hLl;have HLK:=hid hLK;obtain ⟨ao,cap,hvo⟩:=V.form;subst hvo;have HV:=hid V;have HBW:=hid bw;have zr:w.heap.size≤wi.heap.size:=bw.size;have hrs:=HSE.out wi bw;clear hLK hn V bw
  by_cases hlt2:i<N
  ·obtain ⟨cy,hS⟩:=hrs
   obtain ⟨b,off,hrb,hcell⟩:=hS.1 (by omega);subst hrb;have rdR:=hS.2 i hlt2;have hcR:(cy i).length=9:=zab.rd_len rdR
   have rgR:wi.rangeAt b (off+i*9) (cy i):=fun j v hv=>by
    have hj:j<9:=by rw [← hcR];exact (List.getElem?_eq_some_iff.1 hv).1
    have:=hcell i hlt2 j hj;rw [show off+(i*zab.sz+j)=off+i*9+j from (Nat.add_assoc _ _ _).symm] at this;exact this.trans hv
   obtain ⟨cR,hcRe⟩:∃ c,c=cy i:=⟨_,rfl⟩;rw [← hcRe] at rgR hcR rdR;obtain ⟨M,hM⟩:∃ M,M=i:=⟨_,rfl⟩;have HMM:=hid hM;rw [← hM] at rdR HLK;have oneR:∀ v,v∈cR→v.oneCell'=true:=zaC _ _ _ _ rdR
   have i1:(0:Int)≤(i:Int):=by omega
   have i2:(i:Int)<(N:Int):=by omega
   have bA:=bAl wi (.cells cR.toArray 59);have XA:=zal wi cR.toArray 59;have rdW:zab.rd (wi.alloc (.cells cR.toArray 59)) hiE (x0 M) cR:=zab.rd_below rdR bA (by omega)
   have hML:M<N:=by omega
   clear hS hcell hcRe rdR hM
   go_upto_region 6 with (first | (refine wpList_load_mid rfl 59 (.tmp 16) rfl b (off+i*9) (by simp [Act.eval]) cR _ rgR Tryz.underlying59 rfl (zag hcR) ?_) | (refine zaM 59 5 (.tmp 17) cR _ 9 rfl rfl rfl rfl rfl rfl rfl rfl zcy rfl hcR oneR ?_))
   obtain ⟨W,hW⟩:∃ x,x=wi.alloc (.cells cR.toArray 59):=⟨_,rfl⟩;rw [← hW] at bA XA rdW ⊢;clear hW rgR;have VW:=HV.out.below bA (by omega);have zW':wi.heap.size<W.heap.size:=XA.lt;have HXW:=hid XA;have HVW:=hid VW;have HRW:=hid rdW;have HBW2:=hid (HBW.out.trans (bA.mono zr))
   have HCE:Hid (cR[0]?=some (.int .i64 (x0 M).kind)∧cR[2]?=some (.string (x0 M).name)∧cR[3]?=some (.int .i64 (x0 M).length)):=by
    obtain ⟨ao6,cap6,ao7,cap7,ao8,cap8,hce,-⟩:=zaz rdW;rw [hce];exact ⟨rfl,rfl,rfl⟩
   obtain ⟨kd,hkd⟩:∃ k,k=(x0 M).kind:=⟨_,rfl⟩;obtain ⟨ln,hln⟩:∃ k,k=(x0 M).length:=⟨_,rfl⟩;obtain ⟨nm,hnm⟩:∃ k,k=(x0 M).name:=⟨_,rfl⟩
   have y0:W.cell? ⟨wi.heap.size,0,none⟩=some (.int .i64 kd):=by rw [XA.cell 0,hkd];simpa using HCE.out.1
   have y2:W.cell? ⟨wi.heap.size,2,none⟩=some (.string nm):=by rw [XA.cell 2,hnm];simpa using HCE.out.2.1
   have y3:W.cell? ⟨wi.heap.size,3,none⟩=some (.int .i64 ln):=by rw [XA.cell 3,hln];simpa using HCE.out.2.2
   have HKD:=hid hkd;have HLN:=hid hln;have HNM:=hid hnm;clear VW XA rdW bA HV HBW hkd hln hnm
   by_cases ck:kd=1
   case neg=>
    have d1:(kd != 1)=true:=by simp [ck]
    have HNO:Hid (¬ LiveP x0 N M):=fun q=>ck (HKD.out.trans q.2.1);clear ck;go_wp2
    go_roundw
    case rel=>exact ⟨i+1,lo,l,co,by omega,by go_num,hlo,by omega,by rw [← HMM.out];exact HLK.out.skip HNO.out,by rw [← HN.out];omega,by rw [← HN.out];exact HVW.out,HBW2.out⟩
    case measure=>simp [intOf];omega
   have d1:(kd != 1)=false:=by simp [ck]
   have HCK:=hid ck;clear ck
   by_cases cl:ln<0
   case pos=>
    have HNO:Hid (¬ LiveP x0 N M):=fun q=>q.2.2.1 (by rw [← HLN.out];exact cl);go_wp2
    go_roundw
    case rel=>exact ⟨i+1,lo,l,co,by omega,by go_num,hlo,by omega,by rw [← HMM.out];exact HLK.out.skip HNO.out,by rw [← HN.out];omega,by rw [← HN.out];exact HVW.out,HBW2.out⟩
    case measure=>simp [intOf];omega
   have HCL:=hid cl;have CN:=zfb (.slice (some ⟨b,off,none⟩) N cap0) N x0 nm hi W (HRS.out W HBW2.out) (by omega) (by omega);obtain ⟨at9,hat9⟩:∃ a,a=zcs (itm x0 nm) N:=⟨_,rfl⟩;have HAT9:=hid hat9;rw [← hat9] at CN;clear hat9
   go_wp2_with fail
   refine CN.mono ?_;rintro ee w5 ⟨rfl,b5⟩;have z5:W.heap.size≤w5.heap.size:=b5.size;have HV5:Hid (View zab 59 w5 lo hiE (.slice ao n cap) n (fun i=>x0 (l.getD i 0)) co):=HVW.out.below b5 (by omega);have HX5:=hid (HXW.out.below b5 zW');have HR5:Hid (zab.rd w5 hiE (x0 M) cR):=zab.rd_below HRW.out b5 (by omega);have HB5:Hid (Below w.heap.size w w5):=HBW2.out.trans (b5.mono (by omega));clear b5 CN HVW HXW HRW HBW2 y0 y2 y3
   by_cases ca:at9=(i:Int)
   case neg=>
    have da:(at9 != (i:Int))=true:=by simp [ca]
    have HNO:Hid (¬ LiveP x0 N M):=fun q=>ca (by rw [HAT9.out,HNM.out,q.2.2.2,HMM.out]);have HVW:=HV5;have HBW2:=HB5;clear ca;go_wp2
    go_roundw
    case rel=>exact ⟨i+1,lo,l,co,by omega,by go_num,hlo,by omega,by rw [← HMM.out];exact HLK.out.skip HNO.out,by rw [← HN.out];omega,by rw [← HN.out];exact HVW.out,HBW2.out⟩
    case measure=>simp [intOf];omega
   have da:(at9 != (i:Int))=false:=by simp [ca]
   have HF:Hid (LiveP x0 N M):=⟨hML,by rw [← HKD.out];exact HCK.out,by rw [← HLN.out];omega,by rw [← HNM.out,← HAT9.out,ca,HMM.out]⟩;clear ca cl;go_wp2
   go_loopw [6] (fun va wx=>∃ at_:Nat,at_≤n∧va=.int .i64 at_∧(∀ k,at_≤k→k<n→nmL (x0 M)<nmL (x0 (l.getD k 0)))∧Below w5.heap.size w5 wx) (fun va _=>(intOf va).toNat)
   case atStart=>exact ⟨n,Nat.le_refl _,by go_num,fun k h1 h2=>by omega,Below.refl _ _⟩
   case round=>
    obtain ⟨at_,hat,rfl,hbeh,bx⟩:=hrel;obtain ⟨wx,rfl⟩:∃ y,y=wr:=⟨_,rfl⟩;have HBE:=hid hbeh;have zx:w5.heap.size≤wx.heap.size:=bx.size;have HVx:Hid (View zab 59 wx lo hiE (.slice ao n cap) n (fun i=>x0 (l.getD i 0)) co):=HV5.out.below bx (by omega);have HXx:Hid (Box wx wi.heap.size cR.toArray 59):=HX5.out.below bx (by omega);have HRx:Hid (zab.rd wx hiE (x0 M) cR):=zab.rd_below HR5.out bx (by omega);have HBx:Hid (Below w.heap.size w wx):=HB5.out.trans (bx.mono (by omega));have HB5x:=hid bx;have bD:Below wx.heap.size wx wx.drew:=⟨rfl,rfl,rfl,Nat.le_refl _,fun _ _=>rfl⟩;clear hbeh bx
    by_cases hat0:at_=0
    ·have d1:decide (0<at_)=false:=decide_eq_false (by omega)
     have d2:decide ((0:Int)<(at_:Int))=false:=decide_eq_false (by omega);have HS:Hid (at_=0∨¬ nmL (x0 M)<nmL (x0 (l.getD (at_-1) 0))):=.inl hat0;clear hat0
     go_upto_region 8 with fail
     refine zap 13 (fun w'=>True) za7 trivial (fun hHeld=>?_);refine zjE 0 rfl ?_
     try simp only [Act.put,SL]
     refine zjE 1 rfl ?_
     try simp only [Act.put,SL]
     try rw [d1]
     refine zjE 2 rfl ?_
     try simp only [Act.put,SL]
     refine zjG 3 rfl ?_
     try simp only [Act.put,SL]
     refine zjG 4 rfl ?_
     try simp only [Act.put,SL]
     refine zjG 5 rfl ?_
     try simp only [Act.put,SL]
     refine zjG 6 rfl ?_
     try simp only [Act.put,SL]
     refine zjG 7 rfl ?_
     try simp only [Act.put,SL]
     refine zjG 8 rfl ?_
     try simp only [Act.put,SL]
     refine zjG 9 rfl ?_
     try simp only [Act.put,SL]
     refine zjG 10 rfl ?_
     try simp only [Act.put,SL]
     refine zjG 11 rfl ?_
     try simp only [Act.put,SL]
     refine zjE 12 rfl ?_
     try simp only [Act.put,SL]
     refine zah (by kernel_rfl) ?_ _;obtain ⟨w9,hw9⟩:∃ x,x=wx.drew:=⟨_,rfl⟩;rw [← hw9] at bD ⊢;have b9:Below wx.heap.size wx w9:=bD;clear bD hw9 hHeld d1 d2;have z9:wx.heap.size≤w9.heap.size:=b9.size;have V9:=(HVx.out.below b9 (by omega)).drew;have b9':Below wx.heap.size wx w9.drew:=b9.trans (show Below wx.heap.size w9 w9.drew from ⟨rfl,rfl,rfl,Nat.le_refl _,fun _ _=>rfl⟩);have X9:Box w9.drew wi.heap.size cR.toArray 59:=HXx.out.below b9' (by omega);have R9:zab.rd w9.drew hiE (x0 M) cR:=zab.rd_below HRx.out b9' (by omega);have B9:Below w.heap.size w w9.drew:=HBx.out.trans (b9'.mono (by omega))
     have rg9:w9.drew.rangeAt wi.heap.size 0 cR:=fun j v hv=>by
      have:=(X9.cell j).trans (by simpa using hv);rw [Nat.zero_add];exact this
     obtain ⟨D,hD⟩:∃ D,D=w9.drew:=⟨_,rfl⟩;have HD:=hid hD;rw [← hD] at V9 X9 R9 B9 rg9
     have zD:w9.heap.size=D.heap.size:=by rw [hD];rfl
     clear hD b9 b9';obtain ⟨aU,cU,hUr,sU,hUz⟩:=V9.upto_ (show hiE≤D.heap.size by omega) (al:=at_) hat;obtain ⟨aF,cF,hFr,sF,rF,hFz⟩:=V9.from_ (show hiE≤D.heap.size by omega) (al:=at_) hat
     have hAU:∀ b off,aU=some ⟨b,off,none⟩→b<D.heap.size:=fun b off e=>by
      rcases V9.form2 with ⟨e3,e4⟩ | ⟨g,cp,e3,e4,hg⟩
      ·have hz:at_=0:=by omega
       have:=hUr D;rw [e3,hz,zcx D] at this
       simp only [Result.ok.injEq,Value.slice.injEq,and_true] at this
       rw [← this.1] at e
       cases e
      ·have:=hUr D
       rw [e3,zcv g n cp at_ hat e4 D] at this
       simp only [Result.ok.injEq,Value.slice.injEq,and_true] at this
       rw [← this.1] at e
       cases e
       exact hg
     have hAF:∀ b off,aF=some ⟨b,off,none⟩→b<D.heap.size:=fun b off e=>by
      rcases V9.form2 with ⟨e3,e4⟩ | ⟨g,cp,e3,e4,hg⟩
      ·have hz:at_=0:=by omega
       have:=hFr D;rw [e3,hz,zcw D] at this
       simp only [Result.ok.injEq,Value.slice.injEq,and_true] at this
       rw [← this.1] at e
       cases e
      ·have:=hFr D
       rw [e3,zcu g n cp at_ hat D] at this
       simp only [Result.ok.injEq,Value.slice.injEq,and_true] at this
       rw [← this.1] at e
       split at e<;>cases e<;>exact hg
     have hiD:hiE≤D.heap.size:=by omega
     have hpD:wi.heap.size<D.heap.size:=X9.lt
     have hatL:at_≤l.length:=by rw [← HN.out];exact hat
     have HCN:Hid (LiveK x0 N (M+1) (l.take at_++M::l.drop at_)):=HLK.out.ins HF.out at_ hatL (fun k h1 h2=>HBE.out k h1 (by rw [HN.out];exact h2)) HS.out;have HRd:=hid R9;have HBD:=hid B9;have HUS:=hid sU;have HFS:=hid sF;clear V9 X9 R9 B9 sU sF rF
     go_upto_region 10 with fail
     refine zap 7 (fun w'=>w'.rangeAt wi.heap.size 0 cR) za7 (by rw [← HD.out];exact rg9) (fun hHeld=>?_);rw [← HD.out] at hHeld ⊢;refine zjE 1 rfl ?_
     try simp only [Act.put,SL]
     refine zjE 2 rfl ?_
     try simp only [Act.put,SL]
     refine zjC 3 (v:=?_) rfl ?_ ?_
     rotate_left
     ·intro w' hSw
      try rw [show (Instr.slice 47 (.slice ao n cap) none (some (.int .i64 (at_:Int))) none).run Tryz.prog w'=_ from hUr w']
      have hSl':=hUr w';go_simp
      try with_reducible rfl
     try simp only [Act.put,SL]
     refine zad (i:=5) (oi:=_) 16 rfl (by kernel_rfl) (fun _ _ _ h=>h) (yieldsIf_load_mid (by kernel_rfl) 59 (.tmp 5) rfl wi.heap.size (0) (by simp [Act.eval,Act.put]) cR _ (fun w h=>h) Tryz.underlying59 rfl (zag hcR)) (by assumption) ?_
     try simp only [Act.put,SL]
     refine zjE 8 rfl ?_
     try simp only [Act.put,SL]
     refine zjE 9 rfl ?_
     try simp only [Act.put,SL]
     refine zjC 10 (v:=?_) rfl ?_ ?_
     rotate_left
     ·intro w' hSw
      try rw [show (Instr.slice 47 (.slice ao n cap) (some (.int .i64 (at_:Int))) none none).run Tryz.prog w'=_ from hFr w']
      have hSl':=hFr w';go_simp
      try with_reducible rfl
     try simp only [Act.put,SL]
     refine za5 (i:=0) (j:=6) (o:=_) (o':=_) rfl rfl (by kernel_rfl) (fun KC hKC=>?_) (fun KC hKC=>?_)
     ·refine za6 rfl rfl ?_
      have bA:=bAl D (.cells #[] 59);refine hKC _ _ (zai rg9 bA hpD) ?_;clear hKC KC
      try simp only [Act.put,SL]
      have VL:=View.lit0 (E:=zab) (t:=59) (fun i=>x0 (l.getD i 0)) co D hiE;have zA1:D.heap.size<(D.alloc (.cells #[] 59)).heap.size:=(zal D #[] 59).lt;obtain ⟨D1,hD1⟩:∃ x,x=D.alloc (.cells #[] 59):=⟨_,rfl⟩;rw [← hD1] at bA VL zA1 ⊢;clear hD1;refine za5 (i:=4) (j:=6) (o:=_) (o':=_) rfl rfl (by kernel_rfl) (fun KC hKC=>?_) (fun KC hKC=>?_)
      ·skip
       obtain ⟨v4,w4,cv4,runv4,V4,bw4⟩:=zgg (lo:=lo) HUS.out hUz hAU bA hiD (by omega) VL;refine zam rfl (.tmp 51) (.tmp 54) rfl (by simp [Act.eval,Act.put]) (by simp [Act.eval,Act.put]) runv4 ?_;have b4D:=bA.trans bw4;refine hKC _ _ (zai rg9 b4D hpD) ?_;clear hKC KC
       try simp only [Act.put,SL]
       refine zax (i:=6) (o:=_) rfl (by kernel_rfl) (fun KC hKC=>?_);refine zaG rfl (.tmp 56) rfl HRd.out (by simp [Act.eval,Act.put]) ?_;have b6:=bAl w4 (.cells cR.toArray 59);have b6D:=b4D.trans (b6.mono b4D.size);refine hKC _ _ (zai rg9 b6D hpD) ?_;clear hKC KC
       try simp only [Act.put,SL]
       have V6:=V4.below b6 (by have:=b4D.size;omega);have X6:=zal w4 cR.toArray 59;obtain ⟨v7,w7,cv7,runv7,V7,bw7⟩:=zbE b6D hiD (by omega) V6 X6 (zab.rd_below HRd.out b6D hiD);refine zae (i:=7) (o:=_) rfl (by kernel_rfl) (by kernel_rfl) (fun KC hKC=>?_);refine zam rfl (.tmp 55) (.tmp 57) rfl (by simp [Act.eval,Act.put]) (by simp [Act.eval,Act.put]) runv7 ?_;refine hKC _ _ ?_;clear hKC KC
       try simp only [Act.put,SL]
       have b7D:=b6D.trans bw7;obtain ⟨v8,w8,cv8,runv8,V8,bw8⟩:=zbc HFS.out hFz hAF b7D hiD (by omega) V7;refine zae (i:=11) (o:=_) rfl (by kernel_rfl) (by kernel_rfl) (fun KC hKC=>?_);refine zam rfl (.tmp 58) (.tmp 61) rfl (by simp [Act.eval,Act.put]) (by simp [Act.eval,Act.put]) runv8 ?_;refine hKC _ _ ?_;clear hKC KC
       try simp only [Act.put,SL]
       refine zjr 12 (v:=?_) rfl ?_ ?_
       rotate_left
       ·intro w' hSw;go_simp;try with_reducible rfl
       try simp only [Act.put,SL]
       refine zah (by kernel_rfl) ?_ _
       have HV8:Hid (View zab 59 w8 D.heap.size hiE v8 (l.take at_++M::l.drop at_).length (fun i=>x0 ((l.take at_++M::l.drop at_).getD i 0)) cv8):=by
        show View _ _ _ _ _ _ _ _ _
        rw [zaP l M at_ hatL,← HN.out];exact V8.congr (fun i _=>zbd x0 l M at_ hatL i)
       have HB8:Hid (Below w.heap.size w w8):=HBD.out.trans ((b7D.trans bw8).mono (by omega));have z8:D.heap.size≤w8.heap.size:=(b7D.trans bw8).size
       have HLn:Hid ((l.take at_++M::l.drop at_).length≤i+1):=by
        show (l.take at_++M::l.drop at_).length≤i+1
        rw [zaP l M at_ hatL,← HN.out];omega
       clear V8 V7 bw7 bw8 b7D hHeld runv7 runv8 hUr hFr hUz hFz hAU hAF rg9 HUS HFS HRd HBD;go_wp2
       go_roundw
       case rel=>exact ⟨i+1,D.heap.size,l.take at_++M::l.drop at_,cv8,by omega,by go_num,by omega,z8,by rw [← HMM.out];exact HCN.out,HLn.out,HV8.out,HB8.out⟩
       case measure=>simp [intOf];omega
      ·refine zaG rfl (.tmp 56) rfl HRd.out (by simp [Act.eval,Act.put]) ?_
       have b6:=bAl D1 (.cells cR.toArray 59);have b6D:=bA.trans (b6.mono bA.size);refine hKC _ _ (zai rg9 b6D hpD) ?_;clear hKC KC
       try simp only [Act.put,SL]
       have VL6:=VL.below b6 (by have:=bA.size;omega);have X6:=zal D1 cR.toArray 59;have z6:D1.heap.size<(D1.alloc (.cells cR.toArray 59)).heap.size:=X6.lt;have zA:=bA.size;obtain ⟨D2,hD2⟩:∃ x,x=D1.alloc (.cells cR.toArray 59):=⟨_,rfl⟩;rw [← hD2] at b6 b6D VL6 X6 z6 ⊢;clear hD2;have XK:=X6;obtain ⟨v4,w4,cv4,runv4,⟨V4,X4⟩,bw4⟩:=zcz HUS.out hUz hAU b6D hiD (by omega) VL6 X6 (fun h=>by simp [Value.ownBlock] at h;omega);refine zax (i:=4) (o:=_) rfl (by kernel_rfl) (fun KC hKC=>?_);refine zam rfl (.tmp 51) (.tmp 54) rfl (by simp [Act.eval,Act.put]) (by simp [Act.eval,Act.put]) runv4 ?_;have b4D:=b6D.trans bw4;refine hKC _ _ (zai rg9 b4D hpD) ?_;clear hKC KC
       try simp only [Act.put,SL]
       obtain ⟨v7,w7,cv7,runv7,V7,bw7⟩:=zbE b4D hiD (by omega) V4 X4 (zab.rd_below HRd.out b4D hiD);refine zae (i:=7) (o:=_) rfl (by kernel_rfl) (by kernel_rfl) (fun KC hKC=>?_);refine zam rfl (.tmp 55) (.tmp 57) rfl (by simp [Act.eval,Act.put]) (by simp [Act.eval,Act.put]) runv7 ?_;refine hKC _ _ ?_;clear hKC KC
       try simp only [Act.put,SL]
       have b7D:=b4D.trans bw7;obtain ⟨v8,w8,cv8,runv8,V8,bw8⟩:=zbc HFS.out hFz hAF b7D hiD (by omega) V7;refine zae (i:=11) (o:=_) rfl (by kernel_rfl) (by kernel_rfl) (fun KC hKC=>?_);refine zam rfl (.tmp 58) (.tmp 61) rfl (by simp [Act.eval,Act.put]) (by simp [Act.eval,Act.put]) runv8 ?_;refine hKC _ _ ?_;clear hKC KC
       try simp only [Act.put,SL]
       refine zjr 12 (v:=?_) rfl ?_ ?_
       rotate_left
       ·intro w' hSw;go_simp;try with_reducible rfl
       try simp only [Act.put,SL]
       refine zah (by kernel_rfl) ?_ _
       have HV8:Hid (View zab 59 w8 D.heap.size hiE v8 (l.take at_++M::l.drop at_).length (fun i=>x0 ((l.take at_++M::l.drop at_).getD i 0)) cv8):=by
        show View _ _ _ _ _ _ _ _ _
        rw [zaP l M at_ hatL,← HN.out];exact V8.congr (fun i _=>zbd x0 l M at_ hatL i)
       have HB8:Hid (Below w.heap.size w w8):=HBD.out.trans ((b7D.trans bw8).mono (by omega));have z8:D.heap.size≤w8.heap.size:=(b7D.trans bw8).size
       have HLn:Hid ((l.take at_++M::l.drop at_).length≤i+1):=by
        show (l.take at_++M::l.drop at_).length≤i+1
        rw [zaP l M at_ hatL,← HN.out];omega
       clear V8 V7 bw7 bw8 b7D hHeld runv7 runv8 hUr hFr hUz hFz hAU hAF rg9 HUS HFS HRd HBD;go_wp2
       go_roundw
       case rel=>exact ⟨i+1,D.heap.size,l.take at_++M::l.drop at_,cv8,by omega,by go_num,by omega,z8,by rw [← HMM.out];exact HCN.out,HLn.out,HV8.out,HB8.out⟩
       case measure=>simp [intOf];omega
     ·refine zaG rfl (.tmp 56) rfl HRd.out (by simp [Act.eval,Act.put]) ?_
      have bA:=bAl D (.cells cR.toArray 59);refine hKC _ _ (zai rg9 bA hpD) ?_;clear hKC KC
      try simp only [Act.put,SL]
      have XA:=zal D cR.toArray 59;have zA:D.heap.size<(D.alloc (.cells cR.toArray 59)).heap.size:=XA.lt;obtain ⟨D1,hD1⟩:∃ x,x=D.alloc (.cells cR.toArray 59):=⟨_,rfl⟩;rw [← hD1] at bA XA zA ⊢;clear hD1;refine zax (i:=0) (o:=_) rfl (by kernel_rfl) (fun KC hKC=>?_);refine za6 rfl rfl ?_;have b6:=bAl D1 (.cells #[] 59);have b6D:=bA.trans (b6.mono bA.size);refine hKC _ _ (zai rg9 b6D hpD) ?_;clear hKC KC
      try simp only [Act.put,SL]
      have VL:=(View.lit0 (E:=zab) (t:=59) (fun i=>x0 (l.getD i 0)) co D1 hiE).weakL (lo':=D.heap.size) (by omega);have X6:=XA.below b6 zA;obtain ⟨D2,hD2⟩:∃ x,x=D1.alloc (.cells #[] 59):=⟨_,rfl⟩;rw [← hD2] at b6 b6D VL X6 ⊢;clear hD2;obtain ⟨v4,w4,cv4,runv4,⟨V4,X4⟩,bw4⟩:=zcz HUS.out hUz hAU b6D hiD (by omega) VL X6 (fun h=>by simp [Value.ownBlock] at h;omega);refine zax (i:=4) (o:=_) rfl (by kernel_rfl) (fun KC hKC=>?_);refine zam rfl (.tmp 51) (.tmp 54) rfl (by simp [Act.eval,Act.put]) (by simp [Act.eval,Act.put]) runv4 ?_;have b4D:=b6D.trans bw4;refine hKC _ _ (zai rg9 b4D hpD) ?_;clear hKC KC
      try simp only [Act.put,SL]
      obtain ⟨v7,w7,cv7,runv7,V7,bw7⟩:=zbE b4D hiD (by omega) V4 X4 (zab.rd_below HRd.out b4D hiD);refine zae (i:=7) (o:=_) rfl (by kernel_rfl) (by kernel_rfl) (fun KC hKC=>?_);refine zam rfl (.tmp 55) (.tmp 57) rfl (by simp [Act.eval,Act.put]) (by simp [Act.eval,Act.put]) runv7 ?_;refine hKC _ _ ?_;clear hKC KC
      try simp only [Act.put,SL]
      have b7D:=b4D.trans bw7;obtain ⟨v8,w8,cv8,runv8,V8,bw8⟩:=zbc HFS.out hFz hAF b7D hiD (by omega) V7;refine zae (i:=11) (o:=_) rfl (by kernel_rfl) (by kernel_rfl) (fun KC hKC=>?_);refine zam rfl (.tmp 58) (.tmp 61) rfl (by simp [Act.eval,Act.put]) (by simp [Act.eval,Act.put]) runv8 ?_;refine hKC _ _ ?_;clear hKC KC
      try simp only [Act.put,SL]
      refine zjr 12 (v:=?_) rfl ?_ ?_
      rotate_left
      ·intro w' hSw;go_simp;try with_reducible rfl
      try simp only [Act.put,SL]
      refine zah (by kernel_rfl) ?_ _
      have HV8:Hid (View zab 59 w8 D.heap.size hiE v8 (l.take at_++M::l.drop at_).length (fun i=>x0 ((l.take at_++M::l.drop at_).getD i 0)) cv8):=by
       show View _ _ _ _ _ _ _ _ _
       rw [zaP l M at_ hatL,← HN.out];exact V8.congr (fun i _=>zbd x0 l M at_ hatL i)
      have HB8:Hid (Below w.heap.size w w8):=HBD.out.trans ((b7D.trans bw8).mono (by omega));have z8:D.heap.size≤w8.heap.size:=(b7D.trans bw8).size
      have HLn:Hid ((l.take at_++M::l.drop at_).length≤i+1):=by
       show (l.take at_++M::l.drop at_).length≤i+1
       rw [zaP l M at_ hatL,← HN.out];omega
      clear V8 V7 bw7 bw8 b7D hHeld runv7 runv8 hUr hFr hUz hFz hAU hAF rg9 HUS HFS HRd HBD;go_wp2
      go_roundw
      case rel=>exact ⟨i+1,D.heap.size,l.take at_++M::l.drop at_,cv8,by omega,by go_num,by omega,z8,by rw [← HMM.out];exact HCN.out,HLn.out,HV8.out,HB8.out⟩
      case measure=>simp [intOf];omega
    ·obtain ⟨A,hA⟩:∃ A,at_=A+1:=⟨at_-1,by omega⟩
     subst hA
     have hAn:A<n:=by omega
     have VD:=HVx.out.drew;obtain ⟨gO,cO',hgO⟩:=VD.form0 (by omega)
     have rgO:wx.drew.rangeAt gO (A*9) (co A):=by rw [hgO] at VD;exact VD.range hAn
     obtain ⟨rfl,rfl⟩:ao=some ⟨gO,0,none⟩∧cap=cO':=by simpa using hgO
     obtain ⟨rA,hrA⟩:∃ r,r=x0 (l.getD A 0):=⟨_,rfl⟩;have HRA:=hid hrA
     have q2D:wx.drew.cell? ⟨gO,A*9+2,none⟩=some (.string rA.name):=by
      rw [hrA];obtain ⟨ao6,cap6,ao7,cap7,ao8,cap8,hce,-⟩:=zaz (VD.each A hAn);exact rgO 2 _ (by rw [hce];rfl)
     have q1D:wx.drew.cell? ⟨wi.heap.size,2,none⟩=some (.string (x0 M).name):=by
      have:=HXx.out.cell 2;have h2:=HCE.out.2.1;exact this.trans (by simpa using h2)
     obtain ⟨t,ht⟩:∃ t,t=Op.bytesLess (x0 M).name.toList rA.name.toList:=⟨_,rfl⟩
     have HT:Hid (t=true↔nmL (x0 M)<nmL (x0 (l.getD A 0))):=by
      show t=true↔nmL (x0 M)<nmL (x0 (l.getD A 0))
      rw [ht,bl_eq,hrA,decide_eq_true_eq]
     clear hrA;have d1:decide (0<A+1)=true:=decide_eq_true (by omega);have d2:decide ((0:Int)<((A+1:Nat):Int))=true:=decide_eq_true (by omega);have wP:IntKind.i64.wrap (((A+1:Nat):Int)-1)=(A:Int):=zgh (by omega)
     have wP':IntKind.i64.wrap ((A:Int)+1-1)=(A:Int):=by rw [IntKind.wrap_i64];omega
     have wA:IntKind.i64.wrap (A:Int)=(A:Int):=by rw [IntKind.wrap_i64];omega
     have i3:(0:Int)≤(A:Int):=by omega
     have i4:(A:Int)<(n:Int):=by omega
     clear VD hgO
     go_upto_region 8 with fail
     refine zap 13 (fun w'=>w'.cell? ⟨wi.heap.size,2,none⟩=some (.string (x0 M).name)∧w'.cell? ⟨gO,A*9+2,none⟩=some (.string rA.name)) za7 ⟨q1D,q2D⟩ (fun hHeld=>?_);refine zjE 0 rfl ?_
     try simp only [Act.put,SL]
     refine zjE 1 rfl ?_
     try simp only [Act.put,SL]
     try rw [d1]
     refine zjE 2 rfl ?_
     try simp only [Act.put,SL]
     refine zjE 3 rfl ?_
     try simp only [Act.put,SL]
     refine zdo (i:=4) (oi:=_) (v:=?_) rfl (by kernel_rfl) (fun _ _ _ h=>h) (Or.inl ⟨by kernel_rfl,?_⟩) (by assumption) ?_
     rotate_left
     ·intro w' hSw
      try dsimp only at hSw
      obtain ⟨q1,q2⟩:=hSw;go_simp
      try with_reducible rfl
     try simp only [Act.put,SL]
     refine zjE 5 rfl ?_
     try simp only [Act.put,SL]
     refine zjE 6 rfl ?_
     try simp only [Act.put,SL]
     refine zjE 7 rfl ?_
     try simp only [Act.put,SL]
     refine zjE 8 rfl ?_
     try simp only [Act.put,SL]
     refine zjE 9 rfl ?_
     try simp only [Act.put,SL]
     refine zdo (i:=10) (oi:=_) (v:=?_) rfl (by kernel_rfl) (fun _ _ _ h=>h) (Or.inl ⟨by kernel_rfl,?_⟩) (by assumption) ?_
     rotate_left
     ·intro w' hSw
      try dsimp only at hSw
      obtain ⟨q1,q2⟩:=hSw;go_simp
      try with_reducible rfl
     try simp only [Act.put,SL]
     refine zjE 11 rfl ?_
     try simp only [Act.put,SL]
     refine zjE 12 rfl ?_
     try simp only [Act.put,SL]
     refine zah (by kernel_rfl) ?_ _;rw [← ht];obtain ⟨w9,hw9⟩:∃ x,x=wx.drew:=⟨_,rfl⟩;rw [← hw9] at bD ⊢;have b9:Below wx.heap.size wx w9:=bD;clear bD hw9 hHeld d1 d2 rgO q1D q2D ht
     cases t with
     | true=>
      go_wp2
      go_roundw
      case rel=>exact ⟨A,by omega,by go_num,fun k h1 h2=>by
       by_cases c:k=A
       ·rw [c];exact HT.out.1 (by simp)
       ·exact HBE.out k (by omega) h2,HB5x.out.trans (b9.mono zx)⟩
      case measure=>simp [intOf]
     | false=>
      have HS:Hid (A+1=0∨¬ nmL (x0 M)<nmL (x0 (l.getD (A+1-1) 0))):=.inr (fun h=>absurd (HT.out.2 h) (by simp));obtain ⟨at_,hate⟩:∃ a,a=A+1:=⟨_,rfl⟩;rw [← hate] at HS HBE hat ⊢;clear hate HT wP wP' wA hat0;have z9:wx.heap.size≤w9.heap.size:=b9.size;have V9:=(HVx.out.below b9 (by omega)).drew;have b9':Below wx.heap.size wx w9.drew:=b9.trans (show Below wx.heap.size w9 w9.drew from ⟨rfl,rfl,rfl,Nat.le_refl _,fun _ _=>rfl⟩);have X9:Box w9.drew wi.heap.size cR.toArray 59:=HXx.out.below b9' (by omega);have R9:zab.rd w9.drew hiE (x0 M) cR:=zab.rd_below HRx.out b9' (by omega);have B9:Below w.heap.size w w9.drew:=HBx.out.trans (b9'.mono (by omega))
      have rg9:w9.drew.rangeAt wi.heap.size 0 cR:=fun j v hv=>by
       have:=(X9.cell j).trans (by simpa using hv);rw [Nat.zero_add];exact this
      obtain ⟨D,hD⟩:∃ D,D=w9.drew:=⟨_,rfl⟩;have HD:=hid hD;rw [← hD] at V9 X9 R9 B9 rg9
      have zD:w9.heap.size=D.heap.size:=by rw [hD];rfl
      clear hD b9 b9';obtain ⟨aU,cU,hUr,sU,hUz⟩:=V9.upto_ (show hiE≤D.heap.size by omega) (al:=at_) hat;obtain ⟨aF,cF,hFr,sF,rF,hFz⟩:=V9.from_ (show hiE≤D.heap.size by omega) (al:=at_) hat
      have hAU:∀ b off,aU=some ⟨b,off,none⟩→b<D.heap.size:=fun b off e=>by
       rcases V9.form2 with ⟨e3,e4⟩ | ⟨g,cp,e3,e4,hg⟩
       ·have hz:at_=0:=by omega
        have:=hUr D;rw [e3,hz,zcx D] at this
        simp only [Result.ok.injEq,Value.slice.injEq,and_true] at this
        rw [← this.1] at e
        cases e
       ·have:=hUr D
        rw [e3,zcv g n cp at_ hat e4 D] at this
        simp only [Result.ok.injEq,Value.slice.injEq,and_true] at this
        rw [← this.1] at e
        cases e
        exact hg
      have hAF:∀ b off,aF=some ⟨b,off,none⟩→b<D.heap.size:=fun b off e=>by
       rcases V9.form2 with ⟨e3,e4⟩ | ⟨g,cp,e3,e4,hg⟩
       ·have hz:at_=0:=by omega
        have:=hFr D;rw [e3,hz,zcw D] at this
        simp only [Result.ok.injEq,Value.slice.injEq,and_true] at this
        rw [← this.1] at e
        cases e
       ·have:=hFr D
        rw [e3,zcu g n cp at_ hat D] at this
        simp only [Result.ok.injEq,Value.slice.injEq,and_true] at this
        rw [← this.1] at e
        split at e<;>cases e<;>exact hg
      have hiD:hiE≤D.heap.size:=by omega
      have hpD:wi.heap.size<D.heap.size:=X9.lt
      have hatL:at_≤l.length:=by rw [← HN.out];exact hat
      have HCN:Hid (LiveK x0 N (M+1) (l.take at_++M::l.drop at_)):=HLK.out.ins HF.out at_ hatL (fun k h1 h2=>HBE.out k h1 (by rw [HN.out];exact h2)) HS.out;have HRd:=hid R9;have HBD:=hid B9;have HUS:=hid sU;have HFS:=hid sF;clear V9 X9 R9 B9 sU sF rF
      go_upto_region 10 with fail
      refine zap 7 (fun w'=>w'.rangeAt wi.heap.size 0 cR) za7 (by rw [← HD.out];exact rg9) (fun hHeld=>?_);rw [← HD.out] at hHeld ⊢;refine zjE 1 rfl ?_
      try simp only [Act.put,SL]
      refine zjE 2 rfl ?_
      try simp only [Act.put,SL]
      refine zjC 3 (v:=?_) rfl ?_ ?_
      rotate_left
      ·intro w' hSw
       try rw [show (Instr.slice 47 (.slice (some ⟨gO,0,none⟩) n cap) none (some (.int .i64 (at_:Int))) none).run Tryz.prog w'=_ from hUr w']
       have hSl':=hUr w';go_simp
       try with_reducible rfl
      try simp only [Act.put,SL]
      refine zad (i:=5) (oi:=_) 16 rfl (by kernel_rfl) (fun _ _ _ h=>h) (yieldsIf_load_mid (by kernel_rfl) 59 (.tmp 5) rfl wi.heap.size (0) (by simp [Act.eval,Act.put]) cR _ (fun w h=>h) Tryz.underlying59 rfl (zag hcR)) (by assumption) ?_
      try simp only [Act.put,SL]
      refine zjE 8 rfl ?_
      try simp only [Act.put,SL]
      refine zjE 9 rfl ?_
      try simp only [Act.put,SL]
      refine zjC 10 (v:=?_) rfl ?_ ?_
      rotate_left
      ·intro w' hSw
       try rw [show (Instr.slice 47 (.slice (some ⟨gO,0,none⟩) n cap) (some (.int .i64 (at_:Int))) none none).run Tryz.prog w'=_ from hFr w']
       have hSl':=hFr w';go_simp
       try with_reducible rfl
      try simp only [Act.put,SL]
      refine za5 (i:=0) (j:=6) (o:=_) (o':=_) rfl rfl (by kernel_rfl) (fun KC hKC=>?_) (fun KC hKC=>?_)
      ·refine za6 rfl rfl ?_
       have bA:=bAl D (.cells #[] 59);refine hKC _ _ (zai rg9 bA hpD) ?_;clear hKC KC
       try simp only [Act.put,SL]
       have VL:=View.lit0 (E:=zab) (t:=59) (fun i=>x0 (l.getD i 0)) co D hiE;have zA1:D.heap.size<(D.alloc (.cells #[] 59)).heap.size:=(zal D #[] 59).lt;obtain ⟨D1,hD1⟩:∃ x,x=D.alloc (.cells #[] 59):=⟨_,rfl⟩;rw [← hD1] at bA VL zA1 ⊢;clear hD1;refine za5 (i:=4) (j:=6) (o:=_) (o':=_) rfl rfl (by kernel_rfl) (fun KC hKC=>?_) (fun KC hKC=>?_)
       ·skip
        obtain ⟨v4,w4,cv4,runv4,V4,bw4⟩:=zgg (lo:=lo) HUS.out hUz hAU bA hiD (by omega) VL;refine zam rfl (.tmp 51) (.tmp 54) rfl (by simp [Act.eval,Act.put]) (by simp [Act.eval,Act.put]) runv4 ?_;have b4D:=bA.trans bw4;refine hKC _ _ (zai rg9 b4D hpD) ?_;clear hKC KC
        try simp only [Act.put,SL]
        refine zax (i:=6) (o:=_) rfl (by kernel_rfl) (fun KC hKC=>?_);refine zaG rfl (.tmp 56) rfl HRd.out (by simp [Act.eval,Act.put]) ?_;have b6:=bAl w4 (.cells cR.toArray 59);have b6D:=b4D.trans (b6.mono b4D.size);refine hKC _ _ (zai rg9 b6D hpD) ?_;clear hKC KC
        try simp only [Act.put,SL]
        have V6:=V4.below b6 (by have:=b4D.size;omega);have X6:=zal w4 cR.toArray 59;obtain ⟨v7,w7,cv7,runv7,V7,bw7⟩:=zbE b6D hiD (by omega) V6 X6 (zab.rd_below HRd.out b6D hiD);refine zae (i:=7) (o:=_) rfl (by kernel_rfl) (by kernel_rfl) (fun KC hKC=>?_);refine zam rfl (.tmp 55) (.tmp 57) rfl (by simp [Act.eval,Act.put]) (by simp [Act.eval,Act.put]) runv7 ?_;refine hKC _ _ ?_;clear hKC KC
        try simp only [Act.put,SL]
        have b7D:=b6D.trans bw7;obtain ⟨v8,w8,cv8,runv8,V8,bw8⟩:=zbc HFS.out hFz hAF b7D hiD (by omega) V7;refine zae (i:=11) (o:=_) rfl (by kernel_rfl) (by kernel_rfl) (fun KC hKC=>?_);refine zam rfl (.tmp 58) (.tmp 61) rfl (by simp [Act.eval,Act.put]) (by simp [Act.eval,Act.put]) runv8 ?_;refine hKC _ _ ?_;clear hKC KC
        try simp only [Act.put,SL]
        refine zjr 12 (v:=?_) rfl ?_ ?_
        rotate_left
        ·intro w' hSw;go_simp;try with_reducible rfl
        try simp only [Act.put,SL]
        refine zah (by kernel_rfl) ?_ _
        have HV8:Hid (View zab 59 w8 D.heap.size hiE v8 (l.take at_++M::l.drop at_).length (fun i=>x0 ((l.take at_++M::l.drop at_).getD i 0)) cv8):=by
         show View _ _ _ _ _ _ _ _ _
         rw [zaP l M at_ hatL,← HN.out];exact V8.congr (fun i _=>zbd x0 l M at_ hatL i)
        have HB8:Hid (Below w.heap.size w w8):=HBD.out.trans ((b7D.trans bw8).mono (by omega));have z8:D.heap.size≤w8.heap.size:=(b7D.trans bw8).size
        have HLn:Hid ((l.take at_++M::l.drop at_).length≤i+1):=by
         show (l.take at_++M::l.drop at_).length≤i+1
         rw [zaP l M at_ hatL,← HN.out];omega
        clear V8 V7 bw7 bw8 b7D hHeld runv7 runv8 hUr hFr hUz hFz hAU hAF rg9 HUS HFS HRd HBD;go_wp2
        go_roundw
        case rel=>exact ⟨i+1,D.heap.size,l.take at_++M::l.drop at_,cv8,by omega,by go_num,by omega,z8,by rw [← HMM.out];exact HCN.out,HLn.out,HV8.out,HB8.out⟩
        case measure=>simp [intOf];omega
       ·refine zaG rfl (.tmp 56) rfl HRd.out (by simp [Act.eval,Act.put]) ?_
        have b6:=bAl D1 (.cells cR.toArray 59);have b6D:=bA.trans (b6.mono bA.size);refine hKC _ _ (zai rg9 b6D hpD) ?_;clear hKC KC
        try simp only [Act.put,SL]
        have VL6:=VL.below b6 (by have:=bA.size;omega);have X6:=zal D1 cR.toArray 59;have z6:D1.heap.size<(D1.alloc (.cells cR.toArray 59)).heap.size:=X6.lt;have zA:=bA.size;obtain ⟨D2,hD2⟩:∃ x,x=D1.alloc (.cells cR.toArray 59):=⟨_,rfl⟩;rw [← hD2] at b6 b6D VL6 X6 z6 ⊢;clear hD2;have XK:=X6;obtain ⟨v4,w4,cv4,runv4,⟨V4,X4⟩,bw4⟩:=zcz HUS.out hUz hAU b6D hiD (by omega) VL6 X6 (fun h=>by simp [Value.ownBlock] at h;omega);refine zax (i:=4) (o:=_) rfl (by kernel_rfl) (fun KC hKC=>?_);refine zam rfl (.tmp 51) (.tmp 54) rfl (by simp [Act.eval,Act.put]) (by simp [Act.eval,Act.put]) runv4 ?_;have b4D:=b6D.trans bw4;refine hKC _ _ (zai rg9 b4D hpD) ?_;clear hKC KC
        try simp only [Act.put,SL]
        obtain ⟨v7,w7,cv7,runv7,V7,bw7⟩:=zbE b4D hiD (by omega) V4 X4 (zab.rd_below HRd.out b4D hiD);refine zae (i:=7) (o:=_) rfl (by kernel_rfl) (by kernel_rfl) (fun KC hKC=>?_);refine zam rfl (.tmp 55) (.tmp 57) rfl (by simp [Act.eval,Act.put]) (by simp [Act.eval,Act.put]) runv7 ?_;refine hKC _ _ ?_;clear hKC KC
        try simp only [Act.put,SL]
        have b7D:=b4D.trans bw7;obtain ⟨v8,w8,cv8,runv8,V8,bw8⟩:=zbc HFS.out hFz hAF b7D hiD (by omega) V7;refine zae (i:=11) (o:=_) rfl (by kernel_rfl) (by kernel_rfl) (fun KC hKC=>?_);refine zam rfl (.tmp 58) (.tmp 61) rfl (by simp [Act.eval,Act.put]) (by simp [Act.eval,Act.put]) runv8 ?_;refine hKC _ _ ?_;clear hKC KC
        try simp only [Act.put,SL]
        refine zjr 12 (v:=?_) rfl ?_ ?_
        rotate_left
        ·intro w' hSw;go_simp;try with_reducible rfl
        try simp only [Act.put,SL]
        refine zah (by kernel_rfl) ?_ _
        have HV8:Hid (View zab 59 w8 D.heap.size hiE v8 (l.take at_++M::l.drop at_).length (fun i=>x0 ((l.take at_++M::l.drop at_).getD i 0)) cv8):=by
         show View _ _ _ _ _ _ _ _ _
         rw [zaP l M at_ hatL,← HN.out];exact V8.congr (fun i _=>zbd x0 l M at_ hatL i)
        have HB8:Hid (Below w.heap.size w w8):=HBD.out.trans ((b7D.trans bw8).mono (by omega));have z8:D.heap.size≤w8.heap.size:=(b7D.trans bw8).size
        have HLn:Hid ((l.take at_++M::l.drop at_).length≤i+1):=by
         show (l.take at_++M::l.drop at_).length≤i+1
         rw [zaP l M at_ hatL,← HN.out];omega
        clear V8 V7 bw7 bw8 b7D hHeld runv7 runv8 hUr hFr hUz hFz hAU hAF rg9 HUS HFS HRd HBD;go_wp2
        go_roundw
        case rel=>exact ⟨i+1,D.heap.size,l.take at_++M::l.drop at_,cv8,by omega,by go_num,by omega,z8,by rw [← HMM.out];exact HCN.out,HLn.out,HV8.out,HB8.out⟩
        case measure=>simp [intOf];omega
      ·refine zaG rfl (.tmp 56) rfl HRd.out (by simp [Act.eval,Act.put]) ?_
       have bA:=bAl D (.cells cR.toArray 59);refine hKC _ _ (zai rg9 bA hpD) ?_;clear hKC KC
       try simp only [Act.put,SL]
       have XA:=zal D cR.toArray 59;have zA:D.heap.size<(D.alloc (.cells cR.toArray 59)).heap.size:=XA.lt;obtain ⟨D1,hD1⟩:∃ x,x=D.alloc (.cells cR.toArray 59):=⟨_,rfl⟩;rw [← hD1] at bA XA zA ⊢;clear hD1;refine zax (i:=0) (o:=_) rfl (by kernel_rfl) (fun KC hKC=>?_);refine za6 rfl rfl ?_;have b6:=bAl D1 (.cells #[] 59);have b6D:=bA.trans (b6.mono bA.size);refine hKC _ _ (zai rg9 b6D hpD) ?_;clear hKC KC
       try simp only [Act.put,SL]
       have VL:=(View.lit0 (E:=zab) (t:=59) (fun i=>x0 (l.getD i 0)) co D1 hiE).weakL (lo':=D.heap.size) (by omega);have X6:=XA.below b6 zA;obtain ⟨D2,hD2⟩:∃ x,x=D1.alloc (.cells #[] 59):=⟨_,rfl⟩;rw [← hD2] at b6 b6D VL X6 ⊢;clear hD2;obtain ⟨v4,w4,cv4,runv4,⟨V4,X4⟩,bw4⟩:=zcz HUS.out hUz hAU b6D hiD (by omega) VL X6 (fun h=>by simp [Value.ownBlock] at h;omega);refine zax (i:=4) (o:=_) rfl (by kernel_rfl) (fun KC hKC=>?_);refine zam rfl (.tmp 51) (.tmp 54) rfl (by simp [Act.eval,Act.put]) (by simp [Act.eval,Act.put]) runv4 ?_;have b4D:=b6D.trans bw4;refine hKC _ _ (zai rg9 b4D hpD) ?_;clear hKC KC
       try simp only [Act.put,SL]
       obtain ⟨v7,w7,cv7,runv7,V7,bw7⟩:=zbE b4D hiD (by omega) V4 X4 (zab.rd_below HRd.out b4D hiD);refine zae (i:=7) (o:=_) rfl (by kernel_rfl) (by kernel_rfl) (fun KC hKC=>?_);refine zam rfl (.tmp 55) (.tmp 57) rfl (by simp [Act.eval,Act.put]) (by simp [Act.eval,Act.put]) runv7 ?_;refine hKC _ _ ?_;clear hKC KC
       try simp only [Act.put,SL]
       have b7D:=b4D.trans bw7;obtain ⟨v8,w8,cv8,runv8,V8,bw8⟩:=zbc HFS.out hFz hAF b7D hiD (by omega) V7;refine zae (i:=11) (o:=_) rfl (by kernel_rfl) (by kernel_rfl) (fun KC hKC=>?_);refine zam rfl (.tmp 58) (.tmp 61) rfl (by simp [Act.eval,Act.put]) (by simp [Act.eval,Act.put]) runv8 ?_;refine hKC _ _ ?_;clear hKC KC
       try simp only [Act.put,SL]
       refine zjr 12 (v:=?_) rfl ?_ ?_
       rotate_left
       ·intro w' hSw;go_simp;try with_reducible rfl
       try simp only [Act.put,SL]
       refine zah (by kernel_rfl) ?_ _
       have HV8:Hid (View zab 59 w8 D.heap.size hiE v8 (l.take at_++M::l.drop at_).length (fun i=>x0 ((l.take at_++M::l.drop at_).getD i 0)) cv8):=by
        show View _ _ _ _ _ _ _ _ _
        rw [zaP l M at_ hatL,← HN.out];exact V8.congr (fun i _=>zbd x0 l M at_ hatL i)
       have HB8:Hid (Below w.heap.size w w8):=HBD.out.trans ((b7D.trans bw8).mono (by omega));have z8:D.heap.size≤w8.heap.size:=(b7D.trans bw8).size
       have HLn:Hid ((l.take at_++M::l.drop at_).length≤i+1):=by
        show (l.take at_++M::l.drop at_).length≤i+1
        rw [zaP l M at_ hatL,← HN.out];omega
       clear V8 V7 bw7 bw8 b7D hHeld runv7 runv8 hUr hFr hUz hFz hAU hAF rg9 HUS HFS HRd HBD;go_wp2
       go_roundw
       case rel=>exact ⟨i+1,D.heap.size,l.take at_++M::l.drop at_,cv8,by omega,by go_num,by omega,z8,by rw [← HMM.out];exact HCN.out,HLn.out,HV8.out,HB8.out⟩
       case measure=>simp [intOf];omega
  ·obtain rfl:i=N:=by omega
   clear hrs hlt2;have HLV:=hid HLK.out.done;go_wp2;go_ret;exact ⟨_,l,co,lo,rfl,HLV.out,hlo,by rw [← HN.out];exact HV.out,HBW.out⟩
theorem zhh (v:Value) (N:Nat) (x0:Nat→RecD) (hi:Nat) (w:World) (h:(zab.slice 59).rd w hi (N,x0) [v]) (hhi:hi≤w.heap.size) (hNb:N≤800000) :
 Calls Tryz.prog 35 #[v] w (fun e w'=>∃ v' l ce lo,e=.returned v'∧Live x0 N l∧w.heap.size≤lo∧View zab 59 w' lo hi v' l.length (fun i=>x0 (l.getD i 0)) ce∧Below w.heap.size w w'):=by
 refine zfY hi v N x0 hi w h (Nat.le_refl _) ?_ hhi hNb;intro ao cap e w' hb;subst e;obtain ⟨cy,hS,-⟩:=zh4 (Lay.rd_below _ h hb hhi);exact ⟨cy,hS⟩
theorem ziQ {s:Nat→Int} {r:RecD} (h:RecAns s r 0):zaU s r:=by
 rcases h with ⟨_,h⟩ | ⟨_,h⟩
 ·cases h
 rcases h with ⟨_,h⟩ | ⟨_,h⟩
 ·cases h
 rcases h with ⟨_,h⟩ | ⟨_,h⟩
 ·cases h
 rcases h with ⟨_,h⟩ | ⟨_,h⟩
 ·cases h
 rcases h with ⟨_,h⟩ | ⟨h,_⟩
 ·cases h
 ·exact h
theorem zie {d:WorldD} (hok:OkWorld d) {i:Nat} (hi:i<lenT d.tapes.2 2):zaU d.shape (recT d.tapes.2 2 i):=by
 have h2:d.tapes.1=2:=hok.form.2.2;have key:∀ t j,t<2→j<(d.tapes.2 t).recs.1→zaU d.shape ((d.tapes.2 t).recs.2 j):=fun t j ht hj=>ziQ (hok.recs t (by omega) j hj)
 have e1:lenT d.tapes.2 1=(d.tapes.2 0).recs.1:=by simp [lenT]
 have e2:lenT d.tapes.2 2=(d.tapes.2 0).recs.1+(d.tapes.2 1).recs.1:=by simp [lenT]
 rw [e2] at hi
 show zaU d.shape (cat2 (recT d.tapes.2 1) (lenT d.tapes.2 1) (d.tapes.2 1).recs.2 i)
 unfold cat2
 split
 ·rename_i c
  rw [e1] at c
  show zaU d.shape (cat2 (recT d.tapes.2 0) (lenT d.tapes.2 0) (d.tapes.2 0).recs.2 i)
  unfold cat2;rw [if_neg (by show ¬ i<0;omega)];exact key 0 (i-0) (by omega) (by omega)
 ·rename_i c
  rw [e1] at c ⊢;exact key 1 _ (by omega) (by omega)
theorem ziR {s:Nat→Int} {r:RecD} (h:zaU s r) (hk:r.kind=1):r.length<0↔r.length=-1:=by
 rcases h with ⟨_,h⟩ | ⟨h,_⟩ | ⟨h,_⟩ | ⟨h,_⟩
 ·rcases h with ⟨h,_⟩ | ⟨_,h,_⟩<;>omega
 ·omega
 ·omega
 ·omega
theorem zi1 {d:WorldD} (hok:OkWorld d) {l:List Nat} (hCt:Cnt (recT d.tapes.2 2) (lenT d.tapes.2 2) l) {i:Nat} (hi:i<l.length):zaU d.shape (recT d.tapes.2 2 (l.getD i 0)):=
 zie hok ((hCt.mem _).1 (by rw [zcR hi];exact List.getElem_mem hi)).1
def zi2 (d:WorldD) (l m:List Nat):Nat×(Nat→RecD):=(m.length,fun i=>recT d.tapes.2 2 (l.getD (m.getD i 0) 0))
theorem zdx {x:Nat→RecD} {N:Nat} {m:List Nat} (h:Live x N m) (f:Nat→Nat):sumN (fun i=>f (m.getD i 0)) m.length≤sumN f N∧m.length≤N:=by
 have:=zez f N m h.nodup (fun i hi=>h.lt hi);rw [← zgf f] at this;exact this
theorem zif {d:WorldD} (h2:d.tapes.1=2) (hsz:zbb d≤1048576) {l m:List Nat} (h:Cnt (recT d.tapes.2 2) (lenT d.tapes.2 2) l) (hm:Live (fun i=>recT d.tapes.2 2 (l.getD i 0)) l.length m):(szSl zaL) (zi2 d l m)≤1048576:=by
 have h1:=ziP h2 hsz h;have h3:=zdx hm (fun i=>zaL (recT d.tapes.2 2 (l.getD i 0)));have e1:(szSl zaL) (l.length,(fun i=>recT d.tapes.2 2 (l.getD i 0)))=l.length+sumN (fun i=>zaL (recT d.tapes.2 2 (l.getD i 0))) l.length:=rfl
 show m.length+sumN (fun i=>zaL (recT d.tapes.2 2 (l.getD (m.getD i 0) 0))) m.length≤1048576
 rw [e1] at h1;have h4:=h3.1;have h5:=h3.2;omega
set_option maxRecDepth 100000 in
theorem zhi (g cap n lo hi:Nat) (x:Nat→RecD) (ce:Nat→List Value) (del:Nat→Bool) (w:World) (hV:View zab 59 w lo hi (.slice (some ⟨g,0,none⟩) n cap) n x ce) (hhi:hi≤w.heap.size) (hn:n≤1048576) (CD:∀ k,k<n→∀ w',ChgL [g] w w'→Calls Tryz.prog 53 #[.agg (ce k).toArray] w' (fun e w''=>e=.returned (.bool (del k))∧Below w'.heap.size w' w'')) :
 Calls Tryz.prog 82 #[.slice (some ⟨g,0,none⟩) n cap,.func (.func 53) #[] #[]] w fun e w'=>((e=.returned (.int .i64 (-1))∧∀ i,i<n→del i=false)∨∃ i:Nat,i<n∧e=.returned (.int .i64 (i:Int))∧del i=true∧∀ t,t<i→del t=false)∧Below w.heap.size w w':=by
 have HV:=hid hV;have HCD:=hid CD;clear hV CD
 go_enter Tryz.func82,Tryz.ntmps82
 go_wp2
 go_loopw [8] (fun z wr=>∃ k:Nat,k≤n∧z=.int .i64 k∧(∀ t,t<k→del t=false)∧Below w.heap.size w wr) (fun z _=>n-(intOf z).toNat)
 case atStart=>exact ⟨0,Nat.zero_le _,rfl,fun t ht=>by omega,Below.refl _ _⟩
 case round=>
  obtain ⟨k,hk,rfl,hall,hbl⟩:=hrel;obtain ⟨wx,rfl⟩:∃ y,y=wr:=⟨_,rfl⟩;have HALL:=hid hall;have HBL:=hid hbl;have zx:=hbl.size;clear hall
  by_cases hlt:k<n
  ·have VX:=HV.out.below hbl hhi
   have rgK:wx.rangeAt g (k*9) (ce k):=VX.range hlt;have hcK:(ce k).length=9:=VX.lens k hlt;have CS:=HCD.out k hlt wx (ChgL.of_below hbl);obtain ⟨cK,hcKe⟩:∃ c,c=ce k:=⟨_,rfl⟩;rw [← hcKe] at rgK hcK CS;obtain ⟨t,ht⟩:∃ t,t=del k:=⟨_,rfl⟩;rw [← ht] at CS;have HT:=hid ht
   have i1:(0:Int)≤(k:Int):=by omega
   have i2:(k:Int)<(n:Int):=by omega
   clear hbl hcKe VX ht
   go_wp2_with (refine wpList_load_mid rfl 59 (.tmp 14) rfl g (k*9) (by simp [Act.eval]) cK _ rgK Tryz.underlying59 rfl (zag hcK) ?_)
   refine CS.mono ?_;rintro e w5 ⟨rfl,b5⟩;have B5:=hid (HBL.out.trans (b5.mono zx));clear b5 CS rgK
   cases t with
   | true=>
    go_wp2;go_ret;exact ⟨.inr ⟨k,hlt,rfl,HT.out.symm,HALL.out⟩,B5.out⟩
   | false=>
    go_wp2
    go_roundw
    case rel=>exact ⟨k+1,by omega,by go_num,fun t ht=>by
     by_cases c:t=k
     ·rw [c];exact HT.out.symm
     ·exact HALL.out t (by omega),B5.out⟩
    case measure=>simp [intOf];omega
  ·obtain rfl:k=n:=by omega
   clear hbl;go_wp2;go_ret;exact ⟨.inl ⟨rfl,HALL.out⟩,HBL.out⟩
set_option maxRecDepth 100000 in
theorem zfZ (g cap n lo hi:Nat) (x:Nat→RecD) (ce:Nat→List Value) (del:Nat→Bool) (w:World) (hV:View zab 59 w lo hi (.slice (some ⟨g,0,none⟩) n cap) n x ce) (hlo:hi≤lo) (hlw:lo≤w.heap.size) (hn:n≤1048576) (CD:∀ k,k<n→∀ w',ChgL [g] w w'→Calls Tryz.prog 53 #[.agg (ce k).toArray] w' (fun e w''=>e=.returned (.bool (del k))∧Below w'.heap.size w' w'')) :
 Calls Tryz.prog 51 #[.slice (some ⟨g,0,none⟩) n cap,.func (.func 53) #[] #[]] w fun e w'=>e=.returned (.slice (some ⟨g,0,none⟩) (zaY (fun i=>!(del i)) n).length cap)∧View zab 59 w' lo hi (.slice (some ⟨g,0,none⟩) (zaY (fun i=>!(del i)) n).length cap) (zaY (fun i=>!(del i)) n).length (fun i=>x (selF (fun i=>!(del i)) n i)) (fun i=>ce (selF (fun i=>!(del i)) n i))∧ChgL [g] w w':=by
 have HV:=hid hV;have HCD:=hid CD
 have hnc:n≤cap:=by
  rcases hV.row.2 with ⟨hn,_⟩ | ⟨g',cap',cur,he,hbg,hgg,hnc,_⟩
  ·cases hn
  ·cases he;exact hnc
 have HNC:=hid hnc;have hgl:=hV.row.lt g rfl;have CI:=zhi g cap n lo hi x ce del w hV (by omega) hn CD;clear hV CD hnc
 go_enter Tryz.func51,Tryz.ntmps51
 go_wp2_with fail
 refine CI.mono ?_;rintro e w1 ⟨hcase,b1⟩;have HB1:=hid b1;have z1:=b1.size;clear CI b1
 rcases hcase with ⟨rfl,hall⟩ | ⟨i0,hi0,rfl,hp0,hbef⟩
 ·have HALL:Hid (∀ i,i<n→(fun i=>!(del i)) i=true):=fun i hi=>by show (!(del i))=true;rw [hall i hi];rfl
  clear hall
  have te:((-1:Int)==-1)=true:=by decide
  go_wp2;go_ret
  have em:(zaY (fun i=>!(del i)) n).length=n:=by rw [zdw HALL.out];simp
  rw [em];exact ⟨rfl,(HV.out.below HB1.out (by omega)).congr2 (fun i hi=>by rw [zfO HALL.out hi]) (fun i hi=>by rw [zfO HALL.out hi]),ChgL.of_below HB1.out⟩
 have HP0:Hid ((fun i=>!(del i)) i0=false):=by show (!(del i0))=false;rw [hp0];rfl
 have HBEF:Hid (∀ t,t<i0→(fun i=>!(del i)) t=true):=fun t ht=>by show (!(del t))=true;rw [hbef t ht];rfl
 clear hp0 hbef;have te:((i0:Int)==-1)=false:=beq_eq_false_iff_ne.2 (by omega)
 have zi:IntKind.i64.wrap ((i0:Int)+1)=(i0:Int)+1:=by rw [IntKind.wrap_i64];omega
 go_wp2
 go_loopw [5,6] (fun v z wr=>∃ j:Nat,j≤n∧i0<j∧z=.int .i64 j∧v=.int .i64 ((zaY (fun i=>!(del i)) j).length:Nat)∧View zab 59 wr lo hi (.slice (some ⟨g,0,none⟩) n cap) n (mixF (fun i=>!(del i)) (j) x) (mixF (fun i=>!(del i)) (j) ce)∧ChgL [g] w wr) (fun _ z _=>n-(intOf z).toNat)
 case atStart=>
  refine ⟨i0+1,by omega,by omega,by simp,?_,?_,ChgL.of_below HB1.out⟩
  ·rw [zcq HP0.out,zdw HBEF.out];simp
  ·exact (HV.out.below HB1.out (by omega)).congr2 (fun m _=>by rw [zdv x HP0.out,zhO x HBEF.out]) (fun m _=>by rw [zdv ce HP0.out,zhO ce HBEF.out])
 case round=>
  obtain ⟨j,hj,hij,rfl,rfl,hrow,hch⟩:=hrel;obtain ⟨wx,rfl⟩:∃ y,y=wr:=⟨_,rfl⟩;have HCH:=hid hch;have HRW:=hid hrow;have zx:=hch.size;have hless:(zaY (fun i=>!(del i)) j).length<j:=zhP hij HP0.out;clear hch
  by_cases hlt:j<n
  ·have em:(mixF (fun i=>!(del i)) (j) ce) j=ce j:=ziW ce (Nat.le_of_lt hless)
   have ex:(mixF (fun i=>!(del i)) (j) x) j=x j:=ziW x (Nat.le_of_lt hless)
   have rgJ:wx.rangeAt g (j*9) (ce j):=by have:=hrow.range hlt;rw [em] at this;exact this
   have hcJ:(ce j).length=9:=by have:=hrow.lens j hlt;rw [em] at this;exact this
   have rdJ:zab.rd wx hi (x j) (ce j):=by have:=hrow.each j hlt;rw [em,ex] at this;exact this
   obtain ⟨cJ,hcJe⟩:∃ c,c=ce j:=⟨_,rfl⟩;have HCJ:=hid hcJe;rw [← hcJe] at rgJ hcJ rdJ;have oneJ:∀ v,v∈cJ→v.oneCell'=true:=zaC _ _ _ _ rdJ;have HRJ:=hid rdJ
   have i1:(0:Int)≤(j:Int):=by omega
   have i2:(j:Int)<(n:Int):=by omega
   have bV:=bAl wx (.cells cJ.toArray 59);have V1:=zal wx cJ.toArray 59;clear em ex hrow rdJ hcJe
   go_upto_region 8 with (first | (refine wpList_load_mid rfl 59 (.tmp 24) rfl g (j*9) (by simp [Act.eval]) cJ _ rgJ Tryz.underlying59 rfl (zag hcJ) ?_) | (refine zaM 59 7 (.tmp 25) cJ _ 9 rfl rfl rfl rfl rfl rfl rfl rfl zcy rfl hcJ oneJ ?_))
   obtain ⟨W5,hW5⟩:∃ y,y=wx.alloc (.cells cJ.toArray 59):=⟨_,rfl⟩;rw [← hW5] at bV V1 ⊢;clear hW5 rgJ;have z5:=bV.size;have HV1:=hid V1;have z5':=V1.lt;have C5:ChgL [g] w W5:=HCH.out.trans (ChgL.of_below bV);have CS:=HCD.out j hlt W5 C5;rw [← HCJ.out] at CS;obtain ⟨t,ht⟩:∃ t,t=del j:=⟨_,rfl⟩;rw [← ht] at CS
   have HT:Hid ((fun i=>!(del i)) j=!t):=by rw [ht];exact rfl
   have HC5:=hid C5;have HR5:Hid (View zab 59 W5 lo hi (.slice (some ⟨g,0,none⟩) n cap) n (mixF (fun i=>!(del i)) (j) x) (mixF (fun i=>!(del i)) (j) ce)):=HRW.out.below bV (by omega);have HRJ5:Hid (zab.rd W5 hi (x j) cJ):=zab.rd_below HRJ.out bV (by omega);clear ht C5 V1 bV
   go_wp2_with (refine zaN 59 (.tmp 7) rfl rfl (wx.heap.size) rfl HV1.out Tryz.underlying59 zc8 hcJ ?_)
   refine CS.mono ?_;rintro e w6 ⟨rfl,b6⟩;have z6:=b6.size;have HV6:Hid (Box w6 wx.heap.size cJ.toArray 59):=HV1.out.below b6 z5';have C6:Hid (ChgL [g] w w6):=HC5.out.trans (ChgL.of_below b6);have HS6:Hid (View zab 59 w6 lo hi (.slice (some ⟨g,0,none⟩) n cap) n (mixF (fun i=>!(del i)) (j) x) (mixF (fun i=>!(del i)) (j) ce)):=HR5.out.below b6 (by omega);have HRJ6:Hid (zab.rd w6 hi (x j) cJ):=zab.rd_below HRJ5.out b6 (by omega);clear b6 CS HV1 HC5 HR5 HRJ5
   cases t with
   | true=>
    go_wp2
    go_roundw
    case rel=>exact ⟨j+1,by omega,by omega,by go_num,by rw [zcq HT.out],HS6.out.congr2 (fun m _=>(zdv x HT.out m).symm) (fun m _=>(zdv ce HT.out m).symm),C6.out⟩
    case measure=>simp [intOf];omega
   | false=>
    obtain ⟨q,hq⟩:∃ q,q=(zaY (fun i=>!(del i)) j).length:=⟨_,rfl⟩;have HQ:=hid hq
    have hqn:q<n:=by omega
    rw [← hq]
    have k1:(0:Int)≤(q:Int):=by omega
    have k2:(q:Int)<(n:Int):=by omega
    have hth:w6.there g (q*9) cJ.length:=by rw [hcJ];exact HS6.out.there hqn
    have hpk:(fun i=>!(del i)) j=true:=HT.out
    have hnx:(zaY (fun i=>!(del i)) (j+1)).length=q+1:=by rw [hq,zbS,if_pos hpk];simp
    have HNX:=hid hnx
    have HV7:Hid (View zab 59 (w6.setCells g (q*9) cJ) lo hi (.slice (some ⟨g,0,none⟩) n cap) n (mixF (fun i=>!(del i)) (j+1) x) (mixF (fun i=>!(del i)) (j+1) ce)):=by
     have:=HS6.out.put (by decide) hlo hqn HRJ6.out;refine this.congr2 (fun m _=>?_) (fun m _=>?_)
     ·have:=zf7 (p:=(fun i=>!(del i))) (j:=j) x hpk m
      rw [← hq] at this;exact this
     ·have:=zf7 (p:=(fun i=>!(del i))) (j:=j) ce hpk m
      rw [← hq,← HCJ.out] at this;exact this
    have C7:Hid (ChgL [g] w (w6.setCells g (q*9) cJ)):=C6.out.trans (zbJ g cJ w6 _)
    have zq:IntKind.i64.wrap ((q:Int)+1)=(q:Int)+1:=by rw [IntKind.wrap_i64];omega
    clear hq hnx hpk
    go_wp2_with (first | (refine zaN 59 (.tmp 7) rfl rfl (wx.heap.size) rfl HV6.out Tryz.underlying59 zc8 hcJ ?_) | (refine wpList_store_mid rfl 59 (.tmp 33) (.tmp 32) rfl g (q*9) cJ.toArray (by simp [Act.eval]) (by simp [Act.eval]) (show w6.there g (q*9) cJ.toArray.size by rw [List.size_toArray];exact hth) (show _=some cJ.toArray.size by rw [List.size_toArray];exact zag hcJ) (all_oneCell_toArray oneJ) ?_;rw [show cJ.toArray.toList=cJ from rfl]))
    go_roundw
    case rel=>exact ⟨j+1,by omega,by omega,by go_num,by rw [HNX.out];simp,HV7.out,C7.out⟩
    case measure=>simp [intOf];omega
  ·obtain rfl:j=n:=by omega
   obtain ⟨q,hq⟩:∃ q,q=(zaY (fun i=>!(del i)) j).length:=⟨_,rfl⟩;have HQ:=hid hq;have S5:=HRW.out;have hlens:=S5.lens
   rcases S5.row.2 with ⟨hnn,_⟩ | ⟨g',cap',cur,he,hbg,hgg,hnc',hcm,hcs,htk⟩
   ·cases hnn
   cases he
   have hqn:q<j:=by omega
   obtain ⟨row,hcl,hrs,hrt⟩:=zgR wx 0 g (q*9) (j-q) (cap-q) cur hgg (by omega) (by
    have h9:cur.size=cap*9:=hcs
    have:q*9+(j-q)*9≤cap*9:=by rw [← Nat.add_mul];exact Nat.mul_le_mul_right 9 (by omega)
    omega)
   have hf:=zgS g j cap q hqn HNC.out;have ht:=fun w'=>ziE g j cap q (by omega) w';obtain ⟨W7,hW7⟩:∃ y,y=wx.setRow g row:=⟨_,rfl⟩;rw [← hW7] at hcl
   have C7:Hid (ChgL [g] w W7):=by
    rw [hW7];exact HCH.out.trans (zcN g row)
   have C7x:ChgL [g] wx W7:=by rw [hW7];exact zcN g row
   have bX:Below lo wx W7:=C7x.bel (fun b hb=>by simp at hb;omega) (by omega)
   have R7:Hid (View zab 59 W7 lo hi (.slice (some ⟨g,0,none⟩) q cap) q (fun i=>x (selF (fun i=>!(del i)) j i)) (fun i=>ce (selF (fun i=>!(del i)) j i))):=by
    have e1:catN q (mixF (fun i=>!(del i)) (j) ce)=catN q (fun i=>ce (selF (fun i=>!(del i)) j i)):=zcA (fun i hi=>by
     show mixF _ j ce i=_
     unfold mixF
     rw [if_pos (by rw [← hq];exact hi)])
    have hl9:∀ i,i<q→(ce (selF (fun i=>!(del i)) j i)).length=zab.sz:=fun i hi=>by
     have:=hlens i (by omega);unfold mixF at this;rw [if_pos (by rw [← hq];exact hi)] at this;exact this
    refine ⟨⟨zbj hl9,.inr ⟨g,cap,row,rfl,hbg,by rw [hW7];exact setRow_heap wx g cur row 59 (0,0) hgg,by omega,hcm,by rw [hrs];exact hcs,?_⟩⟩,fun i hi=>?_⟩
    ·rw [← e1,← zhR hlens (Nat.le_of_lt hqn),← htk,List.take_take,Nat.min_eq_left (Nat.mul_le_mul_right _ (Nat.le_of_lt hqn))]
     exact hrt
    ·have h1:=S5.each i (by omega)
     unfold mixF at h1;rw [if_pos (by rw [← hq];exact hi),if_pos (by rw [← hq];exact hi)] at h1;exact zab.rd_below h1 bX hlo
   clear S5 hlens hgg htk hcs hcm hnc' hbg hrs hrt hW7 hless C7x bX;rw [← hq];clear hq
   go_wp2_with (simp only [hcl])
   go_ret;rw [← HQ.out];exact ⟨rfl,R7.out,C7.out⟩
set_option maxRecDepth 20000 in
theorem zf0 (ao:Option Addr) (cap:Nat) (fv:Value) (w:World) :
 Calls Tryz.prog 51 #[.slice ao 0 cap,fv] w fun e w'=>e=.returned (.slice ao 0 cap)∧w'=w:=by
 have CI:Calls Tryz.prog 82 #[.slice ao 0 cap,fv] w fun e w'=>e=.returned (.int .i64 (-1))∧w'=w:=by
  go_enter Tryz.func82,Tryz.ntmps82
  go_wp2
  go_loop [8] (fun z=>z=.int .i64 0) (fun _=>0)
  case atStart=>rfl
  case round=>
   subst hrel;go_wp2;go_ret;exact ⟨rfl,rfl⟩
 have te:((-1:Int)==-1)=true:=by decide
 go_enter Tryz.func51,Tryz.ntmps51
 go_wp2_with fail
 refine CI.mono ?_;rintro e w1 ⟨rfl,e1⟩;obtain rfl:=e1.symm;go_wp2;go_ret;exact ⟨rfl,rfl⟩
theorem ziS (c0 c1 c2 c3 c4 c5 c6 c8:Value) (ao:Option Addr) (n cap:Nat) (w:World) :
 Calls Tryz.prog 53 #[.agg #[c0,c1,c2,c3,c4,c5,c6,.slice ao n cap,c8]] w fun e w'=>e=.returned (.bool (decide (n=0)))∧Below w.heap.size w w':=by
 have T0:=zaF w #[c0,c1,c2,c3,c4,c5,c6,.slice ao n cap,c8] 59;have y7:=T0.b1.cell 7;have HB:=hid T0.bel;clear T0
 by_cases h:n=0
 ·subst h
  go_enter Tryz.func53,Tryz.ntmps53
  go_wp2;go_ret;exact ⟨rfl,HB.out⟩
 ·have t1:((n:Int)==0)=false:=by simp;omega
  have t2:decide ((n:Int)=0)=false:=by simp;omega
  have t3:decide (n=0)=false:=by simp;omega
  rw [t3]
  go_enter Tryz.func53,Tryz.ntmps53
  go_wp2;go_ret;exact ⟨rfl,HB.out⟩
def wtP (x:Nat→RecD) (l:List Nat) (k:Nat):Bool:=!(decide ((x (l.getD k 0)).data.1=0))
def wtI (x:Nat→RecD) (l:List Nat) (i:Nat):Nat:=l.getD (selF (wtP x l) l.length i) 0
def wtN (x:Nat→RecD) (l:List Nat):Nat:=(zaY (wtP x l) l.length).length
set_option maxRecDepth 100000 in
theorem zf1 {w:World} {lo B hi:Nat} {s:Nat→Int} {m N:Nat} {x:Nat→RecD} {ce:Nat→List Value} {v:Value} {b1 b2 b3 b4 b5:Nat} (h:Ldg w lo B s m N x ce v b1 b2 b3 b4 b5) (hN:N≤1000000) (hhi:hi≤w.heap.size) (hr:∀ i,i<N→zab.rd w hi (x i) (ce i)) (hk:∀ i,i<N→(x i).kind=1→((x i).length<0↔(x i).length=-1)) (hl:∀ l,Live x N l→l.length≤1048576) :
 Calls Tryz.prog 22 #[.pointer (some ⟨B,0,none⟩)] w fun e w'=>∃ u cu l,e=.returned u∧Live x N l∧View zab 59 w' w.heap.size hi u (wtN x l) (fun i=>x (wtI x l i)) cu∧Below w.heap.size w w':=by
 have CI:=zid h hN hhi hr hk;clear h hr hk
 go_enter Tryz.func22,Tryz.ntmps22
 go_wp2_with fail
 refine CI.mono ?_;rintro e w1 ⟨u,cu,l,rfl,hL,V,b1⟩;have HL:=hid hL;have HB1:=hid b1;have hl2:=hl l hL;have z1:=b1.size;clear CI b1 hL hl
 by_cases h0:l.length=0
 ·have hw:wtN x l=0:=by
   unfold wtN;rw [h0];rfl
  have HW:=hid hw;obtain ⟨ao,cap,rfl⟩:=V.form
  have V2:View zab 59 w1 w.heap.size hi (.slice ao 0 cap) 0 (fun i=>x (wtI x l i)) cu:=by
   rw [h0] at V;exact V.congr2 (fun i hi'=>by omega) (fun i hi'=>by omega)
  have HV:=hid V2;have CD:=zf0 ao cap (.func (.func 53) #[] #[]) w1;rw [h0];clear V V2 hw h0 hl2
  go_wp2_with fail
  refine CD.mono ?_;rintro e w2 ⟨rfl,e2⟩;obtain rfl:=e2.symm;go_wp2;go_ret;exact ⟨_,cu,l,rfl,HL.out,by rw [HW.out];exact HV.out,HB1.out⟩
 ·obtain ⟨g,cap,rfl⟩:=V.form0 h0
  have HV:=hid V
  have CD:=zfZ g cap l.length w.heap.size hi (fun i=>x (l.getD i 0)) cu (fun k=>decide ((x (l.getD k 0)).data.1=0)) w1 V hhi z1 (by omega) (fun k hk w' hch=>by
   obtain ⟨ao6,cap6,ao7,cap7,ao8,cap8,hce,-⟩:=zaz (V.each k hk);rw [hce]
   exact ziS _ _ _ _ _ _ _ _ ao7 _ cap7 w')
  have hlo:∀ b,b∈[g]→w.heap.size≤b:=fun b hb=>by
   simp at hb
   rw [hb];exact (V.row.lt g rfl).1
  clear V h0
  go_wp2_with fail
  refine CD.mono ?_;rintro e w2 ⟨rfl,V2,c2⟩;have HV2:=hid V2;have B2:=HB1.out.trans (c2.bel hlo z1);clear CD V2 c2;go_wp2;go_ret;exact ⟨_,_,l,rfl,HL.out,HV2.out,B2⟩
theorem zgk (p:Nat→Bool) (f:Nat→Nat):∀ n,(∀ i,p i=false→f i=0)→sumN (fun i=>f (selF p n i)) (zaY p n).length=sumN f n
 | 0,_=>rfl
 | n+1,h=>by
  have ih:=zgk p f n h;rw [zaV,← ih]
  cases hp:p n with
  | false=>
   rw [zcq hp,h n hp,Nat.add_zero];exact zb5 (fun i hi=>by rw [zc1 hi])
  | true=>
   have e:(zaY p (n+1)).length=(zaY p n).length+1:=by rw [zbS,if_pos hp];simp
   rw [e,zaV,ze5 hp]
   congr 1
   exact zb5 (fun i hi=>by rw [zc1 hi])
end Go.Proofs.YtecofihpkcljcaaGreat
