/- The program's countOnce: records gathered, sorted, each once. -/
import Derived.Test.YthcmdnlkohdeaaaGreatZPmissiah
set_option linter.unusedVariables false
set_option linter.unusedSimpArgs false
set_option maxHeartbeats 16000000
namespace Go.Proofs.YthcmdnlkohdeaaaGreat
open Go.RowKit F256
def lenT (tp:Nat→TapeD):Nat→Nat
 | 0=>0
 | k+1=>lenT tp k+(tp k).recs.1
def recT (tp:Nat→TapeD):Nat→Nat→RecD
 | 0=>(tp 0).recs.2
 | k+1=>cat2 (recT tp k) (lenT tp k) (tp k).recs.2
theorem ziT (x0:Nat→RecD) (enc:Nat→List Value) (v:Value) (N lo hi:Nat) (w:World) (V:View zab 92 w lo hi v N x0 enc) (hlo:hi≤lo) (hN:N<1000000000) (hlw:lo≤w.heap.size) :
 Calls Tryz.prog 71 #[v,.func (.func 72) #[] #[]] w (fun e w'=>e=.returned (.tuple #[])∧∃ q,View zab 92 w' lo hi v N (fun i=>x0 (q i)) (fun i=>enc (q i))∧Sym.Re 0 N (fun i=>i) q∧Sym.Srt (numL x0) q 0 N∧Below lo w w'):=by
 rcases V.form2 with ⟨rfl,rfl⟩ | ⟨g,cap,rfl,hnc,hg⟩
 ·refine (zeJ w).mono fun e w' ⟨h1,h2⟩=>⟨h1,fun i=>i,V.below h2 (by omega),Sym.Re.refl _ _ _,fun i j _ _ h=>by omega,h2.mono hlw⟩
 ·have hlo':=V.row.lt g rfl
  refine (zeI x0 enc N g cap lo hi w V hlo hN).mono fun e w' ⟨h1,q,h2,h3,h4,h5⟩=>⟨h1,q,h2,h3,h4,h5.bel (fun b hb=>by simp at hb;omega) hlw⟩
theorem zev:(Tryz.prog.info? 92).map (fun i=>(i.zero.map (·.cells),i.size))=some (some #[.int .i64 0,.int .i64 0,.string ByteArray.empty,.int .i64 0,.int .i64 0,.int .i64 0,.slice none 0 0,.slice none 0 0,.slice none 0 0],9):=by kernel_rfl
set_option maxRecDepth 100000 in
theorem zfc (tp:Nat→TapeD) (v:Value) (hi:Nat) (w:World) (h:(zak.slice 88).rd w hi (2,tp) [v]) (hhi:hi≤w.heap.size) (hn0:(tp 0).recs.1≤400000) (hn1:(tp 1).recs.1≤400000) :
 Calls Tryz.prog 32 #[v] w (fun e w'=>∃ v' l ce lo,e=.returned v'∧Cnt (recT tp 2) (lenT tp 2) l∧w.heap.size≤lo∧View zab 92 w' lo hi v' l.length (fun i=>recT tp 2 (l.getD i 0)) ce∧Below w.heap.size w w'):=by
 obtain ⟨ao,cap,e,hmm,hc⟩:=h
 obtain rfl:v=.slice ao 2 cap:=by simpa using e
 obtain ⟨b,off,rfl,hbh,hel⟩:=hc (by simp);have hel:∀ i,i<2→∃ ce,zak.rd w hi (tp i) ce∧∀ j,j<zak.sz→w.cell? ⟨b,off+(i*zak.sz+j),none⟩=ce[j]?:=hel;have HEL:=hid hel;clear e hmm hc hel
 go_enter Tryz.func32,Tryz.ntmps32
 go_wp2
 go_loopw [3,12] (fun va i wr=>∃ (k:Nat) (ce:Nat→List Value),k≤2∧i=.int .i64 k∧View zab 92 wr w.heap.size hi va (lenT tp k) (recT tp k) ce∧Below w.heap.size w wr) (fun _ i _=>2-(intOf i).toNat)
 case atStart=>exact ⟨0,fun _=>[],by omega,rfl,View.nil _ _ _ _ _,Below.refl _ _⟩
 case round=>
  obtain ⟨k,ce,hk,rfl,V,bw⟩:=hrel;have zr:=bw.size;have HV:=hid V;have HBW:=hid bw
  by_cases hlt:k<2
  ·obtain ⟨ct,hy,hcell⟩:=zaz (t:=88) HEL.out bw hhi hbh hlt
   obtain ⟨ao1,cap1,rfl,hrs⟩:=zbc hy;have c0:wr.cell? ⟨b,off+k*2,none⟩=some (.bool (tp k).wiped):=hcell 0 (by decide)
   have c1:wr.cell? ⟨b,off+k*2+1,none⟩=some (.slice ao1 (tp k).recs.1 cap1):=by have:=hcell 1 (by decide);exact this
   have bA:=bAl wr (.cells #[.bool (tp k).wiped,.slice ao1 (tp k).recs.1 cap1] 88)
   have hL:lenT tp k+(tp k).recs.1≤10000000:=by
    have:k=0∨k=1:=by omega
    rcases this with rfl | rfl<;>simp only [lenT]<;>omega
   have hrs':(zab.slice 92).rd (wr.alloc (.cells #[.bool (tp k).wiped,.slice ao1 (tp k).recs.1 cap1] 88)) hi ((tp k).recs.1,(tp k).recs.2) [.slice ao1 (tp k).recs.1 cap1]:=Lay.rd_below _ hrs bA (by omega);obtain ⟨cy,hS,hz⟩:=zjE hrs';obtain ⟨v3,w3,hrun,V3,_,b3⟩:=zbq zcF zaL 30 (HV.out.below bA (by omega)) cap1 hS (by simp;omega) (by omega) hL hz;have HV3:=hid V3;have HB3:Hid (Below w.heap.size w w3):=(HBW.out.trans (bA.mono zr)).trans b3
   have i1:(0:Int)≤(k:Int):=by omega
   have i2:(k:Int)<(2:Int):=by omega
   obtain ⟨ao9,cap9,rfl⟩:=V.form;obtain ⟨nT,hnT⟩:∃ n,n=(tp k).recs.1:=⟨_,rfl⟩;obtain ⟨nL,hnL⟩:∃ n,n=lenT tp k:=⟨_,rfl⟩;rw [← hnT] at c1 hrun;rw [← hnL] at hrun;have HnL:=hid hnL;rw [← hnL];clear V3 b3 bA hrs' hrs hcell hy hS V bw hL hz hnT hnL
   go_wp2_with (at_builtin;refine zcQ rfl (.tmp 16) (.tmp 18) rfl ?_ ?_ hrun ?_;(simp [Act.eval]);(simp [Act.eval]))
   clear hrun;go_wp2
   go_roundw
   case rel=>exact ⟨k+1,_,by omega,by go_num,HV3.out,HB3.out⟩
   case measure=>simp [intOf];omega
  ·obtain rfl:k=2:=by omega
   have hN:lenT tp 2<1000000000:=by simp only [lenT];omega
   obtain ⟨N,hNe⟩:∃ N,N=lenT tp 2:=⟨_,rfl⟩;obtain ⟨x0,hx0⟩:∃ x,x=recT tp 2:=⟨_,rfl⟩;obtain ⟨enc,henc⟩:∃ x,x=ce:=⟨_,rfl⟩
   have hN':N≤800000:=by rw [hNe];simp only [lenT];omega
   rw [← hNe,← hx0,← henc] at V;rw [← hNe] at hN;have CS:=ziT x0 enc u3 N w.heap.size hi wr V hhi hN zr;have HNE:Hid (N=lenT tp 2∧x0=recT tp 2):=⟨hNe,hx0⟩;have HV0:=hid V;obtain ⟨aA,capA,hA⟩:=V.form;subst hA;clear V hlt hNe hx0 henc HV bw
   go_wp2_with fail
   refine CS.mono ?_;rintro ee w2 ⟨rfl,q,V2,hRe,hSrt,b2⟩;have HV2:=hid V2;have HRe:=hid hRe;have HSrt:=hid hSrt;have HB2:=hid (HBW.out.trans b2);have z2:w.heap.size≤w2.heap.size:=HB2.out.size;clear V2 hRe hSrt b2 CS HBW HV0;go_wp2
   go_loopw [4,7,25] (fun vo va vi wr=>∃ (k al:Nat) (l:List Nat) (co:Nat→List Value),k≤N∧vi=.int .i64 k∧va=.int .i64 al∧CntQ x0 q k l∧Alk x0 l al∧l.length≤k∧View zab 92 wr w2.heap.size hi vo l.length (fun i=>x0 (l.getD i 0)) co∧Below w2.heap.size w2 wr) (fun _ _ i _=>N-(intOf i).toNat)
   case atStart=>exact ⟨0,0,[],fun _=>[],Nat.zero_le _,rfl,rfl,CntQ.nil x0 q,Alk.start x0,Nat.le_refl _,View.nil _ _ _ _ _,Below.refl _ _⟩
   case round=>
    obtain ⟨k,al,l,co,hk,rfl,rfl,hCQ,hAl,hLk,V,bw⟩:=hrel;obtain ⟨n,hn⟩:∃ n,n=l.length:=⟨_,rfl⟩;have HN:=hid hn;have HCQ:=hid hCQ;have HAl:=hid hAl;have HLk:=hid hLk;rw [← hn] at V hLk;obtain ⟨ao,cap,hvo⟩:=V.form;subst hvo;have HVO:=hid V;have HBR:=hid bw;have zr2:w2.heap.size≤wr.heap.size:=bw.size
    by_cases hlt:k<N
    ·have VAr:=HV2.out.below bw (by omega)
     obtain ⟨gA,cA',hgA⟩:=VAr.form0 (by omega)
     have rgA:wr.rangeAt gA (k*9) (enc (q k)):=by rw [hgA] at VAr;exact VAr.range hlt
     obtain ⟨rfl,rfl⟩:aA=some ⟨gA,0,none⟩∧capA=cA':=by simpa using hgA
     have rdR:=VAr.each k hlt;have hcR:(enc (q k)).length=9:=VAr.lens k hlt;obtain ⟨cR,hcRe⟩:∃ c,c=enc (q k):=⟨_,rfl⟩
     have rdR':zab.rd wr hi (x0 (q k)) cR:=by rw [hcRe];exact rdR
     rw [← hcRe] at rgA hcR;have oneR:∀ v,v∈cR→v.oneCell'=true:=zaL _ _ _ _ rdR'
     have i1:(0:Int)≤(k:Int):=by omega
     have i2:(k:Int)<(N:Int):=by omega
     have bA:=bAl wr (.cells cR.toArray 92);have XA:=zav wr cR.toArray 92;have rdW:zab.rd (wr.alloc (.cells cR.toArray 92)) hi (x0 (q k)) cR:=zab.rd_below rdR' bA (by omega);clear VAr rdR hcRe hgA rdR' V bw hn hCQ hAl
     go_upto_region 12 with (first | (refine wpList_load_mid rfl 92 (.tmp 27) rfl gA (k*9) (by simp [Act.eval]) cR _ rgA Tryz.underlying92 rfl (zah hcR) ?_) | (refine zbd 92 9 (.tmp 28) cR _ 9 rfl rfl rfl rfl rfl rfl rfl rfl zev rfl hcR oneR ?_))
     obtain ⟨W,hW⟩:∃ x,x=wr.alloc (.cells cR.toArray 92):=⟨_,rfl⟩;rw [← hW] at bA XA rdW ⊢;clear hW rgA;have HVOW:Hid (View zab 92 W w2.heap.size hi (.slice ao n cap) n (fun i=>x0 (l.getD i 0)) co):=HVO.out.below bA (by omega);have HXW:=hid XA;have HRW:=hid rdW;have HBW:=hid (HBR.out.trans (bA.mono zr2));have zW:w2.heap.size≤W.heap.size:=HBW.out.size;have zW':wr.heap.size<W.heap.size:=XA.lt;have bD:Below W.heap.size W W.drew:=⟨rfl,rfl,rfl,Nat.le_refl _,fun _ _=>rfl⟩;clear HVO HBR
     by_cases hne:n=0
     ·have hnil:l=[]:=List.eq_nil_of_length_eq_zero (by rw [← HN.out];exact hne)
      have HZ:=hid hne;have hal0:al=0:=HAl.out.nil hnil
      have HBf:Hid (∀ e,e∈l.take al→numC (x0 e) (x0 (q k))<0):=by
       show ∀ e,e∈l.take al→_
       rw [hnil];intro e he;simp at he
      have HAn:Hid (Alk x0 (l++[q k]) al):=by
       show Alk x0 (l++[q k]) al
       have:=Alk.open_ (x0:=x0) (l:=l) (r:=q k) (fun e he=>by rw [hnil] at he;simp at he);rw [← HN.out,hne,← hal0] at this;exact this
      have hal5:al≤n:=by omega
      have d1:decide (0<n)=false:=decide_eq_false (by omega);have d2:decide ((0:Int)<(n:Int))=false:=decide_eq_false (by omega);clear hnil hal0 hne rdW XA bA;refine zax 9 (fun w'=>True) zbx trivial (fun hHeld=>?_);refine zkf 0 rfl ?_
      try simp only [Act.put,SL]
      refine zkf 1 rfl ?_
      try simp only [Act.put,SL]
      refine zkf 2 rfl ?_
      try simp only [Act.put,SL]
      try rw [d1]
      refine zkf 3 rfl ?_
      try simp only [Act.put,SL]
      refine zkh 4 rfl ?_
      try simp only [Act.put,SL]
      refine zkh 5 rfl ?_
      try simp only [Act.put,SL]
      refine zkh 6 rfl ?_
      try simp only [Act.put,SL]
      refine zkh 7 rfl ?_
      try simp only [Act.put,SL]
      refine zkh 8 rfl ?_
      try simp only [Act.put,SL]
      refine zat (i:=9) (o:=_) rfl (by kernel_rfl) (by kernel_rfl) (fun KC hKC=>?_);refine zjS (by kernel_rfl) (hKC _ _ ?_);clear hKC KC
      try simp only [Act.put,SL]
      refine zaf (i:=10) (oi:=_) (v:=undef) rfl (by kernel_rfl) (fun _ _ _ h=>h) (Or.inr ⟨by kernel_rfl,rfl⟩) ?_
      try simp only [Act.put,SL]
      refine zj1 11 (v:=?_) rfl ?_ ?_
      rotate_left
      ·intro w' hSw;go_simp;try with_reducible rfl
      try simp only [Act.put,SL]
      refine zas (by kernel_rfl) ?_ _;obtain ⟨w5,hw5⟩:∃ x,x=W.drew:=⟨_,rfl⟩;rw [← hw5] at bD ⊢;have b5':Below W.heap.size W w5:=bD;clear bD hw5 hHeld d1 d2;have HVO5:Hid (View zab 92 w5 w2.heap.size hi (.slice ao n cap) n (fun i=>x0 (l.getD i 0)) co):=HVOW.out.below b5' (by omega);have z5':W.heap.size≤w5.heap.size:=b5'.size;have HX5:=hid (HXW.out.below b5' HXW.out.lt);have HR5:Hid (zab.rd w5 hi (x0 (q k)) cR):=zab.rd_below HRW.out b5' (by omega);have HB5:=hid (HBW.out.trans (b5'.mono zW))
      have z5:w2.heap.size≤w5.heap.size:=by omega
      clear b5' HVOW HXW HRW HBW;have bD6:Below w5.heap.size w5 w5.drew:=⟨rfl,rfl,rfl,Nat.le_refl _,fun _ _=>rfl⟩;have V6:=HVO5.out.drew;obtain ⟨aS,cS,hSl,sS,rS,-⟩:=V6.from_ (show hi≤w5.drew.heap.size by show hi≤w5.heap.size;omega) (al:=al) hal5;have rdR6:zab.rd w5.drew w5.drew.heap.size (x0 (q k)) cR:=zab.rd_mono (zab.rd_below HR5.out bD6 (by omega)) (by show hi≤w5.heap.size;omega);have CH0:=zc3 (.slice aS (n-al) cS) (n-al) (fun j=>x0 (l.getD (al+j) 0)) (x0 (q k)) cR w5.drew.heap.size w5.drew rS rdR6 (Nat.le_refl _) (by omega)
      have CH:Calls Tryz.prog 73 (#[.slice aS (n-al) cS,.agg cR.toArray]++#[]) w5.drew (za6 (∃ i,i<n-al∧SameR (x0 (l.getD (al+i) 0)) (x0 (q k))) w5.drew):=by rw [Array.append_empty];exact CH0
      have r6:w5.drew.rangeAt wr.heap.size 0 cR:=fun j v hv=>by
       have:=(HX5.out.cell j).trans (by simpa using hv);rw [Nat.zero_add];exact this
      clear CH0 rdR6 rS sS V6
      go_upto_region 14 with fail
      refine zax 4 (fun w'=>w'.rangeAt wr.heap.size 0 cR) zbx r6 (fun hHeld=>?_);refine zkf 0 rfl ?_
      try simp only [Act.put,SL]
      refine zkf 1 rfl ?_
      try simp only [Act.put,SL]
      refine zkd 2 (v:=?_) rfl ?_ ?_
      rotate_left
      ·intro w' hSw
       try rw [show (Instr.slice 30 (.slice ao n cap) (some (.int .i64 (al:Int))) none none).run Tryz.prog w'=_ from hSl w']
       have hSl':=hSl w';go_simp
       try with_reducible rfl
      try simp only [Act.put,SL]
      refine zae (i:=3) (oi:=_) 16 rfl (by kernel_rfl) (fun _ _ _ h=>h) (yieldsIf_load_mid (by kernel_rfl) 92 (.tmp 9) rfl wr.heap.size (0) (by simp [Act.eval,Act.put]) cR _ (fun w h=>h) Tryz.underlying92 rfl (zah hcR)) (by assumption) ?_
      try simp only [Act.put,SL]
      refine zat (i:=4) (o:=_) rfl (by kernel_rfl) (by kernel_rfl) (fun KC hKC=>?_);refine za4 (by kernel_rfl) (.func 73) 73 #[] _ _ rfl (by simp [Act.eval,Act.put]) #[.slice aS (n-al) cS,.agg cR.toArray] (by simp [Act.eval,Act.put]) Tryz.func73 (by kernel_rfl) (by kernel_rfl) CH ?_;rintro ee w7 ⟨t,rfl,ht,b7⟩;refine ⟨_,rfl,?_⟩;refine hKC _ _ ?_;clear hKC KC
      try simp only [Act.put,SL]
      refine zj1 5 (v:=?_) rfl ?_ ?_
      rotate_left
      ·intro w' hSw;go_simp;try with_reducible rfl
      try simp only [Act.put,SL]
      refine zas (by kernel_rfl) ?_ _;have b7':Below w5.heap.size w5 w7:=bD6.trans b7;have z7:w5.heap.size≤w7.heap.size:=b7'.size;have HVO7:Hid (View zab 92 w7 w2.heap.size hi (.slice ao n cap) n (fun i=>x0 (l.getD i 0)) co):=HVO5.out.below b7' (by omega);have HX7:Hid (Box w7 wr.heap.size cR.toArray 92):=HX5.out.below b7' (by omega);have HR7:Hid (zab.rd w7 hi (x0 (q k)) cR):=zab.rd_below HR5.out b7' (by omega);have HB7:=hid (HB5.out.trans (b7'.mono z5))
      have HT:Hid (t=true↔¬ Fst x0 (q k)):=by
       show t=true↔¬ Fst x0 (q k)
       rw [ht,← HCQ.out.has HSrt.out HRe.out hlt HBf.out];rw [HN.out];exact (zb6 (l:=l) (al:=al) (P:=fun o=>SameR (x0 o) (x0 (q k)))).symm
      have hFR:Hid (t=true→al<n):=fun h=>by
       obtain ⟨i,hi',_⟩:=ht.1 h;omega
      clear ht b7 b7' bD6 CH hSl r6 hHeld HVO5 HX5 HR5 HB5
      cases t with
      | true=>
       exfalso
       have:=hFR.out (by simp);have:=HZ.out;omega
      | false=>
       have hF:Fst x0 (q k):=Classical.byContradiction fun h=>absurd (HT.out.2 h) (by simp);have HF:=hid hF;clear hF hFR HT;have RR:=HR7.out;have XX:=HX7.out;obtain ⟨b6,bk6,b7,bk7,b8,bk8,eR,-⟩:=zaM RR;have HER:=hid eR;rw [eR] at XX;have bA:=bAl w7 (.cells #[.int .i64 (x0 (q k)).kind,.int .i64 (x0 (q k)).seq,.string (x0 (q k)).name,.int .i64 (x0 (q k)).length,.int .i64 (x0 (q k)).group,.int .i64 (x0 (q k)).row,.slice b6 (x0 (q k)).rows.1 bk6,.slice b7 (x0 (q k)).data.1 bk7,.slice b8 (x0 (q k)).delta.1 bk8] 92)
       obtain ⟨v8,w8,hrun,V8,_,b8⟩:=zbq zcF zaL 30 (HVO7.out.below bA (by omega)) 1 (zek (b:=w7.heap.size) (hi:=hi) (y:=x0 (q k)) (cs:=cR) (fun j hj=>by
        have:=(zav w7 #[.int .i64 (x0 (q k)).kind,.int .i64 (x0 (q k)).seq,.string (x0 (q k)).name,.int .i64 (x0 (q k)).length,.int .i64 (x0 (q k)).group,.int .i64 (x0 (q k)).row,.slice b6 (x0 (q k)).rows.1 bk6,.slice b7 (x0 (q k)).data.1 bk7,.slice b8 (x0 (q k)).delta.1 bk8] 92).cell j;rw [this,eR]
        simp) (zab.rd_below HR7.out bA (by omega))) (by simp;omega) (by omega) (by omega) (fun h=>by cases h)
       have HV8:Hid (View zab 92 w8 w2.heap.size hi v8 (l++[q k]).length (fun i=>x0 ((l++[q k]).getD i 0)) (cat2 co n (fun _=>cR))):=by
        have e:(l++[q k]).length=n+1:=by rw [List.length_append,← HN.out];rfl
        show View zab 92 w8 w2.heap.size hi v8 (l++[q k]).length (fun i=>x0 ((l++[q k]).getD i 0)) (cat2 co n (fun _=>cR))
        rw [e];refine V8.congr (fun i hi'=>?_)
        by_cases c:i<n
        ·rw [zbp _ _ c,ze9 (by rw [← HN.out];exact c)]
        ·obtain rfl:i=n:=by omega
         have e1:=zbH (fun i=>x0 (l.getD i 0)) i (fun _=>x0 (q k)) 0;rw [Nat.add_zero] at e1;rw [e1]
         show x0 (q k)=x0 ((l++[q k]).getD i 0)
         rw [HN.out,zds]
       have HB8:Hid (Below w2.heap.size w2 w8):=(HB7.out.trans (bA.mono (by omega))).trans b8;clear V8 b8 bA RR eR;have u_0:w7.cell? ⟨wr.heap.size,0,none⟩=some (.int .i64 (x0 (q k)).kind):=XX.cell 0;have u_1:w7.cell? ⟨wr.heap.size,1,none⟩=some (.int .i64 (x0 (q k)).seq):=XX.cell 1;have u_2:w7.cell? ⟨wr.heap.size,2,none⟩=some (.string (x0 (q k)).name):=XX.cell 2;have u_3:w7.cell? ⟨wr.heap.size,3,none⟩=some (.int .i64 (x0 (q k)).length):=XX.cell 3;have u_4:w7.cell? ⟨wr.heap.size,4,none⟩=some (.int .i64 (x0 (q k)).group):=XX.cell 4;have u_5:w7.cell? ⟨wr.heap.size,5,none⟩=some (.int .i64 (x0 (q k)).row):=XX.cell 5;have u_6:w7.cell? ⟨wr.heap.size,6,none⟩=some (.slice b6 (x0 (q k)).rows.1 bk6):=XX.cell 6;have u_7:w7.cell? ⟨wr.heap.size,7,none⟩=some (.slice b7 (x0 (q k)).data.1 bk7):=XX.cell 7;have u_8:w7.cell? ⟨wr.heap.size,8,none⟩=some (.slice b8 (x0 (q k)).delta.1 bk8):=XX.cell 8;clear XX
       go_wp2_with (at_builtin;refine zcQ rfl (.tmp 49) (.tmp 51) rfl ?_ ?_ hrun ?_;(simp [Act.eval]);(simp [Act.eval]))
       clear hrun;go_wp2
       go_roundw
       case rel=>exact ⟨k+1,al,l++[q k],_,by omega,by go_num,rfl,HCQ.out.more HSrt.out hlt HF.out,HAn.out,by rw [List.length_append];have:=HLk.out;simp;omega,HV8.out,HB8.out⟩
       case measure=>simp [intOf];omega
     ·have hne':l≠[]:=fun h=>hne (by rw [HN.out,h];rfl)
      have haln:al<n:=by rw [HN.out];exact HAl.out.lt hne'
      have VD:=HVOW.out.drew;obtain ⟨gO,cO',hgO⟩:=VD.form0 hne
      have rgO:W.drew.rangeAt gO (al*9) (co al):=by rw [hgO] at VD;exact VD.range haln
      obtain ⟨rfl,rfl⟩:ao=some ⟨gO,0,none⟩∧cap=cO':=by simpa using hgO
      have hcO:(co al).length=9:=VD.lens al haln;have CC0:=zbZ (x0 (l.getD al 0)) (x0 (q k)) (co al) cR hi hi W.drew (VD.each al haln) (zab.rd_below rdW bD (by omega));obtain ⟨cO,hcOe⟩:∃ c,c=co al:=⟨_,rfl⟩;rw [← hcOe] at rgO hcO CC0;obtain ⟨c,hc⟩:∃ c:Int,c=numC (x0 (l.getD al 0)) (x0 (q k)):=⟨_,rfl⟩;rw [← hc] at CC0;have HCN:=hid hc
      have CC:Calls Tryz.prog 72 (#[.agg cO.toArray,.agg cR.toArray]++#[]) W.drew fun e w'=>e=.returned (.int .i64 c)∧Below W.drew.heap.size W.drew w':=by rw [Array.append_empty];exact CC0
      have rgB:W.drew.rangeAt wr.heap.size 0 cR:=fun j v hv=>by
       have:=(XA.cell j).trans (by simpa using hv);rw [Nat.zero_add];exact this
      have d1:decide (0<n)=true:=decide_eq_true (by omega);have d2:decide ((0:Int)<(n:Int))=true:=decide_eq_true (by omega)
      have i3:(0:Int)≤(al:Int):=by omega
      have i4:(al:Int)<(n:Int):=by omega
      clear CC0 hc hcOe VD hgO XA rdW bA;refine zax 9 (fun w'=>w'.rangeAt gO (al*9) cO∧w'.rangeAt wr.heap.size 0 cR) zbx ⟨rgO,rgB⟩ (fun hHeld=>?_);refine zkf 0 rfl ?_
      try simp only [Act.put,SL]
      refine zkf 1 rfl ?_
      try simp only [Act.put,SL]
      refine zkf 2 rfl ?_
      try simp only [Act.put,SL]
      try rw [d1]
      refine zkf 3 rfl ?_
      try simp only [Act.put,SL]
      refine zkf 4 rfl ?_
      try simp only [Act.put,SL]
      refine zkf 5 rfl ?_
      try simp only [Act.put,SL]
      refine zkf 6 rfl ?_
      try simp only [Act.put,SL]
      refine zae (i:=7) (oi:=_) 16 rfl (by kernel_rfl) (fun _ _ _ h=>h) (yieldsIf_load_mid (by kernel_rfl) 92 (.tmp 35) rfl gO (al*9) (by simp [Act.eval,Act.put]) cO _ (fun w h=>h.1) Tryz.underlying92 rfl (zah hcO)) (by assumption) ?_
      try simp only [Act.put,SL]
      refine zae (i:=8) (oi:=_) 16 rfl (by kernel_rfl) (fun _ _ _ h=>h) (yieldsIf_load_mid (by kernel_rfl) 92 (.tmp 9) rfl wr.heap.size (0) (by simp [Act.eval,Act.put]) cR _ (fun w h=>h.2) Tryz.underlying92 rfl (zah hcR)) (by assumption) ?_
      try simp only [Act.put,SL]
      refine zat (i:=9) (o:=_) rfl (by kernel_rfl) (by kernel_rfl) (fun KC hKC=>?_);refine za4 (by kernel_rfl) (.func 72) 72 #[] _ _ rfl (by simp [Act.eval,Act.put]) #[.agg cO.toArray,.agg cR.toArray] (by simp [Act.eval,Act.put]) Tryz.func72 (by kernel_rfl) (by kernel_rfl) CC ?_;rintro ee w5 ⟨rfl,b5⟩;refine ⟨_,rfl,?_⟩;refine hKC _ _ ?_;clear hKC KC
      try simp only [Act.put,SL]
      refine zj1 10 (v:=?_) rfl ?_ ?_
      rotate_left
      ·intro w' hSw;go_simp;try with_reducible rfl
      try simp only [Act.put,SL]
      refine zj1 11 (v:=?_) rfl ?_ ?_
      rotate_left
      ·intro w' hSw;go_simp;try with_reducible rfl
      try simp only [Act.put,SL]
      refine zas (by kernel_rfl) ?_ _;have b5':Below W.heap.size W w5:=bD.trans b5;have HVO5:Hid (View zab 92 w5 w2.heap.size hi (.slice (some ⟨gO,0,none⟩) n cap) n (fun i=>x0 (l.getD i 0)) co):=HVOW.out.below b5' (by omega);have z5':W.heap.size≤w5.heap.size:=b5'.size;have HX5:=hid (HXW.out.below b5' HXW.out.lt);have HR5:Hid (zab.rd w5 hi (x0 (q k)) cR):=zab.rd_below HRW.out b5' (by omega);have HB5:=hid (HBW.out.trans (b5'.mono zW))
      have z5:w2.heap.size≤w5.heap.size:=by omega
      clear b5' b5 HVOW HXW HRW HBW CC rgO rgB hHeld bD d1 d2 hcO
      by_cases hc0:c=0
      ·have e0:(c != 0)=false:=by simp [hc0]
       have hst:=HAl.out.stay hne' (r:=q k) (by rw [← HCN.out];exact hc0);have HBf:=hid hst.1;have HAn:=hid hst.2
       have hal5:al≤n:=by omega
       subst hc0;clear hst HCN;have bD6:Below w5.heap.size w5 w5.drew:=⟨rfl,rfl,rfl,Nat.le_refl _,fun _ _=>rfl⟩;have V6:=HVO5.out.drew;obtain ⟨aS,cS,hSl,sS,rS,-⟩:=V6.from_ (show hi≤w5.drew.heap.size by show hi≤w5.heap.size;omega) (al:=al) hal5;have rdR6:zab.rd w5.drew w5.drew.heap.size (x0 (q k)) cR:=zab.rd_mono (zab.rd_below HR5.out bD6 (by omega)) (by show hi≤w5.heap.size;omega);have CH0:=zc3 (.slice aS (n-al) cS) (n-al) (fun j=>x0 (l.getD (al+j) 0)) (x0 (q k)) cR w5.drew.heap.size w5.drew rS rdR6 (Nat.le_refl _) (by omega)
       have CH:Calls Tryz.prog 73 (#[.slice aS (n-al) cS,.agg cR.toArray]++#[]) w5.drew (za6 (∃ i,i<n-al∧SameR (x0 (l.getD (al+i) 0)) (x0 (q k))) w5.drew):=by rw [Array.append_empty];exact CH0
       have r6:w5.drew.rangeAt wr.heap.size 0 cR:=fun j v hv=>by
        have:=(HX5.out.cell j).trans (by simpa using hv);rw [Nat.zero_add];exact this
       clear CH0 rdR6 rS sS V6
       go_upto_region 14 with fail
       refine zax 4 (fun w'=>w'.rangeAt wr.heap.size 0 cR) zbx r6 (fun hHeld=>?_);refine zkf 0 rfl ?_
       try simp only [Act.put,SL]
       refine zkf 1 rfl ?_
       try simp only [Act.put,SL]
       refine zkd 2 (v:=?_) rfl ?_ ?_
       rotate_left
       ·intro w' hSw
        try rw [show (Instr.slice 30 (.slice (some ⟨gO,0,none⟩) n cap) (some (.int .i64 (al:Int))) none none).run Tryz.prog w'=_ from hSl w']
        have hSl':=hSl w';go_simp
        try with_reducible rfl
       try simp only [Act.put,SL]
       refine zae (i:=3) (oi:=_) 16 rfl (by kernel_rfl) (fun _ _ _ h=>h) (yieldsIf_load_mid (by kernel_rfl) 92 (.tmp 9) rfl wr.heap.size (0) (by simp [Act.eval,Act.put]) cR _ (fun w h=>h) Tryz.underlying92 rfl (zah hcR)) (by assumption) ?_
       try simp only [Act.put,SL]
       refine zat (i:=4) (o:=_) rfl (by kernel_rfl) (by kernel_rfl) (fun KC hKC=>?_);refine za4 (by kernel_rfl) (.func 73) 73 #[] _ _ rfl (by simp [Act.eval,Act.put]) #[.slice aS (n-al) cS,.agg cR.toArray] (by simp [Act.eval,Act.put]) Tryz.func73 (by kernel_rfl) (by kernel_rfl) CH ?_;rintro ee w7 ⟨t,rfl,ht,b7⟩;refine ⟨_,rfl,?_⟩;refine hKC _ _ ?_;clear hKC KC
       try simp only [Act.put,SL]
       refine zj1 5 (v:=?_) rfl ?_ ?_
       rotate_left
       ·intro w' hSw;go_simp;try with_reducible rfl
       try simp only [Act.put,SL]
       refine zas (by kernel_rfl) ?_ _;have b7':Below w5.heap.size w5 w7:=bD6.trans b7;have z7:w5.heap.size≤w7.heap.size:=b7'.size;have HVO7:Hid (View zab 92 w7 w2.heap.size hi (.slice (some ⟨gO,0,none⟩) n cap) n (fun i=>x0 (l.getD i 0)) co):=HVO5.out.below b7' (by omega);have HX7:Hid (Box w7 wr.heap.size cR.toArray 92):=HX5.out.below b7' (by omega);have HR7:Hid (zab.rd w7 hi (x0 (q k)) cR):=zab.rd_below HR5.out b7' (by omega);have HB7:=hid (HB5.out.trans (b7'.mono z5))
       have HT:Hid (t=true↔¬ Fst x0 (q k)):=by
        show t=true↔¬ Fst x0 (q k)
        rw [ht,← HCQ.out.has HSrt.out HRe.out hlt HBf.out];rw [HN.out];exact (zb6 (l:=l) (al:=al) (P:=fun o=>SameR (x0 o) (x0 (q k)))).symm
       have hFR:Hid (t=true→al<n):=fun h=>by
        obtain ⟨i,hi',_⟩:=ht.1 h;omega
       clear ht b7 b7' bD6 CH hSl r6 hHeld HVO5 HX5 HR5 HB5
       cases t with
       | true=>
        go_wp2
        go_roundw
        case rel=>exact ⟨k+1,al,l,co,by omega,by go_num,rfl,HCQ.out.skip (HT.out.1 (by simp)),HAl.out,by have:=HLk.out;omega,by rw [← HN.out];exact HVO7.out,HB7.out⟩
        case measure=>simp [intOf];omega
       | false=>
        have hF:Fst x0 (q k):=Classical.byContradiction fun h=>absurd (HT.out.2 h) (by simp);have HF:=hid hF;clear hF hFR HT;have RR:=HR7.out;have XX:=HX7.out;obtain ⟨b6,bk6,b7,bk7,b8,bk8,eR,-⟩:=zaM RR;have HER:=hid eR;rw [eR] at XX;have bA:=bAl w7 (.cells #[.int .i64 (x0 (q k)).kind,.int .i64 (x0 (q k)).seq,.string (x0 (q k)).name,.int .i64 (x0 (q k)).length,.int .i64 (x0 (q k)).group,.int .i64 (x0 (q k)).row,.slice b6 (x0 (q k)).rows.1 bk6,.slice b7 (x0 (q k)).data.1 bk7,.slice b8 (x0 (q k)).delta.1 bk8] 92)
        obtain ⟨v8,w8,hrun,V8,_,b8⟩:=zbq zcF zaL 30 (HVO7.out.below bA (by omega)) 1 (zek (b:=w7.heap.size) (hi:=hi) (y:=x0 (q k)) (cs:=cR) (fun j hj=>by
         have:=(zav w7 #[.int .i64 (x0 (q k)).kind,.int .i64 (x0 (q k)).seq,.string (x0 (q k)).name,.int .i64 (x0 (q k)).length,.int .i64 (x0 (q k)).group,.int .i64 (x0 (q k)).row,.slice b6 (x0 (q k)).rows.1 bk6,.slice b7 (x0 (q k)).data.1 bk7,.slice b8 (x0 (q k)).delta.1 bk8] 92).cell j;rw [this,eR]
         simp) (zab.rd_below HR7.out bA (by omega))) (by simp;omega) (by omega) (by omega) (fun h=>by cases h)
        have HV8:Hid (View zab 92 w8 w2.heap.size hi v8 (l++[q k]).length (fun i=>x0 ((l++[q k]).getD i 0)) (cat2 co n (fun _=>cR))):=by
         have e:(l++[q k]).length=n+1:=by rw [List.length_append,← HN.out];rfl
         show View zab 92 w8 w2.heap.size hi v8 (l++[q k]).length (fun i=>x0 ((l++[q k]).getD i 0)) (cat2 co n (fun _=>cR))
         rw [e];refine V8.congr (fun i hi'=>?_)
         by_cases c:i<n
         ·rw [zbp _ _ c,ze9 (by rw [← HN.out];exact c)]
         ·obtain rfl:i=n:=by omega
          have e1:=zbH (fun i=>x0 (l.getD i 0)) i (fun _=>x0 (q k)) 0;rw [Nat.add_zero] at e1;rw [e1]
          show x0 (q k)=x0 ((l++[q k]).getD i 0)
          rw [HN.out,zds]
        have HB8:Hid (Below w2.heap.size w2 w8):=(HB7.out.trans (bA.mono (by omega))).trans b8;clear V8 b8 bA RR eR;have u_0:w7.cell? ⟨wr.heap.size,0,none⟩=some (.int .i64 (x0 (q k)).kind):=XX.cell 0;have u_1:w7.cell? ⟨wr.heap.size,1,none⟩=some (.int .i64 (x0 (q k)).seq):=XX.cell 1;have u_2:w7.cell? ⟨wr.heap.size,2,none⟩=some (.string (x0 (q k)).name):=XX.cell 2;have u_3:w7.cell? ⟨wr.heap.size,3,none⟩=some (.int .i64 (x0 (q k)).length):=XX.cell 3;have u_4:w7.cell? ⟨wr.heap.size,4,none⟩=some (.int .i64 (x0 (q k)).group):=XX.cell 4;have u_5:w7.cell? ⟨wr.heap.size,5,none⟩=some (.int .i64 (x0 (q k)).row):=XX.cell 5;have u_6:w7.cell? ⟨wr.heap.size,6,none⟩=some (.slice b6 (x0 (q k)).rows.1 bk6):=XX.cell 6;have u_7:w7.cell? ⟨wr.heap.size,7,none⟩=some (.slice b7 (x0 (q k)).data.1 bk7):=XX.cell 7;have u_8:w7.cell? ⟨wr.heap.size,8,none⟩=some (.slice b8 (x0 (q k)).delta.1 bk8):=XX.cell 8;clear XX
        go_wp2_with (at_builtin;refine zcQ rfl (.tmp 49) (.tmp 51) rfl ?_ ?_ hrun ?_;(simp [Act.eval]);(simp [Act.eval]))
        clear hrun;go_wp2
        go_roundw
        case rel=>exact ⟨k+1,al,l++[q k],_,by omega,by go_num,rfl,HCQ.out.more HSrt.out hlt HF.out,HAn.out,by rw [List.length_append];have:=HLk.out;simp;omega,HV8.out,HB8.out⟩
        case measure=>simp [intOf];omega
      ·have e0:(c != 0)=true:=by simp [hc0]
       have hfr:=HAl.out.fresh HCQ.out HSrt.out hlt hne' (by rw [← HCN.out];exact hc0);have HAf:=hid hfr;have HBf:Hid (∀ e,e∈l.take n→numC (x0 e) (x0 (q k))<0):=fun e he=>hfr e (List.mem_of_mem_take he);have HZ:Hid (n=n):=rfl;have hal5:n≤n:=Nat.le_refl _;clear hfr HCN;have bD6:Below w5.heap.size w5 w5.drew:=⟨rfl,rfl,rfl,Nat.le_refl _,fun _ _=>rfl⟩;have V6:=HVO5.out.drew;obtain ⟨aS,cS,hSl,sS,rS,-⟩:=V6.from_ (show hi≤w5.drew.heap.size by show hi≤w5.heap.size;omega) (al:=n) hal5;have rdR6:zab.rd w5.drew w5.drew.heap.size (x0 (q k)) cR:=zab.rd_mono (zab.rd_below HR5.out bD6 (by omega)) (by show hi≤w5.heap.size;omega);have CH0:=zc3 (.slice aS (n-n) cS) (n-n) (fun j=>x0 (l.getD (n+j) 0)) (x0 (q k)) cR w5.drew.heap.size w5.drew rS rdR6 (Nat.le_refl _) (by omega)
       have CH:Calls Tryz.prog 73 (#[.slice aS (n-n) cS,.agg cR.toArray]++#[]) w5.drew (za6 (∃ i,i<n-n∧SameR (x0 (l.getD (n+i) 0)) (x0 (q k))) w5.drew):=by rw [Array.append_empty];exact CH0
       have r6:w5.drew.rangeAt wr.heap.size 0 cR:=fun j v hv=>by
        have:=(HX5.out.cell j).trans (by simpa using hv);rw [Nat.zero_add];exact this
       clear CH0 rdR6 rS sS V6
       go_upto_region 14 with fail
       refine zax 4 (fun w'=>w'.rangeAt wr.heap.size 0 cR) zbx r6 (fun hHeld=>?_);refine zkf 0 rfl ?_
       try simp only [Act.put,SL]
       refine zkf 1 rfl ?_
       try simp only [Act.put,SL]
       refine zkd 2 (v:=?_) rfl ?_ ?_
       rotate_left
       ·intro w' hSw
        try rw [show (Instr.slice 30 (.slice (some ⟨gO,0,none⟩) n cap) (some (.int .i64 (n:Int))) none none).run Tryz.prog w'=_ from hSl w']
        have hSl':=hSl w';go_simp
        try with_reducible rfl
       try simp only [Act.put,SL]
       refine zae (i:=3) (oi:=_) 16 rfl (by kernel_rfl) (fun _ _ _ h=>h) (yieldsIf_load_mid (by kernel_rfl) 92 (.tmp 9) rfl wr.heap.size (0) (by simp [Act.eval,Act.put]) cR _ (fun w h=>h) Tryz.underlying92 rfl (zah hcR)) (by assumption) ?_
       try simp only [Act.put,SL]
       refine zat (i:=4) (o:=_) rfl (by kernel_rfl) (by kernel_rfl) (fun KC hKC=>?_);refine za4 (by kernel_rfl) (.func 73) 73 #[] _ _ rfl (by simp [Act.eval,Act.put]) #[.slice aS (n-n) cS,.agg cR.toArray] (by simp [Act.eval,Act.put]) Tryz.func73 (by kernel_rfl) (by kernel_rfl) CH ?_;rintro ee w7 ⟨t,rfl,ht,b7⟩;refine ⟨_,rfl,?_⟩;refine hKC _ _ ?_;clear hKC KC
       try simp only [Act.put,SL]
       refine zj1 5 (v:=?_) rfl ?_ ?_
       rotate_left
       ·intro w' hSw;go_simp;try with_reducible rfl
       try simp only [Act.put,SL]
       refine zas (by kernel_rfl) ?_ _;have b7':Below w5.heap.size w5 w7:=bD6.trans b7;have z7:w5.heap.size≤w7.heap.size:=b7'.size;have HVO7:Hid (View zab 92 w7 w2.heap.size hi (.slice (some ⟨gO,0,none⟩) n cap) n (fun i=>x0 (l.getD i 0)) co):=HVO5.out.below b7' (by omega);have HX7:Hid (Box w7 wr.heap.size cR.toArray 92):=HX5.out.below b7' (by omega);have HR7:Hid (zab.rd w7 hi (x0 (q k)) cR):=zab.rd_below HR5.out b7' (by omega);have HB7:=hid (HB5.out.trans (b7'.mono z5))
       have HT:Hid (t=true↔¬ Fst x0 (q k)):=by
        show t=true↔¬ Fst x0 (q k)
        rw [ht,← HCQ.out.has HSrt.out HRe.out hlt HBf.out];rw [HN.out];exact (zb6 (l:=l) (al:=l.length) (P:=fun o=>SameR (x0 o) (x0 (q k)))).symm
       have hFR:Hid (t=true→n<n):=fun h=>by
        obtain ⟨i,hi',_⟩:=ht.1 h;omega
       clear ht b7 b7' bD6 CH hSl r6 hHeld HVO5 HX5 HR5 HB5
       cases t with
       | true=>
        exfalso
        have:=hFR.out (by simp);have:=HZ.out;omega
       | false=>
        have hF:Fst x0 (q k):=Classical.byContradiction fun h=>absurd (HT.out.2 h) (by simp);have HF:=hid hF;clear hF hFR HT;have RR:=HR7.out;have XX:=HX7.out;obtain ⟨b6,bk6,b7,bk7,b8,bk8,eR,-⟩:=zaM RR;have HER:=hid eR;rw [eR] at XX;have bA:=bAl w7 (.cells #[.int .i64 (x0 (q k)).kind,.int .i64 (x0 (q k)).seq,.string (x0 (q k)).name,.int .i64 (x0 (q k)).length,.int .i64 (x0 (q k)).group,.int .i64 (x0 (q k)).row,.slice b6 (x0 (q k)).rows.1 bk6,.slice b7 (x0 (q k)).data.1 bk7,.slice b8 (x0 (q k)).delta.1 bk8] 92)
        obtain ⟨v8,w8,hrun,V8,_,b8⟩:=zbq zcF zaL 30 (HVO7.out.below bA (by omega)) 1 (zek (b:=w7.heap.size) (hi:=hi) (y:=x0 (q k)) (cs:=cR) (fun j hj=>by
         have:=(zav w7 #[.int .i64 (x0 (q k)).kind,.int .i64 (x0 (q k)).seq,.string (x0 (q k)).name,.int .i64 (x0 (q k)).length,.int .i64 (x0 (q k)).group,.int .i64 (x0 (q k)).row,.slice b6 (x0 (q k)).rows.1 bk6,.slice b7 (x0 (q k)).data.1 bk7,.slice b8 (x0 (q k)).delta.1 bk8] 92).cell j;rw [this,eR]
         simp) (zab.rd_below HR7.out bA (by omega))) (by simp;omega) (by omega) (by omega) (fun h=>by cases h)
        have HV8:Hid (View zab 92 w8 w2.heap.size hi v8 (l++[q k]).length (fun i=>x0 ((l++[q k]).getD i 0)) (cat2 co n (fun _=>cR))):=by
         have e:(l++[q k]).length=n+1:=by rw [List.length_append,← HN.out];rfl
         show View zab 92 w8 w2.heap.size hi v8 (l++[q k]).length (fun i=>x0 ((l++[q k]).getD i 0)) (cat2 co n (fun _=>cR))
         rw [e];refine V8.congr (fun i hi'=>?_)
         by_cases c:i<n
         ·rw [zbp _ _ c,ze9 (by rw [← HN.out];exact c)]
         ·obtain rfl:i=n:=by omega
          have e1:=zbH (fun i=>x0 (l.getD i 0)) i (fun _=>x0 (q k)) 0;rw [Nat.add_zero] at e1;rw [e1]
          show x0 (q k)=x0 ((l++[q k]).getD i 0)
          rw [HN.out,zds]
        have HB8:Hid (Below w2.heap.size w2 w8):=(HB7.out.trans (bA.mono (by omega))).trans b8;clear V8 b8 bA RR eR;have u_0:w7.cell? ⟨wr.heap.size,0,none⟩=some (.int .i64 (x0 (q k)).kind):=XX.cell 0;have u_1:w7.cell? ⟨wr.heap.size,1,none⟩=some (.int .i64 (x0 (q k)).seq):=XX.cell 1;have u_2:w7.cell? ⟨wr.heap.size,2,none⟩=some (.string (x0 (q k)).name):=XX.cell 2;have u_3:w7.cell? ⟨wr.heap.size,3,none⟩=some (.int .i64 (x0 (q k)).length):=XX.cell 3;have u_4:w7.cell? ⟨wr.heap.size,4,none⟩=some (.int .i64 (x0 (q k)).group):=XX.cell 4;have u_5:w7.cell? ⟨wr.heap.size,5,none⟩=some (.int .i64 (x0 (q k)).row):=XX.cell 5;have u_6:w7.cell? ⟨wr.heap.size,6,none⟩=some (.slice b6 (x0 (q k)).rows.1 bk6):=XX.cell 6;have u_7:w7.cell? ⟨wr.heap.size,7,none⟩=some (.slice b7 (x0 (q k)).data.1 bk7):=XX.cell 7;have u_8:w7.cell? ⟨wr.heap.size,8,none⟩=some (.slice b8 (x0 (q k)).delta.1 bk8):=XX.cell 8;clear XX
        go_wp2_with (at_builtin;refine zcQ rfl (.tmp 49) (.tmp 51) rfl ?_ ?_ hrun ?_;(simp [Act.eval]);(simp [Act.eval]))
        clear hrun;go_wp2
        go_roundw
        case rel=>exact ⟨k+1,l.length,l++[q k],_,by omega,by go_num,by rw [← HN.out],HCQ.out.more HSrt.out hlt HF.out,Alk.open_ (x0:=x0) HAf.out,by rw [List.length_append];have:=HLk.out;simp;omega,HV8.out,HB8.out⟩
        case measure=>simp [intOf];omega
    ·obtain rfl:k=N:=by omega
     clear hlt;go_wp2;go_ret;obtain ⟨e1,e2⟩:=HNE.out;exact ⟨_,l,co,w2.heap.size,rfl,by rw [← e1,← e2];exact HCQ.out.all HRe.out,z2,by rw [← e2,← HN.out];exact HVO.out,HB2.out.trans (HBR.out.mono z2)⟩
structure RecsResultD where
 code:Int
 recs:Nat×(Nat→RecD)
def zaw:Lay RecsResultD:=(layI.two (zab.slice 92)).as fun d=>(d.code,d.recs)
theorem zb7 {w:World} {hi:Nat} {d:RecsResultD} {cs:List Value} (h:zaw.rd w hi d cs):∃ ao1 cap1,cs=[.int .i64 d.code,.slice ao1 d.recs.1 cap1]∧(zab.slice 92).rd w hi d.recs [.slice ao1 d.recs.1 cap1]∧(-9223372036854775808≤d.code∧d.code≤9223372036854775807):=by
 obtain ⟨c0,r0,rfl,h0,h1⟩:=h;obtain ⟨rfl,k0⟩:=h0;obtain ⟨ao1,cap1,rfl⟩:=zbO h1;exact ⟨ao1,cap1,rfl,h1,k0⟩
theorem zc8 {w:World} {d:RecsResultD} {cs:List Value} {L:List Nat} (h:zaw.own w d cs L):∃ ao1 cap1 K1,cs=[.int .i64 d.code,.slice ao1 d.recs.1 cap1]∧L=K1∧(zab.slice 92).own w d.recs [.slice ao1 d.recs.1 cap1] K1∧(-9223372036854775808≤d.code∧d.code≤9223372036854775807):=by
 obtain ⟨c0,r0,L0,M0,rfl,rfl,h0,h1⟩:=h;obtain ⟨rfl,k0,rfl⟩:=h0;obtain ⟨ao1,cap1,rfl⟩:=zbG h1;exact ⟨ao1,cap1,_,rfl,rfl,h1,k0⟩
theorem zdG {w:World} {d:RecsResultD} {cs:List Value} {L:List Nat} (h:zaw.own w d cs L):∃ ao1 cap1,cs=[.int .i64 d.code,.slice ao1 d.recs.1 cap1]:=by
 obtain ⟨ao1,cap1,K1,rfl,-⟩:=zc8 h;exact ⟨ao1,cap1,rfl⟩
theorem zdX {w:World} {lo hi:Nat} {d:RecsResultD} {cs:List Value} (h:OwnT zaw w lo hi d cs):∃ ao1 cap1,cs=[.int .i64 d.code,.slice ao1 d.recs.1 cap1]:=by
 obtain ⟨L,h1,-⟩:=h;exact zdG h1
theorem zdv {w:World} (d:RecsResultD) {ao1:Option Addr} {cap1:Nat} {K1:List Nat} (h1:(zab.slice 92).own w d.recs [.slice ao1 d.recs.1 cap1] K1) (k0:(-9223372036854775808≤d.code∧d.code≤9223372036854775807)):zaw.own w d [.int .i64 d.code,.slice ao1 d.recs.1 cap1] (K1):=⟨_,_,[],K1,rfl,rfl,⟨rfl,k0,rfl⟩,h1⟩
def zbe (d:RecsResultD):Nat:=(cSl zaO) d.recs
def zbT (j:Nat) (d:RecsResultD):RecsResultD:=⟨d.code,(mkSl zaO zbf) (j) d.recs⟩
structure BytesResultD where
 code:Int
 bytes:Nat×(Nat→Nat)
structure IntsResultD where
 code:Int
 list:Nat×(Nat→Int)
structure GroupsResultD where
 code:Int
 groups:Nat×(Nat→Int)
theorem zdw {f g:Nat→Nat}:∀ {n:Nat},(∀ i,i<n→f i=g i)→sumN f n=sumN g n
 | 0,_=>rfl
 | n+1,h=>by rw [zaI,zaI,zdw (fun i hi=>h i (by omega)),h n (by omega)]
theorem zhn (f g:Nat→Nat) (n:Nat):∀ m,sumN (fun i=>if i<n then f i else g (i-n)) (n+m)=sumN f n+sumN g m
 | 0=>by rw [Nat.add_zero];exact zdw (fun i hi=>if_pos hi)
 | m+1=>by
  rw [← Nat.add_assoc,zaI,zhn f g n m,zaI,if_neg (by omega),show n+m-n=m by omega];omega
theorem zho (f:Nat→Nat) (l:List Nat):sumN (fun i=>f (l.getD i 0)) l.length=(l.map f).sum:=by
 generalize hn:l.length=n
 induction n generalizing l with
 | zero=>obtain rfl:l=[]:=List.eq_nil_of_length_eq_zero hn;rfl
 | succ n ih=>
  have hne:l≠[]:=fun h=>by rw [h] at hn;simp at hn
  have e:=List.dropLast_concat_getLast hne
  have hl:l.dropLast.length=n:=by rw [List.length_dropLast];omega
  have h1:=ih l.dropLast hl;rw [zaI]
  conv=>rhs;rw [← e]
  rw [List.map_append,List.sum_append,← h1]
  congr 1
  ·exact zdw (fun i hi=>by
    have:l.getD i 0=l.dropLast.getD i 0:=by
     conv=>lhs;rw [← e]
     exact ze9 (by rw [hl];exact hi)
    rw [this])
  ·have:l.getD n 0=l.getLast hne:=by
    conv=>lhs;rw [← e]
    rw [← hl];exact zds
   rw [this]
   simp
theorem zfd (f:Nat→Nat):∀ (N:Nat) (l:List Nat),l.Nodup→(∀ i,i∈l→i<N)→(l.map f).sum≤sumN f N∧l.length≤N
 | 0,l,_,h=>by
  cases l with
  | nil=>exact ⟨Nat.le_refl _,Nat.le_refl _⟩
  | cons a t=>exact absurd (h a (by simp)) (by omega)
 | N+1,l,nd,h=>by
  by_cases c:N∈l
  ·have p:=List.perm_cons_erase c
   obtain ⟨h1,h2⟩:=zfd f N (l.erase N) (nd.erase N) (fun i hi=>by
    have h3:=(nd.mem_erase_iff).1 hi;have:=h i h3.2
    omega)
   have e1:=(p.map f).sum_nat;have e2:=p.length_eq
   simp only [List.map_cons,List.sum_cons,List.length_cons] at e1 e2
   rw [zaI];omega
  ·obtain ⟨h1,h2⟩:=zfd f N l nd (fun i hi=>by
    have:=h i hi
    by_cases c2:i=N
    ·subst c2;exact absurd hi c
    ·omega)
   rw [zaI];omega
theorem Cnt.nodup {x0:Nat→RecD} {N:Nat} {l:List Nat} (h:Cnt x0 N l):l.Nodup:=h.srt.imp (fun {a b} hab e=>by subst e;exact (zbl x0).irr _ hab)
theorem Cnt.sum {x0:Nat→RecD} {N:Nat} {l:List Nat} (h:Cnt x0 N l) (f:RecD→Nat):sumN (fun i=>f (x0 (l.getD i 0))) l.length≤sumN (fun i=>f (x0 i)) N∧l.length≤N:=by
 have:=zfd (fun i=>f (x0 i)) N l h.nodup (fun i hi=>((h.mem i).1 hi).1);rw [← zho (fun i=>f (x0 i))] at this;exact this
theorem zga (x0:Nat→RecD) (M:Nat) (l:List Nat):∀ k,k≤l.length→(∀ j,k≤j→j<l.length→numC (x0 M) (x0 (l.getD j 0))<0)→∃ a,a≤l.length∧(∀ j,a≤j→j<l.length→numC (x0 M) (x0 (l.getD j 0))<0)∧(a=0∨¬ numC (x0 M) (x0 (l.getD (a-1) 0))<0)
 | 0,h,hb=>⟨0,h,hb,.inl rfl⟩
 | k+1,h,hb=>by
  by_cases c:numC (x0 M) (x0 (l.getD k 0))<0
  ·exact zga x0 M l k (by omega) (fun j h1 h2=>by
    by_cases e:j=k
    ·subst e;exact c
    ·exact hb j (by omega) h2)
  ·exact ⟨k+1,h,hb,.inr c⟩
theorem zjF (x0:Nat→RecD):∀ N,∃ l,Cnt x0 N l
 | 0=>⟨[],Cnt.nil x0⟩
 | N+1=>by
  obtain ⟨l,h⟩:=zjF x0 N
  by_cases c:Fst x0 N
  ·obtain ⟨a,h1,h2,h3⟩:=zga x0 N l l.length (Nat.le_refl _) (fun j h1 h2=>by omega)
   exact ⟨_,h.ins c a h1 h2 h3⟩
  ·exact ⟨l,h.skip c⟩
theorem zjl (f:RecD→Nat) (tp:Nat→TapeD):sumN (fun i=>f (recT tp 2 i)) (lenT tp 2)=sumN (fun i=>f ((tp 0).recs.2 i)) (tp 0).recs.1+sumN (fun i=>f ((tp 1).recs.2 i)) (tp 1).recs.1:=by
 have e1:lenT tp 1=(tp 0).recs.1:=by simp [lenT]
 have e2:lenT tp 2=(tp 0).recs.1+(tp 1).recs.1:=by simp [lenT]
 rw [e2,← zhn];refine zdw (fun i hi=>?_)
 show f (cat2 (recT tp 1) (lenT tp 1) (tp 1).recs.2 i)=_
 rw [e1];unfold cat2
 by_cases c:i<(tp 0).recs.1
 ·rw [if_pos c,if_pos c]
  show f (cat2 (recT tp 0) (lenT tp 0) (tp 0).recs.2 i)=_
  have:=zbH (recT tp 0) (lenT tp 0) (tp 0).recs.2 i;rw [show lenT tp 0+i=i from Nat.zero_add i] at this;rw [this]
 ·rw [if_neg c,if_neg c]
def rec0:RecD:=⟨0,0,ByteArray.empty,0,0,0,(0,fun _=>0),(0,fun _=>0),(0,fun _=>0)⟩
theorem zjm {d:WorldD} (h2:d.tapes.1=2) (hsz:zbk d≤1048576) {l:List Nat} (h:Cnt (recT d.tapes.2 2) (lenT d.tapes.2 2) l):(szSl zaD) (l.length,fun i=>recT d.tapes.2 2 (l.getD i 0))≤1048576:=by
 obtain ⟨s1,s2⟩:=h.sum zaD;rw [zjl] at s1
 have e2:lenT d.tapes.2 2=(d.tapes.2 0).recs.1+(d.tapes.2 1).recs.1:=by simp [lenT]
 have e3:(szSl zaS) d.tapes=2+(zaS (d.tapes.2 0)+zaS (d.tapes.2 1)):=by
  unfold szSl;rw [h2]
  simp [sumN]
 have e4:zaS (d.tapes.2 0)=(d.tapes.2 0).recs.1+sumN (fun i=>zaD ((d.tapes.2 0).recs.2 i)) (d.tapes.2 0).recs.1:=rfl;have e5:zaS (d.tapes.2 1)=(d.tapes.2 1).recs.1+sumN (fun i=>zaD ((d.tapes.2 1).recs.2 i)) (d.tapes.2 1).recs.1:=rfl;have e6:zbk d=(szSl (szSl zay)) d.groups+lenD d.on+(szSl zaS) d.tapes:=rfl
 show l.length+sumN (fun i=>zaD (recT d.tapes.2 2 (l.getD i 0))) l.length≤1048576
 omega
theorem zjn (p:Nat×(Nat→RecD)):(cSl zaO) p≤6*(szSl zaD) p:=by
 have:∀ n,sumN (fun i=>zaO (p.2 i)) n≤6*(n+sumN (fun i=>zaD (p.2 i)) n):=fun n=>by
  induction n with
  | zero=>exact Nat.zero_le _
  | succ n ih=>
   rw [zaI,zaI];have h1:zaO (p.2 n)=6+lenD (p.2 n).rows+lenD (p.2 n).data+lenD (p.2 n).delta:=rfl;have h2:zaD (p.2 n)=(p.2 n).name.size+lenD (p.2 n).rows+lenD (p.2 n).data+lenD (p.2 n).delta:=rfl;omega
 exact this p.1
def ziU (P:RecsResultD→Prop) (w:World) (e:Ending) (w':World):Prop:=∃ q cs,e=.returned (.agg cs.toArray)∧P q∧OwnT zaw w' w.heap.size w'.heap.size q cs∧Below w.heap.size w w'
theorem zbJ:(Tryz.prog.info? 32).map (·.size)=some 2:=by kernel_rfl
theorem zfe {w:World} {lo hi n cap:Nat} {ao:Option Addr} {f:Nat→RecD} (h:OwnT (zab.slice 92) w lo hi (n,f) [.slice ao n cap]) (c:Int) (hc:-9223372036854775808≤c∧c≤9223372036854775807):OwnT zaw w lo hi ⟨c,(n,f)⟩ [.int .i64 c,.slice ao n cap]:=by
 obtain ⟨L,h1,h2,h3⟩:=h;exact ⟨L,zdv ⟨c,(n,f)⟩ h1 hc,h2,h3⟩
theorem zb0 (w:World) (c:Int) (hc:-9223372036854775808≤c∧c≤9223372036854775807) (lo hi:Nat):OwnT zaw w lo hi ⟨c,(0,fun _=>rec0)⟩ [.int .i64 c,.slice none 0 0]:=zfe (OwnT.nil (zjf w _) lo hi) c hc
theorem zgb {w:World} {lo hi:Nat} {p:Nat×(Nat→RecD)} {v:Value} (h:OwnT (zab.slice 92) w lo hi p [v]):∃ ao cap,v=.slice ao p.1 cap:=by
 obtain ⟨L,h1,_⟩:=h;obtain ⟨v',_,_,e,_,h3,_⟩:=h1
 obtain rfl:v=v':=by simpa using e
 rcases h3.2 with ⟨hv,hn⟩ | ⟨g,cap,cur,rfl,_⟩
 ·exact ⟨none,0,by rw [hv,hn]⟩
 ·exact ⟨_,_,rfl⟩
theorem zdc {w:World} (b:Nat) (cs:Array Value):ChgL [b] w (w.setRow b cs):=
 ⟨rfl,rfl,rfl,by simp,fun k _ hn=>setRow_other w b k cs (fun h=>hn (by simp [h]))⟩
theorem zbB {ops:Array Oper} {rest:List Oper} {o:Oper} {a:Act} {w:World} {Q:Exit→Act→World→Prop} (T:TypeId) (x y:Operand) (ho:o.op=.store T x y) (hgd:o.guard=none) (b:Nat) (hx:a.eval x=.pointer (some ⟨b,0,none⟩)) {cs old:List Value} (hy:a.eval y=.agg cs.toArray) (hB:Box w b old.toArray T) {n:Nat} (hi:(Tryz.prog.info? T).map (·.size)=some n) (hl:cs.length=n) (hol:old.length=n) (h1:∀ v,v∈cs→v.oneCell'=true)
 (h:∀ w',Box w' b cs.toArray T→ChgL [b] w w'→w'.heap.size=w.heap.size→wpList Tryz.prog ops Q rest (a.put o.dst undef) w'):wpList Tryz.prog ops Q (o::rest) a w:=by
 refine wpList_store_row hgd T x y ho b cs.toArray hx hy T old.toArray hB (by rw [hi];simp [hl]) (by simp [hl,hol]) (by simp;exact h1) ?_;exact h _ (setRow_heap w b _ cs.toArray T (0,0) hB) (zdc b _) (by simp)
theorem zdd {fn:Func} {R:Ending→World→Prop} {a:Act} {w:World} {p:Tmp} {ty:TypeId} (h:fn.results=#[.cell p ty]) {b:Nat} {cs:List Value} (hp:a.tmps.getD p undef=.pointer (some ⟨b,0,none⟩)) (hB:Box w b cs.toArray ty) {fs:Array Field} (hu:Tryz.prog.underlying ty=some (.struct fs)) {n:Nat} (hi:(Tryz.prog.info? ty).map (·.size)=some n) (hl:cs.length=n) (hd:a.defers=[]) (hR:R (.returned (.agg cs.toArray)) w):bodyPost Tryz.prog fn R .ret a w:=
 bodyPost_ret (results_cell_row h a.tmps w b ty cs.toArray (0,0) (.struct fs) hp hB hu rfl (by rw [hi];simp [hl])) hd hR
theorem OwnT.chgk {α:Type} {A:Lay α} {w w':World} {lo hi:Nat} {a:α} {cs:List Value} {K:List Nat} (h:OwnT A w lo hi a cs) (hc:ChgL K w w') (hK:∀ b,b∈K→b<lo∨hi≤b):OwnT A w' lo hi a cs:=by
 obtain ⟨M,h1,h2,h3⟩:=h;exact ⟨M,A.own_kept h1 (fun b hb=>hc.block b (A.own_lt h1 b hb) (fun hh=>by have:=hK b hh;have:=h3 b hb;omega)),h2,h3⟩
set_option maxRecDepth 20000 in
theorem zcw (d:WorldD) (hs:zaq d.shape) (cs:List Value) (hi:Nat) (w:World) (h:zam.rd w hi d cs) (hhi:hi≤w.heap.size) :
 Calls Tryz.prog 52 #[.agg cs.toArray] w (za6 (zcE d) w):=by
 obtain ⟨ao1,cap1,ao2,cap2,ao3,cap3,rfl,g1,-⟩:=za3 h;clear h;obtain ⟨_,_,e1,hm1,hc1⟩:=g1
 cases e1
 unfold maxLen at hm1;have HC1:=hid hc1;have HS:=hid hs;clear hc1 hs
 go_enter Tryz.func52,Tryz.ntmps52
 go_upto_region 2 with fail
 have T0:=zaG w (rwW d ao1 cap1 ao2 cap2 ao3 cap3).toArray (rwS d.shape).toArray 38 34;obtain ⟨W,hW⟩:∃ W,W=(w.alloc (.cells (rwW d ao1 cap1 ao2 cap2 ao3 cap3).toArray 38)).alloc (.cells (rwS d.shape).toArray 34):=⟨_,rfl⟩;rw [← hW] at T0 ⊢;have HT:=hid T0;clear hW;have x0_9:W.cell? ⟨w.heap.size,9,none⟩=some (.slice ao1 d.groups.1 cap1):=T0.b1.cell 9;have kx0_9:=cell_regrown x0_9;have y0_0:W.cell? ⟨w.heap.size+1,0,none⟩=some (.int .i64 (d.shape 0)):=T0.b2.cell 0;have ky0_0:=cell_regrown y0_0;have y0_1:W.cell? ⟨w.heap.size+1,1,none⟩=some (.int .i64 (d.shape 1)):=T0.b2.cell 1;have ky0_1:=cell_regrown y0_1;have y0_2:W.cell? ⟨w.heap.size+1,2,none⟩=some (.int .i64 (d.shape 2)):=T0.b2.cell 2;have ky0_2:=cell_regrown y0_2;have y0_3:W.cell? ⟨w.heap.size+1,3,none⟩=some (.int .i64 (d.shape 3)):=T0.b2.cell 3;have ky0_3:=cell_regrown y0_3;have y0_4:W.cell? ⟨w.heap.size+1,4,none⟩=some (.int .i64 (d.shape 4)):=T0.b2.cell 4;have ky0_4:=cell_regrown y0_4;have y0_5:W.cell? ⟨w.heap.size+1,5,none⟩=some (.int .i64 (d.shape 5)):=T0.b2.cell 5;have ky0_5:=cell_regrown y0_5;have y0_6:W.cell? ⟨w.heap.size+1,6,none⟩=some (.int .i64 (d.shape 6)):=T0.b2.cell 6;have ky0_6:=cell_regrown y0_6;have y0_7:W.cell? ⟨w.heap.size+1,7,none⟩=some (.int .i64 (d.shape 7)):=T0.b2.cell 7;have ky0_7:=cell_regrown y0_7;have y0_8:W.cell? ⟨w.heap.size+1,8,none⟩=some (.int .i64 (d.shape 8)):=T0.b2.cell 8
 have ky0_8:=cell_regrown y0_8;clear T0;have cA:=zaC (W:=W) (fun w' _=>zbX d.shape HS.out w');unfold zag at cA
 by_cases hlen:(d.groups.1:Int)=d.shape 0+d.shape 1
 ·have hne:((d.groups.1:Int) != d.shape 0+d.shape 1)=false:=by simpa using hlen
  have HLEN:=hid hlen;clear hlen;refine WQ.region (by kernel_rfl) (by kernel_rfl) ?_
  repeat (first | (apply WQ.skip;(case hw=>rfl);intro K hK;go_simp;apply hK;clear hK K) | (apply WQ.want;(case hw=>rfl);intro K hK;go_simp;first | (apply hK;clear hK K) | (apply Exists.intro;apply And.intro;(case left=>intro p;(first | (go_at_call 54;exact cA _ _)));apply hK;clear hK K)))
  refine WQ.nil ?_;intro w1 hw1;have HT1:=hid (HT.out.call (zaN hw1));clear hw1 cA x0_9 kx0_9 y0_0 ky0_0 y0_1 ky0_1 y0_2 ky0_2 y0_3 ky0_3 y0_4 ky0_4 y0_5 ky0_5 y0_6 ky0_6 y0_7 ky0_7 y0_8 ky0_8;go_wp2
  go_loopw [4] (fun i wr=>∃ k:Nat,k≤d.groups.1∧i=.int .i64 k∧(∀ i,i<k→ze6 d.shape (d.groups.2 i))∧Two w wr (rwW d ao1 cap1 ao2 cap2 ao3 cap3).toArray (rwS d.shape).toArray 38 34) (fun i _=>d.groups.1-(intOf i).toNat)
  case atStart=>exact ⟨0,Nat.zero_le _,rfl,fun i hi=>by omega,HT1.out⟩
  case round=>
   clear HT1;obtain ⟨k,hk,rfl,hal,T2⟩:=hrel;obtain ⟨wo,rfl⟩:∃ x,x=wr:=⟨_,rfl⟩;have HAL:=hid hal;have HT2:=hid T2;clear hal;have x2_9:wo.cell? ⟨w.heap.size,9,none⟩=some (.slice ao1 d.groups.1 cap1):=T2.b1.cell 9;have kx2_9:=cell_regrown x2_9;have y2_0:wo.cell? ⟨w.heap.size+1,0,none⟩=some (.int .i64 (d.shape 0)):=T2.b2.cell 0;have ky2_0:=cell_regrown y2_0;have y2_1:wo.cell? ⟨w.heap.size+1,1,none⟩=some (.int .i64 (d.shape 1)):=T2.b2.cell 1;have ky2_1:=cell_regrown y2_1;have y2_2:wo.cell? ⟨w.heap.size+1,2,none⟩=some (.int .i64 (d.shape 2)):=T2.b2.cell 2;have ky2_2:=cell_regrown y2_2;have y2_3:wo.cell? ⟨w.heap.size+1,3,none⟩=some (.int .i64 (d.shape 3)):=T2.b2.cell 3;have ky2_3:=cell_regrown y2_3;have y2_4:wo.cell? ⟨w.heap.size+1,4,none⟩=some (.int .i64 (d.shape 4)):=T2.b2.cell 4;have ky2_4:=cell_regrown y2_4;have y2_5:wo.cell? ⟨w.heap.size+1,5,none⟩=some (.int .i64 (d.shape 5)):=T2.b2.cell 5;have ky2_5:=cell_regrown y2_5;have y2_6:wo.cell? ⟨w.heap.size+1,6,none⟩=some (.int .i64 (d.shape 6)):=T2.b2.cell 6;have ky2_6:=cell_regrown y2_6;have y2_7:wo.cell? ⟨w.heap.size+1,7,none⟩=some (.int .i64 (d.shape 7)):=T2.b2.cell 7;have ky2_7:=cell_regrown y2_7;have y2_8:wo.cell? ⟨w.heap.size+1,8,none⟩=some (.int .i64 (d.shape 8)):=T2.b2.cell 8;have ky2_8:=cell_regrown y2_8
   by_cases hlt:k<d.groups.1
   ·obtain ⟨b1,off1,he1,hb1,hel1⟩:=HC1.out (by omega)
    subst he1;have HEL:=hid hel1;obtain ⟨ck,hrk,hcell⟩:=zaz (t:=0) hel1 T2.bel hhi hb1 hlt;obtain ⟨ao9,cap9,rfl⟩:=zbO hrk
    have c0:wo.cell? ⟨b1,off1+k,none⟩=some (.slice ao9 (d.groups.2 k).1 cap9):=by
     have h:=hcell 0 (show 0<1 by decide);rw [show (zad.slice 120).sz=1 from rfl,Nat.mul_one,Nat.add_zero] at h;exact h
    have kc0:=cell_regrown c0;obtain ⟨_,_,e9,hm9,hc9⟩:=hrk
    cases e9
    have HC9:=hid hc9;unfold maxLen at hm9;have cD:=zaC (W:=wo) (fun w' _=>zfV d.shape HS.out w');unfold zag at cD;have zw:w.heap.size+1<wo.heap.size:=T2.b2.lt;clear hcell hc9 hel1 T2
    by_cases hlen2:((d.groups.2 k).1:Int)=d.shape 2+d.shape 3
    ·have hne2:((
      (d.groups.2 k).1:Int) != d.shape 2+d.shape 3)=false:=by simpa using hlen2
     have HL2:=hid hlen2;clear hlen2;go_wp2;refine WQ.region (by kernel_rfl) (by kernel_rfl) ?_
     repeat (first | (apply WQ.skip;(case hw=>rfl);intro K hK;go_simp;apply hK;clear hK K) | (apply WQ.want;(case hw=>rfl);intro K hK;go_simp;first | (apply hK;clear hK K) | (apply Exists.intro;apply And.intro;(case left=>intro p;(first | (go_at_call 89;exact cD _ _)));apply hK;clear hK K)))
     refine WQ.nil ?_;intro w3 hw3;have HT3:=hid (HT2.out.call (zaN hw3));have HB3:=hid (zaN hw3);have HC0:=hid c0;clear hw3 cD c0 kc0 x2_9 kx2_9 y2_0 ky2_0 y2_1 ky2_1 y2_2 ky2_2 y2_3 ky2_3 y2_4 ky2_4 y2_5 ky2_5 y2_6 ky2_6 y2_7 ky2_7 y2_8 ky2_8;go_wp2
     go_loopw [5] (fun i wx=>∃ q:Nat,q≤(d.groups.2 k).1∧i=.int .i64 q∧(∀ i,i<q→zef d.shape ((d.groups.2 k).2 i).blocks)∧Two w wx (rwW d (some ⟨b1,off1,none⟩) cap1 ao2 cap2 ao3 cap3).toArray (rwS d.shape).toArray 38 34∧Below wo.heap.size wo wx) (fun i _=>(d.groups.2 k).1-(intOf i).toNat)
     case atStart=>exact ⟨0,Nat.zero_le _,rfl,fun i hi=>by omega,HT3.out,HB3.out⟩
     case round=>
      clear HT3 HB3;obtain ⟨q,hq,rfl,hal2,T4,hb4⟩:=hrel;obtain ⟨wx,rfl⟩:∃ x,x=wr:=⟨_,rfl⟩;have HAL2:=hid hal2;have HT4:=hid T4;have HB4:=hid hb4;clear hal2;have x4_9:wx.cell? ⟨w.heap.size,9,none⟩=some (.slice (some ⟨b1,off1,none⟩) d.groups.1 cap1):=T4.b1.cell 9;have y4_4:wx.cell? ⟨w.heap.size+1,4,none⟩=some (.int .i64 (d.shape 4)):=T4.b2.cell 4;have c4:wx.cell? ⟨b1,off1+k,none⟩=some (.slice ao9 (d.groups.2 k).1 cap9):=(hb4.cell (p:=⟨b1,off1+k,none⟩) (by show b1<wo.heap.size;omega)).trans HC0.out
      by_cases hlq:q<(d.groups.2 k).1
      ·obtain ⟨b9,off9,he9,hb9,hel9⟩:=HC9.out (by omega)
       subst he9;obtain ⟨cq,hrq,hcq⟩:=zaz (t:=0) hel9 hb4 (by omega) hb9 hlq;obtain ⟨ao5,cap5,rfl,g5⟩:=zbS hrq;have c5:wx.cell? ⟨b9,off9+q*2+1,none⟩=some (.slice ao5 ((d.groups.2 k).2 q).blocks.1 cap5):=hcq 1 (by decide);obtain ⟨_,_,e5,hm5,hc5⟩:=g5
       cases e5
       have HC5:=hid hc5;unfold maxLen at hm5;obtain ⟨p,hp⟩:∃ p,p=((d.groups.2 k).2 q).blocks:=⟨_,rfl⟩;rw [← hp] at c5 hm5 HC5;have HP:=hid hp;clear hel9 hcq hc5 hrq T4 hb4 hp
       by_cases hl3:(p.1:Int)=d.shape 4
       ·have hne3:((p.1:Int) != d.shape 4)=false:=by simpa using hl3
        have HL3:=hid hl3;clear hl3;go_wp2
        go_loop [7] (fun i=>∃ z:Nat,z≤p.1∧i=.int .i64 z∧∀ i,i<z→zc7 (p.2 i)) (fun i=>p.1-(intOf i).toNat)
        case atStart=>exact ⟨0,Nat.zero_le _,rfl,fun i hi=>by omega⟩
        case round=>
         obtain ⟨z,hz,rfl,hal3⟩:=hrel;have HAL3:=hid hal3;clear hal3
         by_cases hlz:z<p.1
         ·obtain ⟨b5,off5,he5,hb5,hel5⟩:=HC5.out (by omega)
          subst he5;obtain ⟨cz,hrz,hcz⟩:=hel5 z hlz;obtain ⟨ao0,cap0,rfl,-⟩:=zbR hrz;have s0:wx.cell? ⟨b5,off5+z*2,none⟩=some (.int .i64 (p.2 z).stamp):=hcz 0 (by decide);have s1:wx.cell? ⟨b5,off5+z*2+1,none⟩=some (.slice ao0 (p.2 z).bytes.1 cap0):=hcz 1 (by decide);obtain ⟨t1,h1⟩:=exB (InP (p.2 z).stamp 0 1000000000);have C1:=fun w'=>zcf (w:=w') h1;obtain ⟨b2',h2⟩:∃ b,(((p.2 z).bytes.1:Int) != 4)=b:=⟨_,rfl⟩
          have HE:Hid (zc7 (p.2 z)↔(t1=true∧b2'=false)):=by
           show zc7 (p.2 z)↔_
           rw [h1,← h2];unfold zc7
           simp
           intro _;omega
          clear hel5 hcz hrz h1
          go_wp2_with fail
          refine (C1 _).mono ?_;rintro e w' ⟨rfl,hw'⟩;obtain rfl:=hw'.symm;clear C1
          cases t1 with
          | false=>
           go_wp2;go_ret
           exact zaj rfl (fun h=>by
            have hb:=((h.2 k hlt).2 q hlq).2 z (by rw [← HP.out];exact hlz);rw [← HP.out] at hb;have:=HE.out.1 hb
            simp at this) HT4.out.bel
          | true=>
           cases b2' with
           | true=>
            go_wp2;go_ret
            exact zaj rfl (fun h=>by
             have hb:=((h.2 k hlt).2 q hlq).2 z (by rw [← HP.out];exact hlz);rw [← HP.out] at hb;have:=HE.out.1 hb
             simp at this) HT4.out.bel
           | false=>
            go_wp2
            go_round
            case rel=>exact ⟨z+1,by omega,by go_num,fun i hi=>by
             by_cases c:i=z
             ·subst c;exact HE.out.2 (by simp)
             ·exact HAL3.out i (by omega)⟩
            case measure=>simp [intOf];omega
         ·obtain rfl:z=p.1:=by omega
          go_wp2
          go_roundw
          case rel=>exact ⟨q+1,by omega,by go_num,fun i hi=>by
           by_cases c:i=q
           ·subst c
            rw [← HP.out];exact ⟨HL3.out,HAL3.out⟩
           ·exact HAL2.out i (by omega),HT4.out,HB4.out⟩
          case measure=>simp [intOf];omega
       ·have hne3:((p.1:Int) != d.shape 4)=true:=by simpa using hl3
        have HN3:=hid hl3;clear hl3;go_wp2;go_ret;exact zaj rfl (fun h=>HN3.out (by rw [HP.out];exact ((h.2 k hlt).2 q hlq).1)) HT4.out.bel
      ·obtain rfl:q=(d.groups.2 k).1:=by omega
       clear T4 hb4;go_wp2
       go_roundw
       case rel=>exact ⟨k+1,by omega,by go_num,fun i hi=>by
        by_cases c:i=k
        ·subst c
         exact ⟨HL2.out,HAL2.out⟩
        ·exact HAL.out i (by omega),HT4.out⟩
       case measure=>simp [intOf];omega
    ·have hne2:(((d.groups.2 k).1:Int) != d.shape 2+d.shape 3)=true:=by simpa using hlen2
     have HN2:=hid hlen2;clear hlen2;go_wp2;refine WQ.region (by kernel_rfl) (by kernel_rfl) ?_
     repeat (first | (apply WQ.skip;(case hw=>rfl);intro K hK;go_simp;apply hK;clear hK K) | (apply WQ.want;(case hw=>rfl);intro K hK;go_simp;first | (apply hK;clear hK K) | (apply Exists.intro;apply And.intro;(case left=>intro p;(first | (go_at_call 89;exact cD _ _)));apply hK;clear hK K)))
     refine WQ.nil ?_;intro w3 hw3;have HB3:Hid (Below w.heap.size w w3):=(HT2.out.call (zaN hw3)).bel;clear hw3 cD c0 kc0;go_wp2;go_ret;exact zaj rfl (fun h=>HN2.out (h.2 k hlt).1) HB3.out
   ·obtain rfl:k=d.groups.1:=by omega
    go_wp2;go_ret;exact zaA rfl ⟨HLEN.out,HAL.out⟩ HT2.out.bel
 ·have hne:((d.groups.1:Int) != d.shape 0+d.shape 1)=true:=by simpa using hlen
  have HN:=hid hlen;clear hlen;refine WQ.region (by kernel_rfl) (by kernel_rfl) ?_
  repeat (first | (apply WQ.skip;(case hw=>rfl);intro K hK;go_simp;apply hK;clear hK K) | (apply WQ.want;(case hw=>rfl);intro K hK;go_simp;first | (apply hK;clear hK K) | (apply Exists.intro;apply And.intro;(case left=>intro p;(first | (go_at_call 54;exact cA _ _)));apply hK;clear hK K)))
  refine WQ.nil ?_;intro w1 hw1;have HB1:Hid (Below w.heap.size w w1):=(HT.out.call (zaN hw1)).bel;clear hw1;go_wp2;go_ret;exact zaj rfl (fun h=>HN.out h.1) HB1.out
set_option maxRecDepth 20000 in
theorem zgT (d:WorldD) (cs:List Value) (hi:Nat) (w:World) (h:zam.rd w hi d cs) (hhi:hi≤w.heap.size) (hnm:∀ t,t<d.tapes.1→∀ i,i<(d.tapes.2 t).recs.1→((d.tapes.2 t).recs.2 i).name.size≤1048576) (hok':zaq d.shape) (hsel:¬ (zcE d∧zbW d.on.1 d.on.2 (d.shape 0+d.shape 1-1))) :
 Calls Tryz.prog 23 #[.agg cs.toArray] w (zcP d w):=by
 obtain ⟨ao1,cap1,ao2,cap2,ao3,cap3,rfl,g1,g2,g3,-⟩:=za3 h;have HRD:=hid h;obtain ⟨v2,e2,⟨h2,hcp2⟩,_⟩:=g2
 cases e2
 have H2:=hid h2;have HCP:=hid hcp2;have hm2:=h2.mx;obtain ⟨_,_,e3,hm3,hc3⟩:=g3
 cases e3
 unfold maxLen at hm2 hm3;have HC3:=hid hc3;have HNM:=hid hnm;clear h h2 hcp2 hc3 g1 hnm;have T0:=zaK w (rwW d ao1 cap1 ao2 cap2 ao3 cap3).toArray 38;have CSh:=fun w'=>zbu d.shape w';unfold zag at CSh
 go_enter Tryz.func23,Tryz.ntmps23
 go_wp2_with fail
 refine (CSh _).mono ?_;rintro e w1 ⟨x,rfl,hx,b1⟩;have T1:One w w1 (rwW d ao1 cap1 ao2 cap2 ao3 cap3).toArray 38:=T0.call b1;have HT1:=hid T1;clear b1 T0 CSh;have x1_0:w1.cell? ⟨w.heap.size,0,none⟩=some (.int .i64 (d.shape 0)):=T1.b1.cell 0;have kx1_0:=cell_regrown x1_0;have x1_1:w1.cell? ⟨w.heap.size,1,none⟩=some (.int .i64 (d.shape 1)):=T1.b1.cell 1;have kx1_1:=cell_regrown x1_1;have x1_2:w1.cell? ⟨w.heap.size,2,none⟩=some (.int .i64 (d.shape 2)):=T1.b1.cell 2;have kx1_2:=cell_regrown x1_2;have x1_3:w1.cell? ⟨w.heap.size,3,none⟩=some (.int .i64 (d.shape 3)):=T1.b1.cell 3;have kx1_3:=cell_regrown x1_3;have x1_4:w1.cell? ⟨w.heap.size,4,none⟩=some (.int .i64 (d.shape 4)):=T1.b1.cell 4;have kx1_4:=cell_regrown x1_4;have x1_5:w1.cell? ⟨w.heap.size,5,none⟩=some (.int .i64 (d.shape 5)):=T1.b1.cell 5;have kx1_5:=cell_regrown x1_5;have x1_6:w1.cell? ⟨w.heap.size,6,none⟩=some (.int .i64 (d.shape 6)):=T1.b1.cell 6;have kx1_6:=cell_regrown x1_6;have x1_7:w1.cell? ⟨w.heap.size,7,none⟩=some (.int .i64 (d.shape 7)):=T1.b1.cell 7;have kx1_7:=cell_regrown x1_7;have x1_8:w1.cell? ⟨w.heap.size,8,none⟩=some (.int .i64 (d.shape 8)):=T1.b1.cell 8;have kx1_8:=cell_regrown x1_8;have x1_9:w1.cell? ⟨w.heap.size,9,none⟩=some (.slice ao1 d.groups.1 cap1):=T1.b1.cell 9;have kx1_9:=cell_regrown x1_9;have x1_10:w1.cell? ⟨w.heap.size,10,none⟩=some (.slice ao2 d.on.1 cap2):=T1.b1.cell 10;have kx1_10:=cell_regrown x1_10;have x1_11:w1.cell? ⟨w.heap.size,11,none⟩=some (.slice ao3 d.tapes.1 cap3):=T1.b1.cell 11;have kx1_11:=cell_regrown x1_11;have x1_12:w1.cell? ⟨w.heap.size,12,none⟩=some (.int .i64 d.writes):=T1.b1.cell 12;have kx1_12:=cell_regrown x1_12;have x1_13:w1.cell? ⟨w.heap.size,13,none⟩=some (.int .i64 d.stop):=T1.b1.cell 13;have kx1_13:=cell_regrown x1_13;have x1_14:w1.cell? ⟨w.heap.size,14,none⟩=some (.bool d.down):=T1.b1.cell 14;have kx1_14:=cell_regrown x1_14;clear T1
 rcases hx with ⟨rfl,hno⟩ | ⟨rfl,hok⟩
 ·go_wp2
  go_ret;exact wldP rfl (Stair.fall hno) HT1.out.bel
 have HOK:=hid hok
 have hsb:1≤d.shape 0∧d.shape 0≤4∧0≤d.shape 1∧d.shape 1≤2:=by
  obtain ⟨h1,_⟩:=hok;unfold Shp3 at h1;omega
 clear hok;obtain ⟨t1,h1⟩:=exB (zcE d);obtain ⟨t2,h2⟩:=exB (zbW d.on.1 d.on.2 (d.shape 0+d.shape 1-1));obtain ⟨b3',h3⟩:∃ b,decide (d.shape 5<(d.on.1:Int))=b:=⟨_,rfl⟩;obtain ⟨g',h4⟩:∃ b,decide (0<d.on.1)=b:=⟨_,rfl⟩;obtain ⟨b5',h5⟩:∃ b,((d.tapes.1:Int) != 2)=b:=⟨_,rfl⟩;have c1:=zaC (W:=w1) (fun w' hw'=>zbv (zcw d HOK.out _ hi w' (zam.rd_below (zam.rd_below HRD.out HT1.out.bel hhi) hw' (Nat.le_trans hhi HT1.out.bel.size)) (Nat.le_trans hhi (Nat.le_trans HT1.out.bel.size hw'.size))) h1);have c2:=zaC (W:=w1) (fun w' hw'=>zbv (zcc _ d.on.1 d.on.2 hi (d.shape 0+d.shape 1-1) w' ((H2.out.below HT1.out.bel hhi).below hw' (Nat.le_trans hhi HT1.out.bel.size)) HCP.out (Nat.le_trans hhi (Nat.le_trans HT1.out.bel.size hw'.size))) h2);have cA:=zaC (W:=w1) (fun w' _=>zbX d.shape HOK.out w');unfold zag at cA
 have wsA:IntKind.i64.wrap (d.shape 0+d.shape 1-1)=d.shape 0+d.shape 1-1:=by rw [IntKind.wrap_i64];omega
 have h4':decide (0<(d.on.1:Int))=g':=by rw [← h4];simp
 obtain ⟨dn,hdn⟩:∃ x,x=d.down:=⟨_,rfl⟩
 have HE:Hid (zct d↔(t1=true∧t2=true∧b3'=false∧(dn=true→g'=false)∧b5'=false)):=by
  show zct d↔_
  have e3:(decide (d.shape 5<(d.on.1:Int))=false)↔(d.on.1:Int)≤d.shape 5:=by simp
  have e4:(decide (0<d.on.1)=false)↔d.on.1=0:=by simp
  have e5:(((d.tapes.1:Int) != 2)=false)↔d.tapes.1=2:=by simp;omega
  rw [h1,h2,← h3,← h4,← h5,hdn,e3,e4,e5];unfold zct OnP
  constructor
  ·rintro ⟨a,⟨b,c,e⟩,f⟩
   exact ⟨a,b,c,e,f⟩
  ·rintro ⟨a,b,c,e,f⟩
   exact ⟨a,⟨b,c,e⟩,f⟩
 have hst:t1=false∨(t1=true∧t2=false):=by
  clear HE c1 c2
  cases t1 with
  | false=>exact .inl rfl
  | true=>
   cases t2 with
   | false=>exact .inr ⟨rfl,rfl⟩
   | true=>exact absurd ⟨h1.1 rfl,h2.1 rfl⟩ hsel
 have HNF:Hid (¬ zct d):=fun h=>by
  obtain ⟨a,⟨b,c,e⟩,f⟩:=h;exact hsel ⟨a,b⟩
 rw [← hdn] at x1_14 kx1_14 c1;clear h1 h2 hsel hok'
 go_upto_region 4 with fail
 clear hdn
 rcases hst with rfl | ⟨rfl,rfl⟩
 all_goals
  refine WQ.region (by kernel_rfl) (by kernel_rfl) ?_
  repeat (first | (apply WQ.free;(case hw=>rfl);intro K hK;go_simp;first | (apply hK;clear hK K) | (apply Exists.intro;apply And.intro;(case left=>intro p;(first | (go_at_call 52;exact c1 _ _) | (go_at_call 53;exact c2 _ _) | (go_at_call 54;exact cA _ _)));apply hK;clear hK K)) | (apply WQ.skip;(case hw=>rfl);intro K hK;go_simp;apply hK;clear hK K) | (apply WQ.want;(case hw=>rfl);intro K hK;go_simp;first | (apply hK;clear hK K) | (apply Exists.intro;apply And.intro;(case left=>intro p;(first | (go_at_call 52;exact c1 _ _) | (go_at_call 53;exact c2 _ _) | (go_at_call 54;exact cA _ _)));apply hK;clear hK K)))
  refine WQ.nil ?_;intro w2 hw2;have HB2:Hid (Below w.heap.size w w2):=(HT1.out.call (zaN hw2)).bel;clear hw2;go_wp2;go_ret;exact wldP rfl (Stair.pass HOK.out (Stair.fall HNF.out)) HB2.out
set_option maxRecDepth 20000 in
theorem zgU (d:WorldD) (cs:List Value) (hi:Nat) (w:World) (h:zam.rd w hi d cs) (hhi:hi≤w.heap.size) (hnm:∀ t,t<d.tapes.1→∀ i,i<(d.tapes.2 t).recs.1→((d.tapes.2 t).recs.2 i).name.size≤1048576) (hok':zaq d.shape) (hsel:zcE d∧zbW d.on.1 d.on.2 (d.shape 0+d.shape 1-1)∧¬ ((d.on.1:Int)≤d.shape 5∧(d.down=true→d.on.1=0))) :
 Calls Tryz.prog 23 #[.agg cs.toArray] w (zcP d w):=by
 obtain ⟨ao1,cap1,ao2,cap2,ao3,cap3,rfl,g1,g2,g3,-⟩:=za3 h;have HRD:=hid h;obtain ⟨v2,e2,⟨h2,hcp2⟩,_⟩:=g2
 cases e2
 have H2:=hid h2;have HCP:=hid hcp2;have hm2:=h2.mx;obtain ⟨_,_,e3,hm3,hc3⟩:=g3
 cases e3
 unfold maxLen at hm2 hm3;have HC3:=hid hc3;have HNM:=hid hnm;clear h h2 hcp2 hc3 g1 hnm;have T0:=zaK w (rwW d ao1 cap1 ao2 cap2 ao3 cap3).toArray 38;have CSh:=fun w'=>zbu d.shape w';unfold zag at CSh
 go_enter Tryz.func23,Tryz.ntmps23
 go_wp2_with fail
 refine (CSh _).mono ?_;rintro e w1 ⟨x,rfl,hx,b1⟩;have T1:One w w1 (rwW d ao1 cap1 ao2 cap2 ao3 cap3).toArray 38:=T0.call b1;have HT1:=hid T1;clear b1 T0 CSh;have x1_0:w1.cell? ⟨w.heap.size,0,none⟩=some (.int .i64 (d.shape 0)):=T1.b1.cell 0;have kx1_0:=cell_regrown x1_0;have x1_1:w1.cell? ⟨w.heap.size,1,none⟩=some (.int .i64 (d.shape 1)):=T1.b1.cell 1;have kx1_1:=cell_regrown x1_1;have x1_2:w1.cell? ⟨w.heap.size,2,none⟩=some (.int .i64 (d.shape 2)):=T1.b1.cell 2;have kx1_2:=cell_regrown x1_2;have x1_3:w1.cell? ⟨w.heap.size,3,none⟩=some (.int .i64 (d.shape 3)):=T1.b1.cell 3;have kx1_3:=cell_regrown x1_3;have x1_4:w1.cell? ⟨w.heap.size,4,none⟩=some (.int .i64 (d.shape 4)):=T1.b1.cell 4;have kx1_4:=cell_regrown x1_4;have x1_5:w1.cell? ⟨w.heap.size,5,none⟩=some (.int .i64 (d.shape 5)):=T1.b1.cell 5;have kx1_5:=cell_regrown x1_5;have x1_6:w1.cell? ⟨w.heap.size,6,none⟩=some (.int .i64 (d.shape 6)):=T1.b1.cell 6;have kx1_6:=cell_regrown x1_6;have x1_7:w1.cell? ⟨w.heap.size,7,none⟩=some (.int .i64 (d.shape 7)):=T1.b1.cell 7;have kx1_7:=cell_regrown x1_7;have x1_8:w1.cell? ⟨w.heap.size,8,none⟩=some (.int .i64 (d.shape 8)):=T1.b1.cell 8;have kx1_8:=cell_regrown x1_8;have x1_9:w1.cell? ⟨w.heap.size,9,none⟩=some (.slice ao1 d.groups.1 cap1):=T1.b1.cell 9;have kx1_9:=cell_regrown x1_9;have x1_10:w1.cell? ⟨w.heap.size,10,none⟩=some (.slice ao2 d.on.1 cap2):=T1.b1.cell 10;have kx1_10:=cell_regrown x1_10;have x1_11:w1.cell? ⟨w.heap.size,11,none⟩=some (.slice ao3 d.tapes.1 cap3):=T1.b1.cell 11;have kx1_11:=cell_regrown x1_11;have x1_12:w1.cell? ⟨w.heap.size,12,none⟩=some (.int .i64 d.writes):=T1.b1.cell 12;have kx1_12:=cell_regrown x1_12;have x1_13:w1.cell? ⟨w.heap.size,13,none⟩=some (.int .i64 d.stop):=T1.b1.cell 13;have kx1_13:=cell_regrown x1_13;have x1_14:w1.cell? ⟨w.heap.size,14,none⟩=some (.bool d.down):=T1.b1.cell 14;have kx1_14:=cell_regrown x1_14;clear T1
 rcases hx with ⟨rfl,hno⟩ | ⟨rfl,hok⟩
 ·go_wp2
  go_ret;exact wldP rfl (Stair.fall hno) HT1.out.bel
 have HOK:=hid hok
 have hsb:1≤d.shape 0∧d.shape 0≤4∧0≤d.shape 1∧d.shape 1≤2:=by
  obtain ⟨h1,_⟩:=hok;unfold Shp3 at h1;omega
 clear hok;obtain ⟨t1,h1⟩:=exB (zcE d);obtain ⟨t2,h2⟩:=exB (zbW d.on.1 d.on.2 (d.shape 0+d.shape 1-1));obtain ⟨b3',h3⟩:∃ b,decide (d.shape 5<(d.on.1:Int))=b:=⟨_,rfl⟩;obtain ⟨g',h4⟩:∃ b,decide (0<d.on.1)=b:=⟨_,rfl⟩;obtain ⟨b5',h5⟩:∃ b,((d.tapes.1:Int) != 2)=b:=⟨_,rfl⟩;have c1:=zaC (W:=w1) (fun w' hw'=>zbv (zcw d HOK.out _ hi w' (zam.rd_below (zam.rd_below HRD.out HT1.out.bel hhi) hw' (Nat.le_trans hhi HT1.out.bel.size)) (Nat.le_trans hhi (Nat.le_trans HT1.out.bel.size hw'.size))) h1);have c2:=zaC (W:=w1) (fun w' hw'=>zbv (zcc _ d.on.1 d.on.2 hi (d.shape 0+d.shape 1-1) w' ((H2.out.below HT1.out.bel hhi).below hw' (Nat.le_trans hhi HT1.out.bel.size)) HCP.out (Nat.le_trans hhi (Nat.le_trans HT1.out.bel.size hw'.size))) h2);have cA:=zaC (W:=w1) (fun w' _=>zbX d.shape HOK.out w');unfold zag at cA
 have wsA:IntKind.i64.wrap (d.shape 0+d.shape 1-1)=d.shape 0+d.shape 1-1:=by rw [IntKind.wrap_i64];omega
 have h4':decide (0<(d.on.1:Int))=g':=by rw [← h4];simp
 obtain ⟨dn,hdn⟩:∃ x,x=d.down:=⟨_,rfl⟩
 have HE:Hid (zct d↔(t1=true∧t2=true∧b3'=false∧(dn=true→g'=false)∧b5'=false)):=by
  show zct d↔_
  have e3:(decide (d.shape 5<(d.on.1:Int))=false)↔(d.on.1:Int)≤d.shape 5:=by simp
  have e4:(decide (0<d.on.1)=false)↔d.on.1=0:=by simp
  have e5:(((d.tapes.1:Int) != 2)=false)↔d.tapes.1=2:=by simp;omega
  rw [h1,h2,← h3,← h4,← h5,hdn,e3,e4,e5];unfold zct OnP
  constructor
  ·rintro ⟨a,⟨b,c,e⟩,f⟩
   exact ⟨a,b,c,e,f⟩
  ·rintro ⟨a,b,c,e,f⟩
   exact ⟨a,⟨b,c,e⟩,f⟩
 have hst:(t1=true∧t2=true∧b3'=true)∨(t1=true∧t2=true∧b3'=false∧dn=true∧g'=true):=by
  clear HE c1 c2;have e1:=h1.2 hsel.1;have e2:=h2.2 hsel.2.1
  cases b3' with
  | true=>exact .inl ⟨e1,e2,rfl⟩
  | false=>
   have hc:(d.on.1:Int)≤d.shape 5:=by simpa using h3
   have hd:dn=true:=by
    cases dn with
    | true=>rfl
    | false=>exact absurd ⟨hc,fun h=>by rw [← hdn] at h;cases h⟩ hsel.2.2
   have hg:g'=true:=by
    cases g' with
    | true=>rfl
    | false=>exact absurd ⟨hc,fun _=>by simpa using h4⟩ hsel.2.2
   exact .inr ⟨e1,e2,rfl,hd,hg⟩
 have HNF:Hid (¬ zct d):=fun h=>by
  obtain ⟨a,⟨b,c,e⟩,f⟩:=h;exact hsel.2.2 ⟨c,e⟩
 rw [← hdn] at x1_14 kx1_14 c1;clear h1 h2 hsel hok'
 go_upto_region 4 with fail
 clear hdn
 rcases hst with ⟨rfl,rfl,rfl⟩ | ⟨rfl,rfl,rfl,rfl,rfl⟩
 all_goals
  refine WQ.region (by kernel_rfl) (by kernel_rfl) ?_
  repeat (first | (apply WQ.free;(case hw=>rfl);intro K hK;go_simp;first | (apply hK;clear hK K) | (apply Exists.intro;apply And.intro;(case left=>intro p;(first | (go_at_call 52;exact c1 _ _) | (go_at_call 53;exact c2 _ _) | (go_at_call 54;exact cA _ _)));apply hK;clear hK K)) | (apply WQ.skip;(case hw=>rfl);intro K hK;go_simp;apply hK;clear hK K) | (apply WQ.want;(case hw=>rfl);intro K hK;go_simp;first | (apply hK;clear hK K) | (apply Exists.intro;apply And.intro;(case left=>intro p;(first | (go_at_call 52;exact c1 _ _) | (go_at_call 53;exact c2 _ _) | (go_at_call 54;exact cA _ _)));apply hK;clear hK K)))
  refine WQ.nil ?_;intro w2 hw2;have HB2:Hid (Below w.heap.size w w2):=(HT1.out.call (zaN hw2)).bel;clear hw2;go_wp2;go_ret;exact wldP rfl (Stair.pass HOK.out (Stair.fall HNF.out)) HB2.out
set_option maxRecDepth 20000 in
theorem zgV (d:WorldD) (cs:List Value) (hi:Nat) (w:World) (h:zam.rd w hi d cs) (hhi:hi≤w.heap.size) (hnm:∀ t,t<d.tapes.1→∀ i,i<(d.tapes.2 t).recs.1→((d.tapes.2 t).recs.2 i).name.size≤1048576) (hok':zaq d.shape) (hsel:zcE d∧zbW d.on.1 d.on.2 (d.shape 0+d.shape 1-1)∧((d.on.1:Int)≤d.shape 5∧(d.down=true→d.on.1=0))∧d.tapes.1≠2) :
 Calls Tryz.prog 23 #[.agg cs.toArray] w (zcP d w):=by
 obtain ⟨ao1,cap1,ao2,cap2,ao3,cap3,rfl,g1,g2,g3,-⟩:=za3 h;have HRD:=hid h;obtain ⟨v2,e2,⟨h2,hcp2⟩,_⟩:=g2
 cases e2
 have H2:=hid h2;have HCP:=hid hcp2;have hm2:=h2.mx;obtain ⟨_,_,e3,hm3,hc3⟩:=g3
 cases e3
 unfold maxLen at hm2 hm3;have HC3:=hid hc3;have HNM:=hid hnm;clear h h2 hcp2 hc3 g1 hnm;have T0:=zaK w (rwW d ao1 cap1 ao2 cap2 ao3 cap3).toArray 38;have CSh:=fun w'=>zbu d.shape w';unfold zag at CSh
 go_enter Tryz.func23,Tryz.ntmps23
 go_wp2_with fail
 refine (CSh _).mono ?_;rintro e w1 ⟨x,rfl,hx,b1⟩;have T1:One w w1 (rwW d ao1 cap1 ao2 cap2 ao3 cap3).toArray 38:=T0.call b1;have HT1:=hid T1;clear b1 T0 CSh;have x1_0:w1.cell? ⟨w.heap.size,0,none⟩=some (.int .i64 (d.shape 0)):=T1.b1.cell 0;have kx1_0:=cell_regrown x1_0;have x1_1:w1.cell? ⟨w.heap.size,1,none⟩=some (.int .i64 (d.shape 1)):=T1.b1.cell 1;have kx1_1:=cell_regrown x1_1;have x1_2:w1.cell? ⟨w.heap.size,2,none⟩=some (.int .i64 (d.shape 2)):=T1.b1.cell 2;have kx1_2:=cell_regrown x1_2;have x1_3:w1.cell? ⟨w.heap.size,3,none⟩=some (.int .i64 (d.shape 3)):=T1.b1.cell 3;have kx1_3:=cell_regrown x1_3;have x1_4:w1.cell? ⟨w.heap.size,4,none⟩=some (.int .i64 (d.shape 4)):=T1.b1.cell 4;have kx1_4:=cell_regrown x1_4;have x1_5:w1.cell? ⟨w.heap.size,5,none⟩=some (.int .i64 (d.shape 5)):=T1.b1.cell 5;have kx1_5:=cell_regrown x1_5;have x1_6:w1.cell? ⟨w.heap.size,6,none⟩=some (.int .i64 (d.shape 6)):=T1.b1.cell 6;have kx1_6:=cell_regrown x1_6;have x1_7:w1.cell? ⟨w.heap.size,7,none⟩=some (.int .i64 (d.shape 7)):=T1.b1.cell 7;have kx1_7:=cell_regrown x1_7;have x1_8:w1.cell? ⟨w.heap.size,8,none⟩=some (.int .i64 (d.shape 8)):=T1.b1.cell 8;have kx1_8:=cell_regrown x1_8;have x1_9:w1.cell? ⟨w.heap.size,9,none⟩=some (.slice ao1 d.groups.1 cap1):=T1.b1.cell 9;have kx1_9:=cell_regrown x1_9;have x1_10:w1.cell? ⟨w.heap.size,10,none⟩=some (.slice ao2 d.on.1 cap2):=T1.b1.cell 10;have kx1_10:=cell_regrown x1_10;have x1_11:w1.cell? ⟨w.heap.size,11,none⟩=some (.slice ao3 d.tapes.1 cap3):=T1.b1.cell 11;have kx1_11:=cell_regrown x1_11;have x1_12:w1.cell? ⟨w.heap.size,12,none⟩=some (.int .i64 d.writes):=T1.b1.cell 12;have kx1_12:=cell_regrown x1_12;have x1_13:w1.cell? ⟨w.heap.size,13,none⟩=some (.int .i64 d.stop):=T1.b1.cell 13;have kx1_13:=cell_regrown x1_13;have x1_14:w1.cell? ⟨w.heap.size,14,none⟩=some (.bool d.down):=T1.b1.cell 14;have kx1_14:=cell_regrown x1_14;clear T1
 rcases hx with ⟨rfl,hno⟩ | ⟨rfl,hok⟩
 ·go_wp2
  go_ret;exact wldP rfl (Stair.fall hno) HT1.out.bel
 have HOK:=hid hok
 have hsb:1≤d.shape 0∧d.shape 0≤4∧0≤d.shape 1∧d.shape 1≤2:=by
  obtain ⟨h1,_⟩:=hok;unfold Shp3 at h1;omega
 clear hok;obtain ⟨t1,h1⟩:=exB (zcE d);obtain ⟨t2,h2⟩:=exB (zbW d.on.1 d.on.2 (d.shape 0+d.shape 1-1));obtain ⟨b3',h3⟩:∃ b,decide (d.shape 5<(d.on.1:Int))=b:=⟨_,rfl⟩;obtain ⟨g',h4⟩:∃ b,decide (0<d.on.1)=b:=⟨_,rfl⟩;obtain ⟨b5',h5⟩:∃ b,((d.tapes.1:Int) != 2)=b:=⟨_,rfl⟩;have c1:=zaC (W:=w1) (fun w' hw'=>zbv (zcw d HOK.out _ hi w' (zam.rd_below (zam.rd_below HRD.out HT1.out.bel hhi) hw' (Nat.le_trans hhi HT1.out.bel.size)) (Nat.le_trans hhi (Nat.le_trans HT1.out.bel.size hw'.size))) h1);have c2:=zaC (W:=w1) (fun w' hw'=>zbv (zcc _ d.on.1 d.on.2 hi (d.shape 0+d.shape 1-1) w' ((H2.out.below HT1.out.bel hhi).below hw' (Nat.le_trans hhi HT1.out.bel.size)) HCP.out (Nat.le_trans hhi (Nat.le_trans HT1.out.bel.size hw'.size))) h2);have cA:=zaC (W:=w1) (fun w' _=>zbX d.shape HOK.out w');unfold zag at cA
 have wsA:IntKind.i64.wrap (d.shape 0+d.shape 1-1)=d.shape 0+d.shape 1-1:=by rw [IntKind.wrap_i64];omega
 have h4':decide (0<(d.on.1:Int))=g':=by rw [← h4];simp
 obtain ⟨dn,hdn⟩:∃ x,x=d.down:=⟨_,rfl⟩
 have HE:Hid (zct d↔(t1=true∧t2=true∧b3'=false∧(dn=true→g'=false)∧b5'=false)):=by
  show zct d↔_
  have e3:(decide (d.shape 5<(d.on.1:Int))=false)↔(d.on.1:Int)≤d.shape 5:=by simp
  have e4:(decide (0<d.on.1)=false)↔d.on.1=0:=by simp
  have e5:(((d.tapes.1:Int) != 2)=false)↔d.tapes.1=2:=by simp;omega
  rw [h1,h2,← h3,← h4,← h5,hdn,e3,e4,e5];unfold zct OnP
  constructor
  ·rintro ⟨a,⟨b,c,e⟩,f⟩
   exact ⟨a,b,c,e,f⟩
  ·rintro ⟨a,b,c,e,f⟩
   exact ⟨a,⟨b,c,e⟩,f⟩
 have hst:(t1=true∧t2=true∧b3'=false∧dn=true∧g'=false∧b5'=true)∨(t1=true∧t2=true∧b3'=false∧dn=false∧b5'=true):=by
  clear HE c1 c2;have e1:=h1.2 hsel.1;have e2:=h2.2 hsel.2.1
  have e3:b3'=false:=by rw [← h3];simpa using hsel.2.2.1.1
  have e5:b5'=true:=by rw [← h5];have:=hsel.2.2.2;simp;omega
  cases dn with
  | false=>exact .inr ⟨e1,e2,e3,rfl,e5⟩
  | true=>exact .inl ⟨e1,e2,e3,rfl,by rw [← h4];have:=hsel.2.2.1.2 hdn.symm;simp;omega,e5⟩
 have HNF:Hid (¬ zct d):=fun h=>by
  obtain ⟨a,⟨b,c,e⟩,f⟩:=h;exact hsel.2.2.2 f
 rw [← hdn] at x1_14 kx1_14 c1;clear h1 h2 hsel hok'
 go_upto_region 4 with fail
 clear hdn
 rcases hst with ⟨rfl,rfl,rfl,rfl,rfl,rfl⟩ | ⟨rfl,rfl,rfl,rfl,rfl⟩
 all_goals
  refine WQ.region (by kernel_rfl) (by kernel_rfl) ?_
  repeat (first | (apply WQ.free;(case hw=>rfl);intro K hK;go_simp;first | (apply hK;clear hK K) | (apply Exists.intro;apply And.intro;(case left=>intro p;(first | (go_at_call 52;exact c1 _ _) | (go_at_call 53;exact c2 _ _) | (go_at_call 54;exact cA _ _)));apply hK;clear hK K)) | (apply WQ.skip;(case hw=>rfl);intro K hK;go_simp;apply hK;clear hK K) | (apply WQ.want;(case hw=>rfl);intro K hK;go_simp;first | (apply hK;clear hK K) | (apply Exists.intro;apply And.intro;(case left=>intro p;(first | (go_at_call 52;exact c1 _ _) | (go_at_call 53;exact c2 _ _) | (go_at_call 54;exact cA _ _)));apply hK;clear hK K)))
  refine WQ.nil ?_;intro w2 hw2;have HB2:Hid (Below w.heap.size w w2):=(HT1.out.call (zaN hw2)).bel;clear hw2;go_wp2;go_ret;exact wldP rfl (Stair.pass HOK.out (Stair.fall HNF.out)) HB2.out
end Go.Proofs.YthcmdnlkohdeaaaGreat
