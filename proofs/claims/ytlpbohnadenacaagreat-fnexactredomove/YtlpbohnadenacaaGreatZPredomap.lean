/- l7Redo of the specification. -/
import Derived.Test.YtlpbohnadenacaaGreatZPredomao
set_option linter.unusedVariables false
set_option linter.unusedSimpArgs false
set_option maxHeartbeats 16000000
namespace Go.Proofs.YtlpbohnadenacaaGreat
open Go.RowKit F256
set_option maxRecDepth 100000 in
theorem ziz (s:Nat→Int) (n G:Nat) (mv:RecD) (hM:MvOk s n G mv) (h7:mv.data.1=4*(s 2).toNat) (h8:mv.delta.1=4*(s 2).toNat) (ao6 ao7 ao8:Option Addr) (cap6 cap7 cap8 hi:Nat) (hc7:mv.data.1≤cap7) (hc8:mv.delta.1≤cap8) (B:Nat) (d:WorldD) (K:List Nat) (w:World) (hX:SpB w B d K) (hf:FitR s n G mv d) (hw:d.writes+(n:Int)≤9223372036854775807) (hdn:d.down=false) (hr:zae.rd w hi mv [.int .i64 mv.kind,.int .i64 mv.seq,.string mv.name,.int .i64 mv.length,.int .i64 mv.group,.int .i64 mv.row,.slice ao6 mv.rows.1 cap6,.slice ao7 mv.data.1 cap7,.slice ao8 mv.delta.1 cap8]) (hiB:hi≤B) (hiK:∀ b,b∈K→hi≤b) (hhi:hi≤w.heap.size) (hsq:-9223372036854775808≤mv.seq∧mv.seq≤9223372036854775807) (hd8:∀ i,mv.data.2 i<256) (hl8:∀ i,mv.delta.2 i<256) (hG:(G:Int)<s 0) :
 Calls Tryz.prog 24 #[.pointer (some ⟨B,0,none⟩),.int .i64 (G:Int),.agg #[.int .i64 mv.kind,.int .i64 mv.seq,.string mv.name,.int .i64 mv.length,.int .i64 mv.group,.int .i64 mv.row,.slice ao6 mv.rows.1 cap6,.slice ao7 mv.data.1 cap7,.slice ao8 mv.delta.1 cap8]] w (SpP (zcj s G n mv d) B w K):=by
 have hsb:=okB hM.ok;have hnum:=hM.num;obtain ⟨D,hD⟩:∃ D:Nat,s 2=(D:Int):=⟨(s 2).toNat,by omega⟩;obtain ⟨S,hS⟩:∃ S:Nat,s 3=(S:Int):=⟨(s 3).toNat,by omega⟩;have HD:=hid hD;have HS3:=hid hS
 have eD:(s 2).toNat=D:=by omega
 have hnDS:n=D+S:=by omega
 have hDb:1≤D∧D≤3∧S≤2:=by omega
 rw [eD] at h7 h8;have HM:=hid hM;have HX:=hid hX;have HF:=hid hf;have HW:=hid hw;have HDN:=hid hdn;have HR:=hid hr;have HIK:Hid (hi≤B∧∀ b,b∈K→hi≤b):=⟨hiB,hiK⟩;have HSQ:=hid hsq;have HB8:Hid ((∀ i,mv.data.2 i<256)∧∀ i,mv.delta.2 i<256):=⟨hd8,hl8⟩;have H78:Hid (mv.data.1=4*D∧mv.delta.1=4*D):=⟨h7,h8⟩;have HCP:Hid (4*D≤cap7∧4*D≤cap8):=⟨by omega,by omega⟩;have HED:=hid eD;have hBl:=hX.lt;have HKl:=hid hX.Klt;obtain ⟨x6,y6,x7,y7,x8,y8,e9,r6,r7,r8,-⟩:=za5 hr
 have e7:(Value.slice ao7 mv.data.1 cap7)=.slice x7 mv.data.1 y7:=by
  have:=congrArg (fun l=>l[7]?) e9
  simpa using this
 have e8:(Value.slice ao8 mv.delta.1 cap8)=.slice x8 mv.delta.1 y8:=by
  have:=congrArg (fun l=>l[8]?) e9
  simpa using this
 rw [← e7] at r7;rw [← e8] at r8
 have HR7:Hid (Rd w hi (.slice ao7 (4*D) cap7) (4*D) mv.data.2):=by have:=(zdF r7).1;rw [h7] at this;exact this
 have HR8:Hid (Rd w hi (.slice ao8 (4*D) cap8) (4*D) mv.delta.2):=by have:=(zdF r8).1;rw [h8] at this;exact this
 have T0:=zaC w #[.int .i64 mv.kind,.int .i64 mv.seq,.string mv.name,.int .i64 mv.length,.int .i64 mv.group,.int .i64 mv.row,.slice ao6 mv.rows.1 cap6,.slice ao7 mv.data.1 cap7,.slice ao8 mv.delta.1 cap8] #[.int .i64 (s 0),.int .i64 (s 1),.int .i64 (s 2),.int .i64 (s 3),.int .i64 (s 4),.int .i64 (s 5),.int .i64 (s 6),.int .i64 (s 7),.int .i64 (s 8)] 43 34
 have xs:∀ j,j<9→w.cell? ⟨B,j,none⟩=some (.int .i64 (s j)):=fun j hj=>by
  obtain ⟨cs,hBx,hO⟩:=hX;obtain ⟨p1,cc1,p2,cc2,p3,cc3,K1',K2',K3',hcs,-⟩:=hO.open;rw [hBx.cell j,List.getElem?_toArray,hcs,← hf.shape]
  match j,hj with
  | 0,_=>rfl
  | 1,_=>rfl
  | 2,_=>rfl
  | 3,_=>rfl
  | 4,_=>rfl
  | 5,_=>rfl
  | 6,_=>rfl
  | 7,_=>rfl
  | 8,_=>rfl
 have x_0:=xs 0 (by decide);have x_1:=xs 1 (by decide);have x_2:=xs 2 (by decide);have x_3:=xs 3 (by decide);have x_4:=xs 4 (by decide);have x_5:=xs 5 (by decide);have x_6:=xs 6 (by decide);have x_7:=xs 7 (by decide);have x_8:=xs 8 (by decide);clear xs hM hX hf hw hdn hr hiB hiK hsq hd8 hl8 hD hS h7 h8 hc7 hc8 e9 r6 r7 r8 e7 e8 eD hsb hnum
 go_enter Tryz.func24,Tryz.ntmps24
 go_upto_region 2 with fail
 obtain ⟨W1,hW1⟩:∃ x,x=(w.alloc (.cells #[.int .i64 mv.kind,.int .i64 mv.seq,.string mv.name,.int .i64 mv.length,.int .i64 mv.group,.int .i64 mv.row,.slice ao6 mv.rows.1 cap6,.slice ao7 mv.data.1 cap7,.slice ao8 mv.delta.1 cap8] 43)).alloc (.cells #[.int .i64 (s 0),.int .i64 (s 1),.int .i64 (s 2),.int .i64 (s 3),.int .i64 (s 4),.int .i64 (s 5),.int .i64 (s 6),.int .i64 (s 7),.int .i64 (s 8)] 34):=⟨_,rfl⟩;rw [← hW1] at T0 ⊢;clear hW1 x_0 x_1 x_2 x_3 x_4 x_5 x_6 x_7 x_8;have HT0:=hid T0
 have d2:W1.cell? ⟨w.heap.size+1,2,none⟩=some (.int .i64 (D:Int)):=by rw [← HD.out];exact T0.b2.cell 2
 have d3:W1.cell? ⟨w.heap.size+1,3,none⟩=some (.int .i64 (S:Int)):=by rw [← HS3.out];exact T0.b2.cell 3
 have c7:W1.cell? ⟨w.heap.size,7,none⟩=some (.slice ao7 (4*D) cap7):=by have:=T0.b1.cell 7;rw [H78.out.1] at this;exact this
 have CE:=zdq D S hDb.1 hDb.2.1 hDb.2.2 (.slice ao7 (4*D) cap7) mv.data.2 hi W1 (HR7.out.below T0.bel hhi) (fun ao cap e=>by
  simp only [Value.slice.injEq] at e
  obtain ⟨-,-,rfl⟩:=e
  exact HCP.out.1) (Nat.le_trans hhi T0.bel.size) HB8.out.1
 clear T0
 go_wp2_with fail
 refine CE.mono ?_;rintro e W2 ⟨vb,rfl,⟨gv,pv,ee,OE⟩,b2⟩;have hvb:=OE.val;subst hvb;have HOE:=hid OE;have HT2:=hid (HT0.out.call b2);have u0:W2.cell? ⟨w.heap.size+1,0,none⟩=some (.int .i64 (s 0)):=HT2.out.b2.cell 0
 have g0:decide (s 0≤(G:Int))=false:=by simp;omega
 clear CE OE b2 d2 d3 c7;go_wp2
 have HKEEP:Hid (∀ x,(x=w.heap.size∨x=w.heap.size+1∨x=gv)→x<W2.heap.size∧x≠B∧x∉K∧∀ j,j<n→(ee j).ownBlock≠some x):=by
  intro x hx;have z0:w.heap.size+1<W1.heap.size:=HT0.out.b2.lt;have z1:=HOE.out.low;have z2:=HOE.out.high;have hlt:∀ j,j<n→∀ y,(ee j).ownBlock=some y→W1.heap.size≤y:=fun j hj y hy=>((HOE.out.each j (by omega)).1.lt y hy).1
  have hx2:w.heap.size≤x∧x<W2.heap.size:=by rcases hx with rfl | rfl | rfl<;>omega
  refine ⟨hx2.2,by omega,fun h=>by have:=HKl.out x h;omega,fun j hj h=>?_⟩
  rcases hx with rfl | rfl | rfl
  ·have:=hlt j hj _ h;omega
  ·have:=hlt j hj _ h;omega
  ·exact HOE.out.apart.1 j (by omega) h
 have hn5:n≤5:=by omega
 clear u0
 go_loopw [10] (fun i wr=>∃ (k m:Nat) (d1:WorldD) (K1:List Nat),k+m=n∧i=.int .i64 k∧SpB wr B d1 K1∧(∀ x,x∈K1→x∈K∨(∃ j,j<k∧(ee j).ownBlock=some x)∨W2.heap.size≤x)∧W2.heap.size≤wr.heap.size∧(∀ x,x<W2.heap.size→x≠B→x∉K→(∀ j,j<k→(ee j).ownBlock≠some x)→wr.heap[x]?=W2.heap[x]?)∧wr.os=W2.os∧wr.tape=W2.tape∧wr.output=W2.output∧FitR s n G mv d1∧d1.down=false∧d1.writes+(m:Int)≤9223372036854775807∧runO (zao s G mv) n 0 d=runO (zao s G mv) m k d1) (fun i _=>n-(intOf i).toNat)
 case atStart=>exact ⟨0,n,d,K,by omega,rfl,HX.out.below HT2.out.bel,fun x hx=>.inl hx,Nat.le_refl _,fun _ _ _ _ _=>rfl,rfl,rfl,rfl,HF.out,HDN.out,HW.out,rfl⟩
 case round=>
  obtain ⟨k,m,d1,K1,hkm,rfl,hS1,hK1,hz1,hk1,ho1,ho2,ho3,hf1,hdn1,hw1,ho⟩:=hrel;have HS1:=hid hS1;have HK1:=hid hK1;have HZ1:=hid hz1;have HH1:=hid hk1;have HOS:Hid (wr.os=W2.os∧wr.tape=W2.tape∧wr.output=W2.output):=⟨ho1,ho2,ho3⟩;have HF1:=hid hf1;have HDN1:=hid hdn1;have HW1:=hid hw1;have HOo:=hid ho
  have HKC:Hid (∀ x,(x=w.heap.size∨x=w.heap.size+1∨x=gv)→wr.heap[x]?=W2.heap[x]?):=fun x hx=>by
   obtain ⟨a,b,c,e⟩:=HKEEP.out x hx;exact hk1 x a b c (fun j hj=>e j (by omega))
  have HCH:Hid (ChgL (B::K) w wr):=by
   have hb:=HT2.out.bel;refine ⟨ho1.trans hb.os,ho2.trans hb.tape,ho3.trans hb.output,Nat.le_trans hb.size hz1,fun x hx hn=>?_⟩
   rw [hk1 x (Nat.lt_of_lt_of_le hx hb.size) (fun h=>hn (by rw [h];exact List.mem_cons_self ..)) (fun h=>hn (List.mem_cons_of_mem _ h)) (fun j hj h=>by
    have:=((HOE.out.each j (by omega)).1.lt x h).1;have:=HT0.out.b2.lt
    omega)]
   exact hb.block x hx
  clear hS1 hK1 hk1 ho1 ho2 ho3 hf1 hdn1 hw1 ho
  cases m with
  | zero=>
   obtain rfl:k=n:=by omega
   have t0:(k:Int)<((D+S:Nat):Int)→False:=by omega
   have t1:decide ((k:Int)<((D+S:Nat):Int))=false:=decide_eq_false t0
   have t2:decide ((k:Int)<(D:Int)+(S:Int))=false:=by simp;omega
   clear hkm t0;go_wp2;go_ret;rw [show zcj s G k mv d=.done 0 d1 from HOo.out]
   exact ⟨rfl,K1,HS1.out,fun x hx=>by
    have:=HT0.out.bel.size
    rcases HK1.out x hx with h | ⟨j,hj,h⟩ | h
    ·exact .inl h
    ·have:=((HOE.out.each j (by omega)).1.lt x h).1
     exact .inr (by omega)
    ·have:=HT2.out.bel.size
     exact .inr (by omega),HCH.out⟩
  | succ m=>
   have hlt:k<n:=by omega
   have t1:(k:Int)<((D+S:Nat):Int):=by omega
   have t2:(k:Int)<(D:Int)+(S:Int):=by omega
   have zz:IntKind.i64.wrap ((k:Int)+1)=(k:Int)+1:=by rw [IntKind.wrap_i64];omega
   obtain ⟨cs1,hB1,hO1⟩:=HS1.out;obtain ⟨g1,c1,gg,cap,GO⟩:=zeR hO1 HF1.out.grp (by rw [HF1.out.num];omega);obtain ⟨R,hR⟩:∃ R,R=mv.row.toNat:=⟨_,rfl⟩;have HRR:=hid hR
   have HMR:Hid (mv.row=(R:Int)):=by have:=HM.out.row;show mv.row=(R:Int);omega
   have hR1:=HF1.out.row k hlt;rw [← hR] at hR1;obtain ⟨gb,cap9,ao,ca,lgb,c0,c1_,c2,c3,hwas⟩:=GO.each k (by rw [HF1.out.num];exact hlt) R hR1;obtain ⟨b0,hb0⟩:∃ b0,b0=((d1.groups.2 G).2 k).blocks.2 R:=⟨_,rfl⟩;have HB0:=hid hb0;rw [← hb0] at c2 c3;obtain ⟨DR,hDR⟩:∃ DR,DR=(d1.groups.2 G).2 k:=⟨_,rfl⟩;have HDR:=hid hDR;rw [← hDR] at c0 c1_ hR1;have y1:=GO.row;rw [HF1.out.num] at y1
   have x9:wr.cell? ⟨B,9,none⟩=some (.slice (some ⟨g1,0,none⟩) d1.groups.1 c1):=by
    rw [hB1.cell 9,List.getElem?_toArray];exact GO.nine
   have i1:(0:Int)≤(G:Int):=by omega
   have i2:(G:Int)<(d1.groups.1:Int):=by have:=HF1.out.grp;omega
   have i3:(0:Int)≤(k:Int):=by omega
   have i4:(k:Int)<(n:Int):=by omega
   have i5:(0:Int)≤(R:Int):=by omega
   have i6:(R:Int)<(DR.blocks.1:Int):=by omega
   have qb:Box wr w.heap.size #[.int .i64 mv.kind,.int .i64 mv.seq,.string mv.name,.int .i64 mv.length,.int .i64 mv.group,.int .i64 mv.row,.slice ao6 mv.rows.1 cap6,.slice ao7 mv.data.1 cap7,.slice ao8 mv.delta.1 cap8] 43:=(HKC.out _ (.inl rfl)).trans HT2.out.b1
   have q5:wr.cell? ⟨w.heap.size,5,none⟩=some (.int .i64 (R:Int)):=by rw [← HMR.out];exact qb.cell 5
   have q1:wr.cell? ⟨w.heap.size,1,none⟩=some (.int .i64 mv.seq):=qb.cell 1
   have q0:wr.cell? ⟨w.heap.size+1,0,none⟩=some (.int .i64 (s 0)):=by
    have:Box wr (w.heap.size+1) #[.int .i64 (s 0),.int .i64 (s 1),.int .i64 (s 2),.int .i64 (s 3),.int .i64 (s 4),.int .i64 (s 5),.int .i64 (s 6),.int .i64 (s 7),.int .i64 (s 8)] 34:=(HKC.out _ (.inr (.inl rfl))).trans HT2.out.b2;exact this.cell 0
   have qe:wr.cell? ⟨gv,k,none⟩=some (ee k):=(World.cell?_of_block (a:=⟨gv,k,none⟩) (HKC.out _ (.inr (.inr rfl)))).trans (HOE.out.cell k (by omega))
   have hwl:w.heap.size+1<wr.heap.size:=by have:=(HKEEP.out _ (.inr (.inl rfl))).1;have:=HZ1.out;omega
   have hgvl:gv<wr.heap.size:=by have:=(HKEEP.out _ (.inr (.inr rfl))).1;have:=HZ1.out;omega
   obtain ⟨W4,hW4⟩:∃ x,x=wr.alloc (.cells #[.bool DR.wiped,.slice (some ⟨gb,0,none⟩) DR.blocks.1 cap9] 97):=⟨_,rfl⟩
   have T4:One wr W4 #[.bool DR.wiped,.slice (some ⟨gb,0,none⟩) DR.blocks.1 cap9] 97:=by rw [hW4];exact zaI wr _ _
   have HT4:=hid T4;have v0:W4.cell? ⟨wr.heap.size,0,none⟩=some (.bool DR.wiped):=T4.b1.cell 0;have v1:W4.cell? ⟨wr.heap.size,1,none⟩=some (.slice (some ⟨gb,0,none⟩) DR.blocks.1 cap9):=T4.b1.cell 1;have v2:W4.cell? ⟨gb,R*2,none⟩=some (.int .i64 b0.stamp):=(T4.bel.cell (p:=⟨gb,R*2,none⟩) lgb).trans c2;have v3:W4.cell? ⟨w.heap.size,5,none⟩=some (.int .i64 (R:Int)):=(T4.bel.cell (p:=⟨w.heap.size,5,none⟩) (by show w.heap.size<_;omega)).trans q5;have v4:W4.cell? ⟨w.heap.size,1,none⟩=some (.int .i64 mv.seq):=(T4.bel.cell (p:=⟨w.heap.size,1,none⟩) (by show w.heap.size<_;omega)).trans q1;have v5:W4.cell? ⟨w.heap.size+1,0,none⟩=some (.int .i64 (s 0)):=(T4.bel.cell (p:=⟨w.heap.size+1,0,none⟩) hwl).trans q0;have v6:W4.cell? ⟨gv,k,none⟩=some (ee k):=(T4.bel.cell (p:=⟨gv,k,none⟩) hgvl).trans qe;clear T4 hR hb0 hDR GO hwas c2 c3 q5 q1 q0 qe qb hB1 hO1
   go_upto_region 10 with fail
   rw [← hW4];clear hW4 c0 c1_ y1 x9
   have HSK:Hid (∀ W',Below wr.heap.size wr W'→¬ zbG d1 G k mv→∃ (k' m':Nat) (d1':WorldD) (K1':List Nat),k'+m'=n∧Value.int .i64 ((k:Int)+1)=.int .i64 k'∧SpB W' B d1' K1'∧(∀ x,x∈K1'→x∈K∨(∃ j,j<k'∧(ee j).ownBlock=some x)∨W2.heap.size≤x)∧W2.heap.size≤W'.heap.size∧(∀ x,x<W2.heap.size→x≠B→x∉K→(∀ j,j<k'→(ee j).ownBlock≠some x)→W'.heap[x]?=W2.heap[x]?)∧W'.os=W2.os∧W'.tape=W2.tape∧W'.output=W2.output∧FitR s n G mv d1'∧d1'.down=false∧d1'.writes+(m':Int)≤9223372036854775807∧runO (zao s G mv) n 0 d=runO (zao s G mv) m' k' d1'):=fun W' hb hno=>by
    have hz:=HZ1.out;refine ⟨k+1,m,d1,K1,by omega,by go_num,HS1.out.below hb,fun x hx=>?_,Nat.le_trans hz hb.size,fun x h1 h2 h3 h4=>(hb.block x (by omega)).trans (HH1.out x h1 h2 h3 (fun j hj=>h4 j (by omega))),hb.os.trans HOS.out.1,hb.tape.trans HOS.out.2.1,hb.output.trans HOS.out.2.2,HF1.out,HDN1.out,by have:=HW1.out;omega,?_⟩
    ·rcases HK1.out x hx with h | ⟨j,hj,h⟩ | h
     ·exact .inl h
     ·exact .inr (.inl ⟨j,by omega,h⟩)
     ·exact .inr (.inr h)
    ·rw [HOo.out]
     show (zao s G mv k d1).next _=_
     unfold zao;rw [if_neg hno];rfl
   have HOL:Hid (zbG d1 G k mv↔(DR.wiped=false∧b0.stamp<mv.seq)):=by
    unfold zbG;rw [← HRR.out,← HB0.out,← HDR.out];exact Iff.rfl
   cases hw:DR.wiped with
   | true=>
    have HOD:Hid (¬ zbG d1 G k mv):=fun h=>by
     have:=(HOL.out.1 h).1
     rw [hw] at this;cases this
    rw [hw] at v0;clear hw
    go_quiet (fail)
    have HB5:Below wr.heap.size wr (W4.drewN nq):=⟨HT4.out.bel.os,HT4.out.bel.tape,HT4.out.bel.output,HT4.out.bel.size,HT4.out.bel.block⟩;obtain ⟨W5,hW5⟩:∃ x,x=W4.drewN nq:=⟨_,rfl⟩;rw [← hW5] at HB5 ⊢;clear hW5;go_wp2
    go_roundw
    case rel=>exact HSK.out W5 HB5 HOD.out
    case measure=>simp [intOf];omega
   | false=>
    rw [hw] at v0;have HWF:=hid hw;clear hw
    by_cases hst:b0.stamp<mv.seq
    case neg=>
     have HOD:Hid (¬ zbG d1 G k mv):=fun h=>hst (HOL.out.1 h).2;have d5:decide (mv.seq≤b0.stamp)=true:=decide_eq_true (by omega);clear hst
     go_quiet (fail)
     have HB5:Below wr.heap.size wr (W4.drewN nq):=⟨HT4.out.bel.os,HT4.out.bel.tape,HT4.out.bel.output,HT4.out.bel.size,HT4.out.bel.block⟩;obtain ⟨W5,hW5⟩:∃ x,x=W4.drewN nq:=⟨_,rfl⟩;rw [← hW5] at HB5 ⊢;clear hW5;go_wp2
     go_roundw
     case rel=>exact HSK.out W5 HB5 HOD.out
     case measure=>simp [intOf];omega
    case pos=>
     have HOD:Hid (zbG d1 G k mv):=HOL.out.2 ⟨HWF.out,hst⟩;have d5:decide (mv.seq≤b0.stamp)=false:=decide_eq_false (by omega);clear hst HSK
     go_quiet (fail)
     have hb4:Below wr.heap.size wr (W4.drewN nq):=⟨HT4.out.bel.os,HT4.out.bel.tape,HT4.out.bel.output,HT4.out.bel.size,HT4.out.bel.block⟩;have w0:(W4.drewN nq).cell? ⟨wr.heap.size,1,none⟩=some (.slice (some ⟨gb,0,none⟩) DR.blocks.1 cap9):=v1;have w5_:(W4.drewN nq).cell? ⟨w.heap.size+1,0,none⟩=some (.int .i64 (s 0)):=v5;have w6_:(W4.drewN nq).cell? ⟨gv,k,none⟩=some (ee k):=v6;obtain ⟨W5,hW5⟩:∃ x,x=W4.drewN nq:=⟨_,rfl⟩;rw [← hW5] at hb4 w0 w5_ w6_ ⊢;clear hW5 v0 v1 v2 v3 v4 v5 v6 d5;have HB5:=hid hb4;obtain ⟨gk,ck,hek,hgk1,hgk2⟩:=zeh (HOE.out.each k (by omega)) (by decide);have hoc:∀ j,j<n→j≠k→(ee j).ownBlock≠some gk:=fun j hj hne h=>HOE.out.apart.2 j k (by omega) (by omega) hne gk h (by rw [hek];rfl)
     have hgB:gk≠B:=by have:=HT0.out.b2.lt;omega
     have hgKK:gk∉K:=fun h=>by have:=HKl.out gk h;have:=HT0.out.b2.lt;omega
     have hgK:gk∉K1:=fun h=>by
      rcases HK1.out gk h with h | ⟨j,hj,h⟩ | h
      ·exact hgKK h
      ·exact hoc j (by omega) (by omega) h
      ·omega
     have HGW:Hid (W5.heap[gk]?=W2.heap[gk]?):=(HB5.out.block gk (by have:=HZ1.out;omega)).trans (HH1.out gk hgk2 hgB hgKK (fun j hj=>hoc j (by omega) (by omega)))
     have HOW0:Hid (Own W2 W1.heap.size W2.heap.size (.slice (some ⟨gk,0,none⟩) 4 ck) 4 (encN D mv.data.2 k)):=by rw [← hek];exact HOE.out.each k (by omega)
     have HEK:=hid hek;have HGK:Hid (gk≠B∧gk∉K1∧W1.heap.size≤gk∧gk<W2.heap.size):=⟨hgB,hgK,hgk1,hgk2⟩;rw [hek] at w6_
     have HMV:Hid (movN s G k b0 mv=encN D mv.data.2 k):=by
      funext t
      unfold movN;rw [if_pos hG,HED.out]
     clear hoc hgB hgKK hgK hek hb4;have CR:=zi6 B d1 K1 W5 (HS1.out.below HB5.out) HDN1.out (by have:=HF1.out.low;have:=HW1.out;omega)
     go_wp2_with fail
     refine CR.mono ?_;rintro e w5 (⟨hfl,rfl,⟨K5,X5,s5⟩,C5⟩ | ⟨hfl,rfl,X5,C5⟩)
     ·have HCW:Hid (ChgL (B::K) w w5):=(HCH.out.trans (ChgL.of_below HB5.out)).trans (C5.mono (fun b hb=>by simp at hb;simp [hb]))
      have HE:Hid (zcj s G n mv d=.cut d1):=HOo.out.trans (by
       show (zao s G mv k d1).next _=_
       unfold zao rawO;rw [if_pos HOD.out,if_pos hfl]
       rfl)
      have HX5:Hid (SpB w5 B (cutW d1) K5∧∀ b,b∈K5→b∈K1):=⟨X5,s5⟩;clear CR w0 w5_ w6_ hfl X5 s5 C5;go_wp2;go_ret;rw [HE.out]
      exact ⟨rfl,K5,HX5.out.1,fun b hb=>by
       rcases HK1.out b (HX5.out.2 b hb) with h | ⟨j,hj,h⟩ | h
       ·exact .inl h
       ·have:=((HOE.out.each j (by omega)).1.lt b h).1
        have:=HT0.out.b2.lt;exact .inr (by omega)
       ·have:=HT2.out.bel.size
        exact .inr (by omega),HCW.out⟩
     ·have HFL:=hid hfl
      obtain ⟨cs5,B5,O5⟩:=X5;have O5d:EncO w5.drew B { d1 with writes:=d1.writes+1 } cs5 K1:=O5.chg (ChgL.refl [B] _).drew;have hgw:w5.drew.heap[gk]?=W2.heap[gk]?:=(C5.block gk (by have:=HB5.out.size;have:=HZ1.out;omega) (by simp;exact HGK.out.1)).trans HGW.out
      have ow1:=HOW0.out.kept (w':=w5.drew) (fun g hg=>by
       simp [Value.ownBlock] at hg
       subst hg
       exact hgw)
      have HOW:Own w5.drew 0 w5.drew.heap.size (.slice (some ⟨gk,0,none⟩) 4 ck) 4 (movN s G k b0 mv):=by
       rw [HMV.out];refine ⟨⟨ow1.1.1,ow1.1.2.elim Or.inl (fun ⟨g,cap,cur,hv,hg,r⟩=>Or.inr ⟨g,cap,cur,hv,Nat.zero_le _,r⟩)⟩,fun x hx=>?_⟩
       simp [Value.ownBlock] at hx
       subst hx;exact (ow1.1.lt _ rfl).2
      have BL:=zfX (R:=R) O5d HF1.out.grp (by show k<(d1.groups.2 G).1;rw [HF1.out.num];exact hlt) (by show R<(((d1.groups.2 G).2 k)).blocks.1;rw [← HDR.out];exact hR1) HGK.out.2.1 HGK.out.1 HSQ.out HOW (fun i=>by rw [HMV.out];exact zdC HB8.out.1 k i);obtain ⟨h1,c1',hg,cap',hb,cap9',nine,yG,yk,hbK,⟨t0,t1',z0,z1⟩,f0,f1,K',hO',hK'⟩:=BL
      replace yG:w5.drew.cell? ⟨h1,G,none⟩=some (.slice (some ⟨hg,0,none⟩) n cap'):=by rw [← HF1.out.num];exact yG
      replace yk:w5.drew.cell? ⟨hg,k*2+1,none⟩=some (.slice (some ⟨hb,0,none⟩) DR.blocks.1 cap9'):=by rw [HDR.out];exact yk
      have y9:w5.drew.cell? ⟨B,9,none⟩=some (.slice (some ⟨h1,0,none⟩) d1.groups.1 c1'):=by
       show w5.cell? ⟨B,9,none⟩=_
       rw [B5.cell 9,List.getElem?_toArray];exact nine
      have hq5:w5.drew.heap[w.heap.size]?=W2.heap[w.heap.size]?:=by
       obtain ⟨a,b,c,e⟩:=HKEEP.out _ (.inl rfl);exact (C5.block _ (by have:=HB5.out.size;have:=HZ1.out;omega) (by simp;exact b)).trans ((HB5.out.block _ (by have:=HZ1.out;omega)).trans (HKC.out _ (.inl rfl)))
      have qb:Box w5.drew w.heap.size #[.int .i64 mv.kind,.int .i64 mv.seq,.string mv.name,.int .i64 mv.length,.int .i64 mv.group,.int .i64 mv.row,.slice ao6 mv.rows.1 cap6,.slice ao7 mv.data.1 cap7,.slice ao8 mv.delta.1 cap8] 43:=hq5.trans HT2.out.b1
      have y5:w5.drew.cell? ⟨w.heap.size,5,none⟩=some (.int .i64 (R:Int)):=by rw [← HMR.out];exact qb.cell 5
      have y1:w5.drew.cell? ⟨w.heap.size,1,none⟩=some (.int .i64 mv.seq):=qb.cell 1;replace z0:w5.cell? ⟨hb,R*2,none⟩=some t0:=z0;replace z1:w5.cell? ⟨hb,R*2+1,none⟩=some t1':=z1;replace f0:w5.frozen? ⟨hb,R*2,none⟩=false:=f0;replace f1:w5.frozen? ⟨hb,R*2+1,none⟩=false:=f1;have HZO:Hid (EncO (stN w5.drew hb (R*2) [.int .i64 mv.seq,.slice (some ⟨gk,0,none⟩) 4 ck]) B (zch { d1 with writes:=d1.writes+1 } G k R ⟨mv.seq,(4,movN s G k b0 mv)⟩) cs5 K'∧∀ b,b∈K'→b∈K1∨b=gk):=⟨hO',hK'⟩;have HBX:=hid B5;have HNB:=hid O5d.ne;have HC5:=hid C5;have HBK:=hid hbK;clear CR w0 w5_ w6_ hfl C5 B5 O5 O5d hgw ow1 HOW hO' hK' nine qb hq5 hbK
      go_upto_region 16 with fail
      refine zcy 18 (fun w'=>w'.cell? ⟨B,9,none⟩=some (.slice (some ⟨h1,0,none⟩) d1.groups.1 c1')∧w'.cell? ⟨h1,G,none⟩=some (.slice (some ⟨hg,0,none⟩) n cap')∧w'.cell? ⟨hg,k*2+1,none⟩=some (.slice (some ⟨hb,0,none⟩) DR.blocks.1 cap9')∧w'.cell? ⟨w.heap.size,5,none⟩=some (.int .i64 (R:Int))∧w'.cell? ⟨w.heap.size,1,none⟩=some (.int .i64 mv.seq)) zhu ⟨y9,yG,yk,y5,y1⟩ (fun hHeld=>?_);refine zam (i:=0) (oi:=_) (v:=?_) 20 rfl (by kernel_rfl) (fun _ _ _ h=>h) (Or.inl ⟨by kernel_rfl,?_⟩) (by assumption) ?_
      rotate_left
      ·intro w' hSw
       try dsimp only at hSw
       obtain ⟨p0,p1,p2,p3,p4⟩:=hSw;go_simp
       try with_reducible rfl
      try simp only [Act.put,SL]
      refine zam (i:=1) (oi:=_) (v:=?_) 20 rfl (by kernel_rfl) (fun _ _ _ h=>h) (Or.inl ⟨by kernel_rfl,?_⟩) (by assumption) ?_
      rotate_left
      ·intro w' hSw
       try dsimp only at hSw
       obtain ⟨p0,p1,p2,p3,p4⟩:=hSw;go_simp
       try with_reducible rfl
      try simp only [Act.put,SL]
      refine zam (i:=2) (oi:=_) (v:=?_) 20 rfl (by kernel_rfl) (fun _ _ _ h=>h) (Or.inl ⟨by kernel_rfl,?_⟩) (by assumption) ?_
      rotate_left
      ·intro w' hSw
       try dsimp only at hSw
       obtain ⟨p0,p1,p2,p3,p4⟩:=hSw;go_simp
       try with_reducible rfl
      try simp only [Act.put,SL]
      refine zam (i:=3) (oi:=_) (v:=?_) 20 rfl (by kernel_rfl) (fun _ _ _ h=>h) (Or.inl ⟨by kernel_rfl,?_⟩) (by assumption) ?_
      rotate_left
      ·intro w' hSw
       try dsimp only at hSw
       obtain ⟨p0,p1,p2,p3,p4⟩:=hSw;go_simp
       try with_reducible rfl
      try simp only [Act.put,SL]
      refine zam (i:=4) (oi:=_) (v:=?_) 20 rfl (by kernel_rfl) (fun _ _ _ h=>h) (Or.inl ⟨by kernel_rfl,?_⟩) (by assumption) ?_
      rotate_left
      ·intro w' hSw
       try dsimp only at hSw
       obtain ⟨p0,p1,p2,p3,p4⟩:=hSw;go_simp
       try with_reducible rfl
      try simp only [Act.put,SL]
      refine zam (i:=5) (oi:=_) (v:=?_) 20 rfl (by kernel_rfl) (fun _ _ _ h=>h) (Or.inl ⟨by kernel_rfl,?_⟩) (by assumption) ?_
      rotate_left
      ·intro w' hSw
       try dsimp only at hSw
       obtain ⟨p0,p1,p2,p3,p4⟩:=hSw;go_simp
       try with_reducible rfl
      try simp only [Act.put,SL]
      refine zam (i:=6) (oi:=_) (v:=?_) 20 rfl (by kernel_rfl) (fun _ _ _ h=>h) (Or.inl ⟨by kernel_rfl,?_⟩) (by assumption) ?_
      rotate_left
      ·intro w' hSw
       try dsimp only at hSw
       obtain ⟨p0,p1,p2,p3,p4⟩:=hSw;go_simp
       try with_reducible rfl
      try simp only [Act.put,SL]
      refine zam (i:=7) (oi:=_) (v:=?_) 20 rfl (by kernel_rfl) (fun _ _ _ h=>h) (Or.inl ⟨by kernel_rfl,?_⟩) (by assumption) ?_
      rotate_left
      ·intro w' hSw
       try dsimp only at hSw
       obtain ⟨p0,p1,p2,p3,p4⟩:=hSw;go_simp
       try with_reducible rfl
      try simp only [Act.put,SL]
      refine zam (i:=8) (oi:=_) (v:=?_) 20 rfl (by kernel_rfl) (fun _ _ _ h=>h) (Or.inl ⟨by kernel_rfl,?_⟩) (by assumption) ?_
      rotate_left
      ·intro w' hSw
       try dsimp only at hSw
       obtain ⟨p0,p1,p2,p3,p4⟩:=hSw;go_simp
       try with_reducible rfl
      try simp only [Act.put,SL]
      refine zam (i:=9) (oi:=_) (v:=?_) 20 rfl (by kernel_rfl) (fun _ _ _ h=>h) (Or.inl ⟨by kernel_rfl,?_⟩) (by assumption) ?_
      rotate_left
      ·intro w' hSw
       try dsimp only at hSw
       obtain ⟨p0,p1,p2,p3,p4⟩:=hSw;go_simp
       try with_reducible rfl
      try simp only [Act.put,SL]
      refine zam (i:=10) (oi:=_) (v:=?_) 20 rfl (by kernel_rfl) (fun _ _ _ h=>h) (Or.inl ⟨by kernel_rfl,?_⟩) (by assumption) ?_
      rotate_left
      ·intro w' hSw
       try dsimp only at hSw
       obtain ⟨p0,p1,p2,p3,p4⟩:=hSw;go_simp
       try with_reducible rfl
      try simp only [Act.put,SL]
      refine zam (i:=11) (oi:=_) (v:=?_) 20 rfl (by kernel_rfl) (fun _ _ _ h=>h) (Or.inl ⟨by kernel_rfl,?_⟩) (by assumption) ?_
      rotate_left
      ·intro w' hSw
       try dsimp only at hSw
       obtain ⟨p0,p1,p2,p3,p4⟩:=hSw;go_simp
       try with_reducible rfl
      try simp only [Act.put,SL]
      refine zam (i:=12) (oi:=_) (v:=?_) 20 rfl (by kernel_rfl) (fun _ _ _ h=>h) (Or.inl ⟨by kernel_rfl,?_⟩) (by assumption) ?_
      rotate_left
      ·intro w' hSw
       try dsimp only at hSw
       obtain ⟨p0,p1,p2,p3,p4⟩:=hSw;go_simp
       try with_reducible rfl
      try simp only [Act.put,SL]
      refine zam (i:=13) (oi:=_) (v:=?_) 20 rfl (by kernel_rfl) (fun _ _ _ h=>h) (Or.inl ⟨by kernel_rfl,?_⟩) (by assumption) ?_
      rotate_left
      ·intro w' hSw
       try dsimp only at hSw
       obtain ⟨p0,p1,p2,p3,p4⟩:=hSw;go_simp
       try with_reducible rfl
      try simp only [Act.put,SL]
      refine zam (i:=14) (oi:=_) (v:=?_) 20 rfl (by kernel_rfl) (fun _ _ _ h=>h) (Or.inl ⟨by kernel_rfl,?_⟩) (by assumption) ?_
      rotate_left
      ·intro w' hSw
       try dsimp only at hSw
       obtain ⟨p0,p1,p2,p3,p4⟩:=hSw;go_simp
       try with_reducible rfl
      try simp only [Act.put,SL]
      refine zam (i:=15) (oi:=_) (v:=?_) 20 rfl (by kernel_rfl) (fun _ _ _ h=>h) (Or.inl ⟨by kernel_rfl,?_⟩) (by assumption) ?_
      rotate_left
      ·intro w' hSw
       try dsimp only at hSw
       obtain ⟨p0,p1,p2,p3,p4⟩:=hSw;go_simp
       try with_reducible rfl
      try simp only [Act.put,SL]
      refine zam (i:=16) (oi:=_) (v:=?_) 20 rfl (by kernel_rfl) (fun _ _ _ h=>h) (Or.inl ⟨by kernel_rfl,?_⟩) (by assumption) ?_
      rotate_left
      ·intro w' hSw
       try dsimp only at hSw
       obtain ⟨p0,p1,p2,p3,p4⟩:=hSw;go_simp
       try with_reducible rfl
      try simp only [Act.put,SL]
      refine zam (i:=17) (oi:=_) (v:=?_) 20 rfl (by kernel_rfl) (fun _ _ _ h=>h) (Or.inl ⟨by kernel_rfl,?_⟩) (by assumption) ?_
      rotate_left
      ·intro w' hSw
       try dsimp only at hSw
       obtain ⟨p0,p1,p2,p3,p4⟩:=hSw;go_simp
       try with_reducible rfl
      try simp only [Act.put,SL]
      refine zfV (i:=18) (o:=_) rfl (by kernel_rfl) (by kernel_rfl) (fun KC hKC=>?_);rw [if_pos (by kernel_rfl)];go_simp;refine hKC _ _ ?_;clear hKC KC
      try simp only [Act.put,SL]
      refine zb6 (by kernel_rfl) ?_ _;clear hHeld y9 yG yk y5 y1 z0 z1 f0 f1;go_wp2
      go_roundw
      case rel=>
       have hz1:=HZ1.out;have hz5:=HB5.out.size;have hzc:=HC5.out.size;obtain ⟨WZ,hWZ⟩:∃ x,x=stN w5.drew hb (R*2) [.int .i64 mv.seq,.slice (some ⟨gk,0,none⟩) 4 ck]:=⟨_,rfl⟩;have hzo:=HZO.out;rw [← hWZ] at hzo
       have zs:WZ.heap.size=w5.heap.size:=by rw [hWZ,zbj];rfl
       have zr:=za1 hb [.int .i64 mv.seq,.slice (some ⟨gk,0,none⟩) 4 ck] w5.drew (R*2);rw [← hWZ] at zr
       have zh:∀ x,x≠hb→WZ.heap[x]?=w5.heap[x]?:=fun x hx=>by
        rw [hWZ];exact zbo hb x hx _ _ _
       have REL:∃ (k' m':Nat) (d1':WorldD) (K1':List Nat),k'+m'=n∧Value.int .i64 ((k:Int)+1)=.int .i64 k'∧SpB WZ B d1' K1'∧(∀ x,x∈K1'→x∈K∨(∃ j,j<k'∧(ee j).ownBlock=some x)∨W2.heap.size≤x)∧W2.heap.size≤WZ.heap.size∧(∀ x,x<W2.heap.size→x≠B→x∉K→(∀ j,j<k'→(ee j).ownBlock≠some x)→WZ.heap[x]?=W2.heap[x]?)∧WZ.os=W2.os∧WZ.tape=W2.tape∧WZ.output=W2.output∧FitR s n G mv d1'∧d1'.down=false∧d1'.writes+(m':Int)≤9223372036854775807∧runO (zao s G mv) n 0 d=runO (zao s G mv) m' k' d1':=by
        refine ⟨k+1,m,{ zch d1 G k R (movB s G k b0 mv) with writes:=d1.writes+1 },K',by omega,by go_num,⟨cs5,?_,hzo.1⟩,fun x hx=>?_,by omega,fun x h1 h2 h3 h4=>?_,zr.1.trans ((HC5.out.os.trans HB5.out.os).trans HOS.out.1),zr.2.1.trans ((HC5.out.tape.trans HB5.out.tape).trans HOS.out.2.1),zr.2.2.trans ((HC5.out.output.trans HB5.out.output).trans HOS.out.2.2),?_,HDN1.out,?_,?_⟩
        ·exact (zh B (fun h=>HNB.out (by rw [h];exact HBK.out))).trans HBX.out
        ·rcases hzo.2 x hx with h | h
         ·rcases HK1.out x h with h | ⟨j,hj,h⟩ | h
          ·exact .inl h
          ·exact .inr (.inl ⟨j,by omega,h⟩)
          ·exact .inr (.inr h)
         ·exact .inr (.inl ⟨k,by omega,by rw [HEK.out,h];rfl⟩)
        ·have hxb:x≠hb:=fun h=>by
          rcases HK1.out hb HBK.out with h' | ⟨j,hj,h'⟩ | h'
          ·exact h3 (by rw [h];exact h')
          ·exact h4 j (by omega) (by rw [h];exact h')
          ·omega
         exact (zh x hxb).trans ((HC5.out.block x (by omega) (by simp;exact h2)).trans ((HB5.out.block x (by omega)).trans (HH1.out x h1 h2 h3 (fun j hj=>h4 j (by omega)))))
        ·rw [HRR.out]
         exact HF1.out.write k _ rfl
        ·show d1.writes+1+(m:Int)≤_
         have:=HW1.out;omega
        ·rw [HOo.out]
         show (zao s G mv k d1).next _=_
         have e:zao s G mv k d1=.done 0 { zch d1 G k R (movB s G k b0 mv) with writes:=d1.writes+1 }:=by
          unfold zao rawO
          rw [if_pos HOD.out,if_neg HFL.out,HB0.out,HRR.out]<;>rfl
         rw [e];rfl
       rw [hWZ] at REL;exact REL
      case measure=>simp [intOf];omega
theorem capR {w:World} {lo hi n cap:Nat} {ao:Option Addr} {f:Nat→Nat} (h:Own w lo hi (.slice ao n cap) n f):n≤cap:=by
 rcases h.1.2 with ⟨hv,hn⟩ | ⟨g,cap',cur,he,hbg,hgg,hnc,_⟩
 ·cases hv;omega
 ·cases he;exact hnc
theorem zlm {w:World} {lo lo' hi:Nat} {v:Value} {R:Nat} {n:Nat→Nat} {f:Nat→Nat→Nat} {g cap:Nat} {e:Nat→Value} (h:OwnE w lo hi v R n f g cap e) (hl:lo'≤lo):OwnE w lo' hi v R n f g cap e:=
 ⟨h.val,Nat.le_trans hl h.low,h.high,⟨h.row.1,h.row.2.elim Or.inl (fun ⟨g,cap,cur,hv,hg,r⟩=>Or.inr ⟨g,cap,cur,hv,Nat.le_trans hl hg,r⟩)⟩,fun i hi=>⟨⟨(h.each i hi).1.1,(h.each i hi).1.2.elim Or.inl (fun ⟨g,cap,cur,hv,hg,r⟩=>Or.inr ⟨g,cap,cur,hv,Nat.le_trans hl hg,r⟩)⟩,(h.each i hi).2⟩,h.apart⟩
set_option maxRecDepth 100000 in
theorem zjY (s:Nat→Int) (n G:Nat) (mv:RecD) (hM:MvOk s n G mv) (h7:mv.data.1=4*(s 2).toNat) (h8:mv.delta.1=4*(s 2).toNat) (ao6 ao7 ao8:Option Addr) (cap6 cap7 cap8 hi:Nat) (hc7:mv.data.1≤cap7) (hc8:mv.delta.1≤cap8) (B:Nat) (d:WorldD) (K:List Nat) (w:World) (hX:SpB w B d K) (hf:FitR s n G mv d) (hw:d.writes+(n:Int)≤9223372036854775807) (hdn:d.down=false) (hr:zae.rd w hi mv [.int .i64 mv.kind,.int .i64 mv.seq,.string mv.name,.int .i64 mv.length,.int .i64 mv.group,.int .i64 mv.row,.slice ao6 mv.rows.1 cap6,.slice ao7 mv.data.1 cap7,.slice ao8 mv.delta.1 cap8]) (hiB:hi≤B) (hiK:∀ b,b∈K→hi≤b) (hhi:hi≤w.heap.size) (hsq:-9223372036854775808≤mv.seq∧mv.seq≤9223372036854775807) (hd8:∀ i,mv.data.2 i<256) (hl8:∀ i,mv.delta.2 i<256) (hG:s 0≤(G:Int)) :
 Calls Tryz.prog 24 #[.pointer (some ⟨B,0,none⟩),.int .i64 (G:Int),.agg #[.int .i64 mv.kind,.int .i64 mv.seq,.string mv.name,.int .i64 mv.length,.int .i64 mv.group,.int .i64 mv.row,.slice ao6 mv.rows.1 cap6,.slice ao7 mv.data.1 cap7,.slice ao8 mv.delta.1 cap8]] w (SpP (zcj s G n mv d) B w K):=by
 have hsb:=okB hM.ok;have hnum:=hM.num;obtain ⟨D,hD⟩:∃ D:Nat,s 2=(D:Int):=⟨(s 2).toNat,by omega⟩;obtain ⟨S,hS⟩:∃ S:Nat,s 3=(S:Int):=⟨(s 3).toNat,by omega⟩;have HD:Hid (s 2=(D:Int)):=hD;have HS3:Hid (s 3=(S:Int)):=hS
 have eD:(s 2).toNat=D:=by omega
 have hnDS:n=D+S:=by omega
 have hDb:1≤D∧D≤3∧S≤2:=by omega
 rw [eD] at h7 h8;have HM:Hid (MvOk s n G mv):=hM;have HX:Hid (SpB w B d K):=hX;have HF:Hid (FitR s n G mv d):=hf;have HW:Hid (d.writes+(n:Int)≤9223372036854775807):=hw;have HDN:Hid (d.down=false):=hdn;have HR:Hid (zae.rd w hi mv [.int .i64 mv.kind,.int .i64 mv.seq,.string mv.name,.int .i64 mv.length,.int .i64 mv.group,.int .i64 mv.row,.slice ao6 mv.rows.1 cap6,.slice ao7 mv.data.1 cap7,.slice ao8 mv.delta.1 cap8]):=hr;have HIK:Hid (hi≤B∧∀ b,b∈K→hi≤b):=⟨hiB,hiK⟩;have HSQ:Hid (-9223372036854775808≤mv.seq∧mv.seq≤9223372036854775807):=hsq;have HB8:Hid ((∀ i,mv.data.2 i<256)∧∀ i,mv.delta.2 i<256):=⟨hd8,hl8⟩;have H78:Hid (mv.data.1=4*D∧mv.delta.1=4*D):=⟨h7,h8⟩;have HCP:Hid (4*D≤cap7∧4*D≤cap8):=⟨by omega,by omega⟩;have HED:Hid ((s 2).toNat=D):=eD;have hBl:=hX.lt;have HKl:Hid (∀ b,b∈K→b<w.heap.size):=hX.Klt;obtain ⟨x6,y6,x7,y7,x8,y8,e9,r6,r7,r8,-⟩:=za5 hr
 have e7:(Value.slice ao7 mv.data.1 cap7)=.slice x7 mv.data.1 y7:=by
  have:=congrArg (fun l=>l[7]?) e9
  simpa using this
 have e8:(Value.slice ao8 mv.delta.1 cap8)=.slice x8 mv.delta.1 y8:=by
  have:=congrArg (fun l=>l[8]?) e9
  simpa using this
 rw [← e7] at r7;rw [← e8] at r8
 have HR7:Hid (Rd w hi (.slice ao7 (4*D) cap7) (4*D) mv.data.2):=by have:=(zdF r7).1;rw [h7] at this;exact this
 have HR8:Hid (Rd w hi (.slice ao8 (4*D) cap8) (4*D) mv.delta.2):=by have:=(zdF r8).1;rw [h8] at this;exact this
 have T0:=zaC w #[.int .i64 mv.kind,.int .i64 mv.seq,.string mv.name,.int .i64 mv.length,.int .i64 mv.group,.int .i64 mv.row,.slice ao6 mv.rows.1 cap6,.slice ao7 mv.data.1 cap7,.slice ao8 mv.delta.1 cap8] #[.int .i64 (s 0),.int .i64 (s 1),.int .i64 (s 2),.int .i64 (s 3),.int .i64 (s 4),.int .i64 (s 5),.int .i64 (s 6),.int .i64 (s 7),.int .i64 (s 8)] 43 34
 have xs:∀ j,j<9→w.cell? ⟨B,j,none⟩=some (.int .i64 (s j)):=fun j hj=>by
  obtain ⟨cs,hBx,hO⟩:=hX;obtain ⟨p1,cc1,p2,cc2,p3,cc3,K1',K2',K3',hcs,-⟩:=hO.open;rw [hBx.cell j,List.getElem?_toArray,hcs,← hf.shape]
  match j,hj with
  | 0,_=>rfl
  | 1,_=>rfl
  | 2,_=>rfl
  | 3,_=>rfl
  | 4,_=>rfl
  | 5,_=>rfl
  | 6,_=>rfl
  | 7,_=>rfl
  | 8,_=>rfl
 have x_0:=xs 0 (by decide);have x_1:=xs 1 (by decide);have x_2:=xs 2 (by decide);have x_3:=xs 3 (by decide);have x_4:=xs 4 (by decide);have x_5:=xs 5 (by decide);have x_6:=xs 6 (by decide);have x_7:=xs 7 (by decide);have x_8:=xs 8 (by decide);clear xs hM hX hf hw hdn hr hiB hiK hsq hd8 hl8 hD hS h7 h8 hc7 hc8 e9 r6 r7 r8 e7 e8 eD hsb hnum
 go_enter Tryz.func24,Tryz.ntmps24
 go_upto_region 2 with fail
 obtain ⟨W1,hW1⟩:∃ x,x=(w.alloc (.cells #[.int .i64 mv.kind,.int .i64 mv.seq,.string mv.name,.int .i64 mv.length,.int .i64 mv.group,.int .i64 mv.row,.slice ao6 mv.rows.1 cap6,.slice ao7 mv.data.1 cap7,.slice ao8 mv.delta.1 cap8] 43)).alloc (.cells #[.int .i64 (s 0),.int .i64 (s 1),.int .i64 (s 2),.int .i64 (s 3),.int .i64 (s 4),.int .i64 (s 5),.int .i64 (s 6),.int .i64 (s 7),.int .i64 (s 8)] 34):=⟨_,rfl⟩;rw [← hW1] at T0 ⊢;clear hW1 x_0 x_1 x_2 x_3 x_4 x_5 x_6 x_7 x_8;have HT0:Hid (Two w W1 #[.int .i64 mv.kind,.int .i64 mv.seq,.string mv.name,.int .i64 mv.length,.int .i64 mv.group,.int .i64 mv.row,.slice ao6 mv.rows.1 cap6,.slice ao7 mv.data.1 cap7,.slice ao8 mv.delta.1 cap8] #[.int .i64 (s 0),.int .i64 (s 1),.int .i64 (s 2),.int .i64 (s 3),.int .i64 (s 4),.int .i64 (s 5),.int .i64 (s 6),.int .i64 (s 7),.int .i64 (s 8)] 43 34):=T0
 have d2:W1.cell? ⟨w.heap.size+1,2,none⟩=some (.int .i64 (D:Int)):=by rw [← HD.out];exact T0.b2.cell 2
 have d3:W1.cell? ⟨w.heap.size+1,3,none⟩=some (.int .i64 (S:Int)):=by rw [← HS3.out];exact T0.b2.cell 3
 have c7:W1.cell? ⟨w.heap.size,7,none⟩=some (.slice ao7 (4*D) cap7):=by have:=T0.b1.cell 7;rw [H78.out.1] at this;exact this
 have CE:=zdq D S hDb.1 hDb.2.1 hDb.2.2 (.slice ao7 (4*D) cap7) mv.data.2 hi W1 (HR7.out.below T0.bel hhi) (fun ao cap e=>by
  simp only [Value.slice.injEq] at e
  obtain ⟨-,-,rfl⟩:=e
  exact HCP.out.1) (Nat.le_trans hhi T0.bel.size) HB8.out.1
 clear T0
 go_wp2_with fail
 refine CE.mono ?_;rintro e Wa ⟨vb0,rfl,hOM0,b2⟩;have HTa:Hid (Two w Wa #[.int .i64 mv.kind,.int .i64 mv.seq,.string mv.name,.int .i64 mv.length,.int .i64 mv.group,.int .i64 mv.row,.slice ao6 mv.rows.1 cap6,.slice ao7 mv.data.1 cap7,.slice ao8 mv.delta.1 cap8] #[.int .i64 (s 0),.int .i64 (s 1),.int .i64 (s 2),.int .i64 (s 3),.int .i64 (s 4),.int .i64 (s 5),.int .i64 (s 6),.int .i64 (s 7),.int .i64 (s 8)] 43 34):=HT0.out.call b2;have hba:Below W1.heap.size W1 Wa:=b2;have u0:Wa.cell? ⟨w.heap.size+1,0,none⟩=some (.int .i64 (s 0)):=HTa.out.b2.cell 0;have u4:Wa.cell? ⟨w.heap.size,4,none⟩=some (.int .i64 mv.group):=HTa.out.b1.cell 4
 have g0:decide (s 0≤(G:Int))=true:=by simp;omega
 have hsb:=okB HM.out.ok;have hall:=HM.out.all;have hgr:=HM.out.grp;unfold InP at hgr
 have wr1:IntKind.i64.wrap (8+(G:Int))=8+(G:Int):=by rw [IntKind.wrap_i64];omega
 have wr2:IntKind.i64.wrap (8+(G:Int)-s 0)=8+(G:Int)-s 0:=by rw [IntKind.wrap_i64];omega
 obtain ⟨F,hF⟩:∃ F,F=facN s G mv.group:=⟨_,rfl⟩;have HFF:Hid (F=facN s G mv.group):=hF
 have hF256:F<256:=by rw [hF];exact zcr 254
 have CCa:=zev (8+(G-(s 0).toNat)) mv.group.toNat (by omega) (by omega) Wa;rw [show ((8+(G-(s 0).toNat):Nat):Int)=8+(G:Int)-s 0 by omega,show ((mv.group.toNat:Nat):Int)=mv.group by omega] at CCa
 have CCb:Calls Tryz.prog 63 #[.int .i64 (8+(G:Int)-s 0),.int .i64 mv.group] Wa fun e w'=>e=.returned (.int .u8 (F:Int))∧w'=Wa:=by rw [hF];exact CCa
 clear CE CCa hOM0 b2 d2 d3 c7 hF hsb hall hgr
 go_wp2_with fail
 refine CCb.mono ?_;rintro e wc ⟨rfl,e1⟩;have e2:=e1.symm;subst e2;have bD:Below Wa.heap.size Wa Wa.drew:=⟨rfl,rfl,rfl,Nat.le_refl _,fun _ _=>rfl⟩
 have HKS:Hid (∀ w',Below Wa.heap.size Wa w'→(w'.cell? ⟨w.heap.size+1,2,none⟩=some (.int .i64 (D:Int))∧w'.cell? ⟨w.heap.size+1,3,none⟩=some (.int .i64 (S:Int))∧w'.cell? ⟨w.heap.size,8,none⟩=some (.slice ao8 (4*D) cap8))):=fun w' hb=>by
  have T:=HTa.out.call hb;refine ⟨by rw [← HD.out];exact T.b2.cell 2,by rw [← HS3.out];exact T.b2.cell 3,?_⟩;have:=T.b1.cell 8;rw [H78.out.2] at this;exact this
 have HCS:Hid (∀ W,Below Wa.heap.size Wa W→Calls Tryz.prog 64 #[.slice ao8 (4*D) cap8,.int .u8 (F:Int)] W fun e w'=>∃ v',e=.returned v'∧Own w' W.heap.size w'.heap.size v' (4*D) (fun i=>mulN F (mv.delta.2 i))∧Below W.heap.size W w'):=fun W hb=>by
  have T:=HTa.out.call hb;exact ze5 (.slice ao8 (4*D) cap8) (4*D) mv.delta.2 (fun i=>mulN F (mv.delta.2 i)) F hi W (HR8.out.below T.bel hhi) (Nat.le_trans hhi T.bel.size) HB8.out.2 hF256 (fun i _=>rfl) (by omega)
 have HBA:Hid (Below W1.heap.size W1 Wa):=hba;have hSD:=HKS.out _ bD;clear u0 u4 wr1 wr2 CCb hba
 go_upto_region 5 with fail
 refine zcy 10 (fun w'=>w'.cell? ⟨w.heap.size+1,2,none⟩=some (.int .i64 (D:Int))∧w'.cell? ⟨w.heap.size+1,3,none⟩=some (.int .i64 (S:Int))∧w'.cell? ⟨w.heap.size,8,none⟩=some (.slice ao8 (4*D) cap8)) zhu hSD (fun hHeld=>?_);refine zap (i:=0) (oi:=_) (v:=?_) rfl (by kernel_rfl) (fun _ _ _ h=>h) (Or.inl ⟨by kernel_rfl,?_⟩) (by assumption) ?_
 rotate_left
 ·intro w' hSw
  try dsimp only at hSw
  obtain ⟨p0,p1,p2⟩:=hSw;go_simp
  try with_reducible rfl
 try simp only [Act.put,SL]
 refine zap (i:=1) (oi:=_) (v:=?_) rfl (by kernel_rfl) (fun _ _ _ h=>h) (Or.inl ⟨by kernel_rfl,?_⟩) (by assumption) ?_
 rotate_left
 ·intro w' hSw
  try dsimp only at hSw
  obtain ⟨p0,p1,p2⟩:=hSw;go_simp
  try with_reducible rfl
 try simp only [Act.put,SL]
 refine zap (i:=2) (oi:=_) (v:=?_) rfl (by kernel_rfl) (fun _ _ _ h=>h) (Or.inl ⟨by kernel_rfl,?_⟩) (by assumption) ?_
 rotate_left
 ·intro w' hSw
  try dsimp only at hSw
  obtain ⟨p0,p1,p2⟩:=hSw;go_simp
  try with_reducible rfl
 try simp only [Act.put,SL]
 refine zap (i:=3) (oi:=_) (v:=?_) rfl (by kernel_rfl) (fun _ _ _ h=>h) (Or.inl ⟨by kernel_rfl,?_⟩) (by assumption) ?_
 rotate_left
 ·intro w' hSw
  try dsimp only at hSw
  obtain ⟨p0,p1,p2⟩:=hSw;go_simp
  try with_reducible rfl
 try simp only [Act.put,SL]
 refine zap (i:=4) (oi:=_) (v:=?_) rfl (by kernel_rfl) (fun _ _ _ h=>h) (Or.inl ⟨by kernel_rfl,?_⟩) (by assumption) ?_
 rotate_left
 ·intro w' hSw
  try dsimp only at hSw
  obtain ⟨p0,p1,p2⟩:=hSw;go_simp
  try with_reducible rfl
 try simp only [Act.put,SL]
 refine zap (i:=5) (oi:=_) (v:=?_) rfl (by kernel_rfl) (fun _ _ _ h=>h) (Or.inl ⟨by kernel_rfl,?_⟩) (by assumption) ?_
 rotate_left
 ·intro w' hSw
  try dsimp only at hSw
  obtain ⟨p0,p1,p2⟩:=hSw;go_simp
  try with_reducible rfl
 try simp only [Act.put,SL]
 refine zap (i:=6) (oi:=_) (v:=?_) rfl (by kernel_rfl) (fun _ _ _ h=>h) (Or.inl ⟨by kernel_rfl,?_⟩) (by assumption) ?_
 rotate_left
 ·intro w' hSw
  try dsimp only at hSw
  obtain ⟨p0,p1,p2⟩:=hSw;go_simp
  try with_reducible rfl
 try simp only [Act.put,SL]
 refine zbt (i:=7) (o:=_) rfl (by kernel_rfl) (fun KC hKC=>?_);refine zcM (by kernel_rfl) (.func 64) 64 #[] _ _ rfl (by simp [Act.eval,Act.put]) #[.slice ao8 (4*D) cap8,.int .u8 (F:Int)] (by simp [Act.eval,Act.put]) Tryz.func64 (by kernel_rfl) (by kernel_rfl) (HCS.out _ bD) ?_;rintro e Ws ⟨vs,rfl,OS,bs⟩;refine ⟨_,rfl,?_⟩;have HBS:Hid (Below Wa.heap.size Wa Ws):=bD.trans (bs.mono bD.size);refine hKC _ _ (HKS.out Ws HBS.out) ?_;clear hKC KC
 try simp only [Act.put,SL]
 have CE2:=zdq D S hDb.1 hDb.2.1 hDb.2.2 vs (fun i=>mulN F (mv.delta.2 i)) Ws.heap.size Ws OS.rd (fun ao cap e=>by
  rw [e] at OS
  exact capR OS) (Nat.le_refl _) (fun i=>zb4 hF256)
 refine zbt (i:=8) (o:=_) rfl (by kernel_rfl) (fun KC hKC=>?_);refine zcM (by kernel_rfl) (.func 62) 62 #[] _ _ rfl (by simp [Act.eval,Act.put]) #[.int .i64 (D:Int),.int .i64 (S:Int),vs] (by simp [Act.eval,Act.put]) Tryz.func62 (by kernel_rfl) (by kernel_rfl) CE2 ?_;rintro e W2 ⟨vb,rfl,⟨gv,pv,ee,OE⟩,be⟩;refine ⟨_,rfl,?_⟩;have hb2:Below Wa.heap.size Wa W2:=HBS.out.trans (be.mono HBS.out.size);have hSD2:=HKS.out W2 hb2;refine hKC _ _ hSD2 ?_;clear hKC KC
 try simp only [Act.put,SL]
 have hvb:=OE.val;subst hvb;have HOE:Hid (OwnE W2 W1.heap.size W2.heap.size (.slice (some ⟨gv,0,none⟩) (D+S) pv) (D+S) (fun _=>4) (encN D (fun i=>mulN F (mv.delta.2 i))) gv pv ee):=zlm OE (by have:=HBA.out.size;have:=HBS.out.size;omega);have HT2:Hid (Two w W2 #[.int .i64 mv.kind,.int .i64 mv.seq,.string mv.name,.int .i64 mv.length,.int .i64 mv.group,.int .i64 mv.row,.slice ao6 mv.rows.1 cap6,.slice ao7 mv.data.1 cap7,.slice ao8 mv.delta.1 cap8] #[.int .i64 (s 0),.int .i64 (s 1),.int .i64 (s 2),.int .i64 (s 3),.int .i64 (s 4),.int .i64 (s 5),.int .i64 (s 6),.int .i64 (s 7),.int .i64 (s 8)] 43 34):=HTa.out.call hb2;refine zap (i:=9) (oi:=_) (v:=?_) rfl (by kernel_rfl) (fun _ _ _ h=>h) (Or.inl ⟨by kernel_rfl,?_⟩) (by assumption) ?_
 rotate_left
 ·intro w' hSw
  try dsimp only at hSw
  obtain ⟨p0,p1,p2⟩:=hSw;go_simp
  try with_reducible rfl
 try simp only [Act.put,SL]
 refine zb6 (by kernel_rfl) ?_ _;clear hHeld CE2 OE OS bs be hb2 bD hSD hSD2;go_wp2
 have HKEEP:Hid (∀ x,(x=w.heap.size∨x=w.heap.size+1∨x=gv)→x<W2.heap.size∧x≠B∧x∉K∧∀ j,j<n→(ee j).ownBlock≠some x):=by
  intro x hx;have z0:w.heap.size+1<W1.heap.size:=HT0.out.b2.lt;have z1:=HOE.out.low;have z2:=HOE.out.high;have hlt:∀ j,j<n→∀ y,(ee j).ownBlock=some y→W1.heap.size≤y:=fun j hj y hy=>((HOE.out.each j (by omega)).1.lt y hy).1
  have hx2:w.heap.size≤x∧x<W2.heap.size:=by rcases hx with rfl | rfl | rfl<;>omega
  refine ⟨hx2.2,by omega,fun h=>by have:=HKl.out x h;omega,fun j hj h=>?_⟩
  rcases hx with rfl | rfl | rfl
  ·have:=hlt j hj _ h;omega
  ·have:=hlt j hj _ h;omega
  ·exact HOE.out.apart.1 j (by omega) h
 have hn5:n≤5:=by omega
 go_loopw [10] (fun i wr=>∃ (k m:Nat) (d1:WorldD) (K1:List Nat),k+m=n∧i=.int .i64 k∧SpB wr B d1 K1∧(∀ x,x∈K1→x∈K∨(∃ j,j<k∧(ee j).ownBlock=some x)∨W2.heap.size≤x)∧W2.heap.size≤wr.heap.size∧(∀ x,x<W2.heap.size→x≠B→x∉K→(∀ j,j<k→(ee j).ownBlock≠some x)→wr.heap[x]?=W2.heap[x]?)∧wr.os=W2.os∧wr.tape=W2.tape∧wr.output=W2.output∧FitR s n G mv d1∧d1.down=false∧d1.writes+(m:Int)≤9223372036854775807∧runO (zao s G mv) n 0 d=runO (zao s G mv) m k d1) (fun i _=>n-(intOf i).toNat)
 case atStart=>exact ⟨0,n,d,K,by omega,rfl,HX.out.below HT2.out.bel,fun x hx=>.inl hx,Nat.le_refl _,fun _ _ _ _ _=>rfl,rfl,rfl,rfl,HF.out,HDN.out,HW.out,rfl⟩
 case round=>
  obtain ⟨k,m,d1,K1,hkm,rfl,hS1,hK1,hz1,hk1,ho1,ho2,ho3,hf1,hdn1,hw1,ho⟩:=hrel;have HS1:Hid (SpB wr B d1 K1):=hS1;have HK1:Hid (∀ x,x∈K1→x∈K∨(∃ j,j<k∧(ee j).ownBlock=some x)∨W2.heap.size≤x):=hK1;have HZ1:Hid (W2.heap.size≤wr.heap.size):=hz1;have HH1:Hid (∀ x,x<W2.heap.size→x≠B→x∉K→(∀ j,j<k→(ee j).ownBlock≠some x)→wr.heap[x]?=W2.heap[x]?):=hk1;have HOS:Hid (wr.os=W2.os∧wr.tape=W2.tape∧wr.output=W2.output):=⟨ho1,ho2,ho3⟩;have HF1:Hid (FitR s n G mv d1):=hf1;have HDN1:Hid (d1.down=false):=hdn1;have HW1:Hid (d1.writes+(m:Int)≤9223372036854775807):=hw1;have HOo:Hid (runO (zao s G mv) n 0 d=runO (zao s G mv) m k d1):=ho
  have HKC:Hid (∀ x,(x=w.heap.size∨x=w.heap.size+1∨x=gv)→wr.heap[x]?=W2.heap[x]?):=fun x hx=>by
   obtain ⟨a,b,c,e⟩:=HKEEP.out x hx;exact hk1 x a b c (fun j hj=>e j (by omega))
  have HCH:Hid (ChgL (B::K) w wr):=by
   have hb:=HT2.out.bel;refine ⟨ho1.trans hb.os,ho2.trans hb.tape,ho3.trans hb.output,Nat.le_trans hb.size hz1,fun x hx hn=>?_⟩
   rw [hk1 x (Nat.lt_of_lt_of_le hx hb.size) (fun h=>hn (by rw [h];exact List.mem_cons_self ..)) (fun h=>hn (List.mem_cons_of_mem _ h)) (fun j hj h=>by
    have:=((HOE.out.each j (by omega)).1.lt x h).1;have:=HT0.out.b2.lt
    omega)]
   exact hb.block x hx
  clear hS1 hK1 hk1 ho1 ho2 ho3 hf1 hdn1 hw1 ho
  cases m with
  | zero=>
   obtain rfl:k=n:=by omega
   have t0:(k:Int)<((D+S:Nat):Int)→False:=by omega
   have t1:decide ((k:Int)<((D+S:Nat):Int))=false:=decide_eq_false t0
   have t2:decide ((k:Int)<(D:Int)+(S:Int))=false:=by simp;omega
   clear hkm t0;go_wp2;go_ret;rw [show zcj s G k mv d=.done 0 d1 from HOo.out]
   exact ⟨rfl,K1,HS1.out,fun x hx=>by
    have:=HT0.out.bel.size
    rcases HK1.out x hx with h | ⟨j,hj,h⟩ | h
    ·exact .inl h
    ·have:=((HOE.out.each j (by omega)).1.lt x h).1
     exact .inr (by omega)
    ·have:=HT2.out.bel.size
     exact .inr (by omega),HCH.out⟩
  | succ m=>
   have hlt:k<n:=by omega
   have t1:(k:Int)<((D+S:Nat):Int):=by omega
   have t2:(k:Int)<(D:Int)+(S:Int):=by omega
   have zz:IntKind.i64.wrap ((k:Int)+1)=(k:Int)+1:=by rw [IntKind.wrap_i64];omega
   obtain ⟨cs1,hB1,hO1⟩:=HS1.out;obtain ⟨g1,c1,gg,cap,GO⟩:=zeR hO1 HF1.out.grp (by rw [HF1.out.num];omega);obtain ⟨R,hR⟩:∃ R,R=mv.row.toNat:=⟨_,rfl⟩;have HRR:Hid (R=mv.row.toNat):=hR
   have HMR:Hid (mv.row=(R:Int)):=by have:=HM.out.row;show mv.row=(R:Int);omega
   have hR1:=HF1.out.row k hlt;rw [← hR] at hR1;obtain ⟨gb,cap9,ao,ca,lgb,c0,c1_,c2,c3,hwas⟩:=GO.each k (by rw [HF1.out.num];exact hlt) R hR1;obtain ⟨b0,hb0⟩:∃ b0,b0=((d1.groups.2 G).2 k).blocks.2 R:=⟨_,rfl⟩;have HB0:Hid (b0=((d1.groups.2 G).2 k).blocks.2 R):=hb0;rw [← hb0] at c2 c3;obtain ⟨DR,hDR⟩:∃ DR,DR=(d1.groups.2 G).2 k:=⟨_,rfl⟩;have HDR:Hid (DR=(d1.groups.2 G).2 k):=hDR;rw [← hDR] at c0 c1_ hR1;have y1:=GO.row;rw [HF1.out.num] at y1
   have x9:wr.cell? ⟨B,9,none⟩=some (.slice (some ⟨g1,0,none⟩) d1.groups.1 c1):=by
    rw [hB1.cell 9,List.getElem?_toArray];exact GO.nine
   have i1:(0:Int)≤(G:Int):=by omega
   have i2:(G:Int)<(d1.groups.1:Int):=by have:=HF1.out.grp;omega
   have i3:(0:Int)≤(k:Int):=by omega
   have i4:(k:Int)<(n:Int):=by omega
   have i5:(0:Int)≤(R:Int):=by omega
   have i6:(R:Int)<(DR.blocks.1:Int):=by omega
   have qb:Box wr w.heap.size #[.int .i64 mv.kind,.int .i64 mv.seq,.string mv.name,.int .i64 mv.length,.int .i64 mv.group,.int .i64 mv.row,.slice ao6 mv.rows.1 cap6,.slice ao7 mv.data.1 cap7,.slice ao8 mv.delta.1 cap8] 43:=(HKC.out _ (.inl rfl)).trans HT2.out.b1
   have q5:wr.cell? ⟨w.heap.size,5,none⟩=some (.int .i64 (R:Int)):=by rw [← HMR.out];exact qb.cell 5
   have q1:wr.cell? ⟨w.heap.size,1,none⟩=some (.int .i64 mv.seq):=qb.cell 1
   have q0:wr.cell? ⟨w.heap.size+1,0,none⟩=some (.int .i64 (s 0)):=by
    have:Box wr (w.heap.size+1) #[.int .i64 (s 0),.int .i64 (s 1),.int .i64 (s 2),.int .i64 (s 3),.int .i64 (s 4),.int .i64 (s 5),.int .i64 (s 6),.int .i64 (s 7),.int .i64 (s 8)] 34:=(HKC.out _ (.inr (.inl rfl))).trans HT2.out.b2;exact this.cell 0
   have qe:wr.cell? ⟨gv,k,none⟩=some (ee k):=(World.cell?_of_block (a:=⟨gv,k,none⟩) (HKC.out _ (.inr (.inr rfl)))).trans (HOE.out.cell k (by omega))
   have hwl:w.heap.size+1<wr.heap.size:=by have:=(HKEEP.out _ (.inr (.inl rfl))).1;have:=HZ1.out;omega
   have hgvl:gv<wr.heap.size:=by have:=(HKEEP.out _ (.inr (.inr rfl))).1;have:=HZ1.out;omega
   obtain ⟨W4,hW4⟩:∃ x,x=wr.alloc (.cells #[.bool DR.wiped,.slice (some ⟨gb,0,none⟩) DR.blocks.1 cap9] 97):=⟨_,rfl⟩
   have T4:One wr W4 #[.bool DR.wiped,.slice (some ⟨gb,0,none⟩) DR.blocks.1 cap9] 97:=by rw [hW4];exact zaI wr _ _
   have HT4:Hid (One wr W4 #[.bool DR.wiped,.slice (some ⟨gb,0,none⟩) DR.blocks.1 cap9] 97):=T4;have v0:W4.cell? ⟨wr.heap.size,0,none⟩=some (.bool DR.wiped):=T4.b1.cell 0;have v1:W4.cell? ⟨wr.heap.size,1,none⟩=some (.slice (some ⟨gb,0,none⟩) DR.blocks.1 cap9):=T4.b1.cell 1;have v2:W4.cell? ⟨gb,R*2,none⟩=some (.int .i64 b0.stamp):=(T4.bel.cell (p:=⟨gb,R*2,none⟩) lgb).trans c2;have v3:W4.cell? ⟨w.heap.size,5,none⟩=some (.int .i64 (R:Int)):=(T4.bel.cell (p:=⟨w.heap.size,5,none⟩) (by show w.heap.size<_;omega)).trans q5;have v4:W4.cell? ⟨w.heap.size,1,none⟩=some (.int .i64 mv.seq):=(T4.bel.cell (p:=⟨w.heap.size,1,none⟩) (by show w.heap.size<_;omega)).trans q1;have v5:W4.cell? ⟨w.heap.size+1,0,none⟩=some (.int .i64 (s 0)):=(T4.bel.cell (p:=⟨w.heap.size+1,0,none⟩) hwl).trans q0;have v6:W4.cell? ⟨gv,k,none⟩=some (ee k):=(T4.bel.cell (p:=⟨gv,k,none⟩) hgvl).trans qe;have v7:W4.cell? ⟨gb,R*2+1,none⟩=some (.slice ao b0.bytes.1 ca):=(T4.bel.cell (p:=⟨gb,R*2+1,none⟩) lgb).trans c3
   have HWAS:Hid (zaf.rd wr wr.heap.size b0 [.int .i64 b0.stamp,.slice ao b0.bytes.1 ca]):=by rw [hb0];exact hwas
   clear T4 hR hb0 hDR GO hwas c2 c3 q5 q1 q0 qe qb hB1 hO1
   go_upto_region 10 with fail
   rw [← hW4];clear hW4 c0 c1_ y1 x9
   have HSK:Hid (∀ W',Below wr.heap.size wr W'→¬ zbG d1 G k mv→∃ (k' m':Nat) (d1':WorldD) (K1':List Nat),k'+m'=n∧Value.int .i64 ((k:Int)+1)=.int .i64 k'∧SpB W' B d1' K1'∧(∀ x,x∈K1'→x∈K∨(∃ j,j<k'∧(ee j).ownBlock=some x)∨W2.heap.size≤x)∧W2.heap.size≤W'.heap.size∧(∀ x,x<W2.heap.size→x≠B→x∉K→(∀ j,j<k'→(ee j).ownBlock≠some x)→W'.heap[x]?=W2.heap[x]?)∧W'.os=W2.os∧W'.tape=W2.tape∧W'.output=W2.output∧FitR s n G mv d1'∧d1'.down=false∧d1'.writes+(m':Int)≤9223372036854775807∧runO (zao s G mv) n 0 d=runO (zao s G mv) m' k' d1'):=fun W' hb hno=>by
    have hz:=HZ1.out;refine ⟨k+1,m,d1,K1,by omega,by go_num,HS1.out.below hb,fun x hx=>?_,Nat.le_trans hz hb.size,fun x h1 h2 h3 h4=>(hb.block x (by omega)).trans (HH1.out x h1 h2 h3 (fun j hj=>h4 j (by omega))),hb.os.trans HOS.out.1,hb.tape.trans HOS.out.2.1,hb.output.trans HOS.out.2.2,HF1.out,HDN1.out,by have:=HW1.out;omega,?_⟩
    ·rcases HK1.out x hx with h | ⟨j,hj,h⟩ | h
     ·exact .inl h
     ·exact .inr (.inl ⟨j,by omega,h⟩)
     ·exact .inr (.inr h)
    ·rw [HOo.out]
     show (zao s G mv k d1).next _=_
     unfold zao;rw [if_neg hno];rfl
   have HOL:Hid (zbG d1 G k mv↔(DR.wiped=false∧b0.stamp<mv.seq)):=by
    unfold zbG;rw [← HRR.out,← HB0.out,← HDR.out];exact Iff.rfl
   cases hw:DR.wiped with
   | true=>
    have HOD:Hid (¬ zbG d1 G k mv):=fun h=>by
     have:=(HOL.out.1 h).1
     rw [hw] at this;cases this
    rw [hw] at v0;clear hw
    go_quiet (fail)
    have HB5:Below wr.heap.size wr (W4.drewN nq):=⟨HT4.out.bel.os,HT4.out.bel.tape,HT4.out.bel.output,HT4.out.bel.size,HT4.out.bel.block⟩;obtain ⟨W5,hW5⟩:∃ x,x=W4.drewN nq:=⟨_,rfl⟩;rw [← hW5] at HB5 ⊢;clear hW5;go_wp2
    go_roundw
    case rel=>exact HSK.out W5 HB5 HOD.out
    case measure=>simp [intOf];omega
   | false=>
    rw [hw] at v0;have HWF:Hid (DR.wiped=false):=hw;clear hw
    by_cases hst:b0.stamp<mv.seq
    case neg=>
     have HOD:Hid (¬ zbG d1 G k mv):=fun h=>hst (HOL.out.1 h).2;have d5:decide (mv.seq≤b0.stamp)=true:=decide_eq_true (by omega);clear hst
     go_quiet (fail)
     have HB5:Below wr.heap.size wr (W4.drewN nq):=⟨HT4.out.bel.os,HT4.out.bel.tape,HT4.out.bel.output,HT4.out.bel.size,HT4.out.bel.block⟩;obtain ⟨W5,hW5⟩:∃ x,x=W4.drewN nq:=⟨_,rfl⟩;rw [← hW5] at HB5 ⊢;clear hW5;go_wp2
     go_roundw
     case rel=>exact HSK.out W5 HB5 HOD.out
     case measure=>simp [intOf];omega
    case pos=>
     have HOD:Hid (zbG d1 G k mv):=HOL.out.2 ⟨HWF.out,hst⟩;have d5:decide (mv.seq≤b0.stamp)=false:=decide_eq_false (by omega);clear hst HSK
     go_quiet (fail)
     have hb4:Below wr.heap.size wr (W4.drewN nq):=⟨HT4.out.bel.os,HT4.out.bel.tape,HT4.out.bel.output,HT4.out.bel.size,HT4.out.bel.block⟩;have w0:(W4.drewN nq).cell? ⟨wr.heap.size,1,none⟩=some (.slice (some ⟨gb,0,none⟩) DR.blocks.1 cap9):=v1;have w5_:(W4.drewN nq).cell? ⟨w.heap.size+1,0,none⟩=some (.int .i64 (s 0)):=v5;have w6_:(W4.drewN nq).cell? ⟨gv,k,none⟩=some (ee k):=v6;have w3_:(W4.drewN nq).cell? ⟨w.heap.size,5,none⟩=some (.int .i64 (R:Int)):=v3;have w7_:(W4.drewN nq).cell? ⟨gb,R*2+1,none⟩=some (.slice ao b0.bytes.1 ca):=v7;obtain ⟨Wb,hWb⟩:∃ x,x=W4.drewN nq:=⟨_,rfl⟩;rw [← hWb] at hb4 w0 w5_ w6_ w3_ w7_ ⊢;clear hWb v0 v1 v2 v3 v4 v5 v6 v7 d5;have HBb:Hid (Below wr.heap.size wr Wb):=hb4;obtain ⟨gk0,ck0,hek,hgk1,hgk2⟩:=zeh (HOE.out.each k (by omega)) (by decide);have hoc:∀ j,j<n→j≠k→(ee j).ownBlock≠some gk0:=fun j hj hne h=>HOE.out.apart.2 j k (by omega) (by omega) hne gk0 h (by rw [hek];rfl)
     have hgB:gk0≠B:=by have:=HT0.out.b2.lt;omega
     have hgKK:gk0∉K:=fun h=>by have:=HKl.out gk0 h;have:=HT0.out.b2.lt;omega
     have hgw0:Wb.heap[gk0]?=W2.heap[gk0]?:=(HBb.out.block gk0 (by have:=HZ1.out;omega)).trans (HH1.out gk0 hgk2 hgB hgKK (fun j hj=>hoc j (by omega) (by omega)))
     have HRW:Hid (Rd Wb Wb.heap.size (.slice (some ⟨gk0,0,none⟩) 4 ck0) 4 (encN D (fun i=>mulN F (mv.delta.2 i)) k)):=by
      have h0:=HOE.out.each k (by omega);rw [hek] at h0
      exact (h0.kept (w':=Wb) (fun g hg=>by
       simp [Value.ownBlock] at hg
       subst hg
       exact hgw0)).rd.mono (by have:=HBb.out.size;have:=HZ1.out;omega)
     have HRB:Hid (Rd Wb Wb.heap.size (.slice ao 4 ca) 4 b0.bytes.2∧∀ i,b0.bytes.2 i<256):=by
      obtain ⟨xo,xc,eb,rb,-⟩:=za6 HWAS.out
      have e1:(Value.slice ao b0.bytes.1 ca)=.slice xo b0.bytes.1 xc:=by
       have:=congrArg (fun l=>l[1]?) eb
       simpa using this
      rw [← e1] at rb;have h4:=HF1.out.four k hlt;rw [← HRR.out,← HB0.out] at h4;have r:=(zdF rb).1;rw [h4] at r;exact ⟨(r.below HBb.out (Nat.le_refl _)).mono HBb.out.size,(zdF rb).2⟩
     have hb4_:b0.bytes.1=4:=by
      have h4:=HF1.out.four k hlt;rw [← HRR.out,← HB0.out] at h4;exact h4
     rw [hek] at w6_;rw [hb4_] at w7_
     have HMV:Hid (∀ t,movN s G k b0 mv t=encN D (fun i=>mulN F (mv.delta.2 i)) k t ^^^ b0.bytes.2 t):=fun t=>by
      unfold movN;rw [if_neg (by omega),HED.out,← HFF.out,zjP HB8.out.2 hF256,Nat.xor_comm]
     have HMF:Hid (∀ t,movN s G k b0 mv t<256):=zis HB8.out.1 HB8.out.2 HRB.out.2;have CAd:=zgW (.slice (some ⟨gk0,0,none⟩) 4 ck0) (.slice ao 4 ca) 4 (encN D (fun i=>mulN F (mv.delta.2 i)) k) b0.bytes.2 (movN s G k b0 mv) Wb.heap.size Wb.heap.size Wb HRW.out HRB.out.1 (Nat.le_refl _) (Nat.le_refl _) (fun i=>zdC (fun i=>zb4 hF256) k i) HRB.out.2 (fun i _=>HMV.out i) (by decide);clear hoc hgB hgKK hek hb4 hgw0 hb4_ hgk1 hgk2
     go_wp2_with fail
     refine CAd.mono ?_;rintro e W5 ⟨va,rfl,OA,bA⟩;obtain ⟨gk,ck,hva,hgk1,hgk2⟩:=zeh OA (by decide);subst hva;have HB5:Hid (Below wr.heap.size wr W5):=HBb.out.trans (bA.mono HBb.out.size);have HOW0:Hid (Own W5 Wb.heap.size W5.heap.size (.slice (some ⟨gk,0,none⟩) 4 ck) 4 (movN s G k b0 mv)):=OA;have hwb:=HBb.out.size;have HGK:Hid (gk≠B∧gk∉K1∧wr.heap.size≤gk∧gk<W5.heap.size):=⟨by have:=HS1.out.lt;omega,fun h=>by have:=HS1.out.Klt gk h;omega,by omega,hgk2⟩;clear CAd OA bA w0 w5_ w6_ w3_ w7_ hgk1 hgk2 hwb;have CR:=zi6 B d1 K1 W5 (HS1.out.below HB5.out) HDN1.out (by have:=HF1.out.low;have:=HW1.out;omega)
     go_wp2_with fail
     refine CR.mono ?_;rintro e w5 (⟨hfl,rfl,⟨K5,X5,s5⟩,C5⟩ | ⟨hfl,rfl,X5,C5⟩)
     ·have HCW:Hid (ChgL (B::K) w w5):=(HCH.out.trans (ChgL.of_below HB5.out)).trans (C5.mono (fun b hb=>by simp at hb;simp [hb]))
      have HE:Hid (zcj s G n mv d=.cut d1):=HOo.out.trans (by
       show (zao s G mv k d1).next _=_
       unfold zao rawO;rw [if_pos HOD.out,if_pos hfl]
       rfl)
      have HX5:Hid (SpB w5 B (cutW d1) K5∧∀ b,b∈K5→b∈K1):=⟨X5,s5⟩;clear CR hfl X5 s5 C5;go_wp2;go_ret;rw [HE.out]
      exact ⟨rfl,K5,HX5.out.1,fun b hb=>by
       rcases HK1.out b (HX5.out.2 b hb) with h | ⟨j,hj,h⟩ | h
       ·exact .inl h
       ·have:=((HOE.out.each j (by omega)).1.lt b h).1
        have:=HT0.out.b2.lt;exact .inr (by omega)
       ·have:=HT2.out.bel.size
        exact .inr (by omega),HCW.out⟩
     ·have HFL:Hid (¬ (d1.stop≠-1∧d1.stop≤d1.writes)):=hfl
      obtain ⟨cs5,B5,O5⟩:=X5;have O5d:EncO w5.drew B { d1 with writes:=d1.writes+1 } cs5 K1:=O5.chg (ChgL.refl [B] _).drew;have hgw:w5.drew.heap[gk]?=W5.heap[gk]?:=C5.block gk HGK.out.2.2.2 (by simp;exact HGK.out.1)
      have ow1:=HOW0.out.kept (w':=w5.drew) (fun g hg=>by
       simp [Value.ownBlock] at hg
       subst hg
       exact hgw)
      have HOW:Own w5.drew 0 w5.drew.heap.size (.slice (some ⟨gk,0,none⟩) 4 ck) 4 (movN s G k b0 mv):=by
       refine ⟨⟨ow1.1.1,ow1.1.2.elim Or.inl (fun ⟨g,cap,cur,hv,hg,r⟩=>Or.inr ⟨g,cap,cur,hv,Nat.zero_le _,r⟩)⟩,fun x hx=>?_⟩
       simp [Value.ownBlock] at hx
       subst hx;exact (ow1.1.lt _ rfl).2
      have BL:=zfX (R:=R) O5d HF1.out.grp (by show k<(d1.groups.2 G).1;rw [HF1.out.num];exact hlt) (by show R<(((d1.groups.2 G).2 k)).blocks.1;rw [← HDR.out];exact hR1) HGK.out.2.1 HGK.out.1 HSQ.out HOW HMF.out;obtain ⟨h1,c1',hg,cap',hb,cap9',nine,yG,yk,hbK,⟨t0,t1',z0,z1⟩,f0,f1,K',hO',hK'⟩:=BL
      replace yG:w5.drew.cell? ⟨h1,G,none⟩=some (.slice (some ⟨hg,0,none⟩) n cap'):=by rw [← HF1.out.num];exact yG
      replace yk:w5.drew.cell? ⟨hg,k*2+1,none⟩=some (.slice (some ⟨hb,0,none⟩) DR.blocks.1 cap9'):=by rw [HDR.out];exact yk
      have y9:w5.drew.cell? ⟨B,9,none⟩=some (.slice (some ⟨h1,0,none⟩) d1.groups.1 c1'):=by
       show w5.cell? ⟨B,9,none⟩=_
       rw [B5.cell 9,List.getElem?_toArray];exact nine
      have hq5:w5.drew.heap[w.heap.size]?=W2.heap[w.heap.size]?:=by
       obtain ⟨a,b,c,e⟩:=HKEEP.out _ (.inl rfl);exact (C5.block _ (by have:=HB5.out.size;have:=HZ1.out;omega) (by simp;exact b)).trans ((HB5.out.block _ (by have:=HZ1.out;omega)).trans (HKC.out _ (.inl rfl)))
      have qb:Box w5.drew w.heap.size #[.int .i64 mv.kind,.int .i64 mv.seq,.string mv.name,.int .i64 mv.length,.int .i64 mv.group,.int .i64 mv.row,.slice ao6 mv.rows.1 cap6,.slice ao7 mv.data.1 cap7,.slice ao8 mv.delta.1 cap8] 43:=hq5.trans HT2.out.b1
      have y5:w5.drew.cell? ⟨w.heap.size,5,none⟩=some (.int .i64 (R:Int)):=by rw [← HMR.out];exact qb.cell 5
      have y1:w5.drew.cell? ⟨w.heap.size,1,none⟩=some (.int .i64 mv.seq):=qb.cell 1;replace z0:w5.cell? ⟨hb,R*2,none⟩=some t0:=z0;replace z1:w5.cell? ⟨hb,R*2+1,none⟩=some t1':=z1;replace f0:w5.frozen? ⟨hb,R*2,none⟩=false:=f0;replace f1:w5.frozen? ⟨hb,R*2+1,none⟩=false:=f1;have HZO:Hid (EncO (stN w5.drew hb (R*2) [.int .i64 mv.seq,.slice (some ⟨gk,0,none⟩) 4 ck]) B (zch { d1 with writes:=d1.writes+1 } G k R ⟨mv.seq,(4,movN s G k b0 mv)⟩) cs5 K'∧∀ b,b∈K'→b∈K1∨b=gk):=⟨hO',hK'⟩;have HBX:Hid (Box w5 B cs5.toArray 38):=B5;have HNB:Hid (B∉K1):=O5d.ne;have HC5:Hid (ChgL [B] W5 w5):=C5;have HBK:Hid (hb∈K1):=hbK;clear CR hfl C5 B5 O5 O5d hgw ow1 HOW hO' hK' nine qb hq5 hbK
      go_upto_region 16 with fail
      refine zcy 18 (fun w'=>w'.cell? ⟨B,9,none⟩=some (.slice (some ⟨h1,0,none⟩) d1.groups.1 c1')∧w'.cell? ⟨h1,G,none⟩=some (.slice (some ⟨hg,0,none⟩) n cap')∧w'.cell? ⟨hg,k*2+1,none⟩=some (.slice (some ⟨hb,0,none⟩) DR.blocks.1 cap9')∧w'.cell? ⟨w.heap.size,5,none⟩=some (.int .i64 (R:Int))∧w'.cell? ⟨w.heap.size,1,none⟩=some (.int .i64 mv.seq)) zhu ⟨y9,yG,yk,y5,y1⟩ (fun hHeld=>?_);refine zam (i:=0) (oi:=_) (v:=?_) 20 rfl (by kernel_rfl) (fun _ _ _ h=>h) (Or.inl ⟨by kernel_rfl,?_⟩) (by assumption) ?_
      rotate_left
      ·intro w' hSw
       try dsimp only at hSw
       obtain ⟨p0,p1,p2,p3,p4⟩:=hSw;go_simp
       try with_reducible rfl
      try simp only [Act.put,SL]
      refine zam (i:=1) (oi:=_) (v:=?_) 20 rfl (by kernel_rfl) (fun _ _ _ h=>h) (Or.inl ⟨by kernel_rfl,?_⟩) (by assumption) ?_
      rotate_left
      ·intro w' hSw
       try dsimp only at hSw
       obtain ⟨p0,p1,p2,p3,p4⟩:=hSw;go_simp
       try with_reducible rfl
      try simp only [Act.put,SL]
      refine zam (i:=2) (oi:=_) (v:=?_) 20 rfl (by kernel_rfl) (fun _ _ _ h=>h) (Or.inl ⟨by kernel_rfl,?_⟩) (by assumption) ?_
      rotate_left
      ·intro w' hSw
       try dsimp only at hSw
       obtain ⟨p0,p1,p2,p3,p4⟩:=hSw;go_simp
       try with_reducible rfl
      try simp only [Act.put,SL]
      refine zam (i:=3) (oi:=_) (v:=?_) 20 rfl (by kernel_rfl) (fun _ _ _ h=>h) (Or.inl ⟨by kernel_rfl,?_⟩) (by assumption) ?_
      rotate_left
      ·intro w' hSw
       try dsimp only at hSw
       obtain ⟨p0,p1,p2,p3,p4⟩:=hSw;go_simp
       try with_reducible rfl
      try simp only [Act.put,SL]
      refine zam (i:=4) (oi:=_) (v:=?_) 20 rfl (by kernel_rfl) (fun _ _ _ h=>h) (Or.inl ⟨by kernel_rfl,?_⟩) (by assumption) ?_
      rotate_left
      ·intro w' hSw
       try dsimp only at hSw
       obtain ⟨p0,p1,p2,p3,p4⟩:=hSw;go_simp
       try with_reducible rfl
      try simp only [Act.put,SL]
      refine zam (i:=5) (oi:=_) (v:=?_) 20 rfl (by kernel_rfl) (fun _ _ _ h=>h) (Or.inl ⟨by kernel_rfl,?_⟩) (by assumption) ?_
      rotate_left
      ·intro w' hSw
       try dsimp only at hSw
       obtain ⟨p0,p1,p2,p3,p4⟩:=hSw;go_simp
       try with_reducible rfl
      try simp only [Act.put,SL]
      refine zam (i:=6) (oi:=_) (v:=?_) 20 rfl (by kernel_rfl) (fun _ _ _ h=>h) (Or.inl ⟨by kernel_rfl,?_⟩) (by assumption) ?_
      rotate_left
      ·intro w' hSw
       try dsimp only at hSw
       obtain ⟨p0,p1,p2,p3,p4⟩:=hSw;go_simp
       try with_reducible rfl
      try simp only [Act.put,SL]
      refine zam (i:=7) (oi:=_) (v:=?_) 20 rfl (by kernel_rfl) (fun _ _ _ h=>h) (Or.inl ⟨by kernel_rfl,?_⟩) (by assumption) ?_
      rotate_left
      ·intro w' hSw
       try dsimp only at hSw
       obtain ⟨p0,p1,p2,p3,p4⟩:=hSw;go_simp
       try with_reducible rfl
      try simp only [Act.put,SL]
      refine zam (i:=8) (oi:=_) (v:=?_) 20 rfl (by kernel_rfl) (fun _ _ _ h=>h) (Or.inl ⟨by kernel_rfl,?_⟩) (by assumption) ?_
      rotate_left
      ·intro w' hSw
       try dsimp only at hSw
       obtain ⟨p0,p1,p2,p3,p4⟩:=hSw;go_simp
       try with_reducible rfl
      try simp only [Act.put,SL]
      refine zam (i:=9) (oi:=_) (v:=?_) 20 rfl (by kernel_rfl) (fun _ _ _ h=>h) (Or.inl ⟨by kernel_rfl,?_⟩) (by assumption) ?_
      rotate_left
      ·intro w' hSw
       try dsimp only at hSw
       obtain ⟨p0,p1,p2,p3,p4⟩:=hSw;go_simp
       try with_reducible rfl
      try simp only [Act.put,SL]
      refine zam (i:=10) (oi:=_) (v:=?_) 20 rfl (by kernel_rfl) (fun _ _ _ h=>h) (Or.inl ⟨by kernel_rfl,?_⟩) (by assumption) ?_
      rotate_left
      ·intro w' hSw
       try dsimp only at hSw
       obtain ⟨p0,p1,p2,p3,p4⟩:=hSw;go_simp
       try with_reducible rfl
      try simp only [Act.put,SL]
      refine zam (i:=11) (oi:=_) (v:=?_) 20 rfl (by kernel_rfl) (fun _ _ _ h=>h) (Or.inl ⟨by kernel_rfl,?_⟩) (by assumption) ?_
      rotate_left
      ·intro w' hSw
       try dsimp only at hSw
       obtain ⟨p0,p1,p2,p3,p4⟩:=hSw;go_simp
       try with_reducible rfl
      try simp only [Act.put,SL]
      refine zam (i:=12) (oi:=_) (v:=?_) 20 rfl (by kernel_rfl) (fun _ _ _ h=>h) (Or.inl ⟨by kernel_rfl,?_⟩) (by assumption) ?_
      rotate_left
      ·intro w' hSw
       try dsimp only at hSw
       obtain ⟨p0,p1,p2,p3,p4⟩:=hSw;go_simp
       try with_reducible rfl
      try simp only [Act.put,SL]
      refine zam (i:=13) (oi:=_) (v:=?_) 20 rfl (by kernel_rfl) (fun _ _ _ h=>h) (Or.inl ⟨by kernel_rfl,?_⟩) (by assumption) ?_
      rotate_left
      ·intro w' hSw
       try dsimp only at hSw
       obtain ⟨p0,p1,p2,p3,p4⟩:=hSw;go_simp
       try with_reducible rfl
      try simp only [Act.put,SL]
      refine zam (i:=14) (oi:=_) (v:=?_) 20 rfl (by kernel_rfl) (fun _ _ _ h=>h) (Or.inl ⟨by kernel_rfl,?_⟩) (by assumption) ?_
      rotate_left
      ·intro w' hSw
       try dsimp only at hSw
       obtain ⟨p0,p1,p2,p3,p4⟩:=hSw;go_simp
       try with_reducible rfl
      try simp only [Act.put,SL]
      refine zam (i:=15) (oi:=_) (v:=?_) 20 rfl (by kernel_rfl) (fun _ _ _ h=>h) (Or.inl ⟨by kernel_rfl,?_⟩) (by assumption) ?_
      rotate_left
      ·intro w' hSw
       try dsimp only at hSw
       obtain ⟨p0,p1,p2,p3,p4⟩:=hSw;go_simp
       try with_reducible rfl
      try simp only [Act.put,SL]
      refine zam (i:=16) (oi:=_) (v:=?_) 20 rfl (by kernel_rfl) (fun _ _ _ h=>h) (Or.inl ⟨by kernel_rfl,?_⟩) (by assumption) ?_
      rotate_left
      ·intro w' hSw
       try dsimp only at hSw
       obtain ⟨p0,p1,p2,p3,p4⟩:=hSw;go_simp
       try with_reducible rfl
      try simp only [Act.put,SL]
      refine zam (i:=17) (oi:=_) (v:=?_) 20 rfl (by kernel_rfl) (fun _ _ _ h=>h) (Or.inl ⟨by kernel_rfl,?_⟩) (by assumption) ?_
      rotate_left
      ·intro w' hSw
       try dsimp only at hSw
       obtain ⟨p0,p1,p2,p3,p4⟩:=hSw;go_simp
       try with_reducible rfl
      try simp only [Act.put,SL]
      refine zfV (i:=18) (o:=_) rfl (by kernel_rfl) (by kernel_rfl) (fun KC hKC=>?_);rw [if_pos (by kernel_rfl)];go_simp;refine hKC _ _ ?_;clear hKC KC
      try simp only [Act.put,SL]
      refine zb6 (by kernel_rfl) ?_ _;clear hHeld y9 yG yk y5 y1 z0 z1 f0 f1;go_wp2
      go_roundw
      case rel=>
       have hz1:=HZ1.out;have hz5:=HB5.out.size;have hzc:=HC5.out.size;obtain ⟨WZ,hWZ⟩:∃ x,x=stN w5.drew hb (R*2) [.int .i64 mv.seq,.slice (some ⟨gk,0,none⟩) 4 ck]:=⟨_,rfl⟩;have hzo:=HZO.out;rw [← hWZ] at hzo
       have zs:WZ.heap.size=w5.heap.size:=by rw [hWZ,zbj];rfl
       have zr:=za1 hb [.int .i64 mv.seq,.slice (some ⟨gk,0,none⟩) 4 ck] w5.drew (R*2);rw [← hWZ] at zr
       have zh:∀ x,x≠hb→WZ.heap[x]?=w5.heap[x]?:=fun x hx=>by
        rw [hWZ];exact zbo hb x hx _ _ _
       have REL:∃ (k' m':Nat) (d1':WorldD) (K1':List Nat),k'+m'=n∧Value.int .i64 ((k:Int)+1)=.int .i64 k'∧SpB WZ B d1' K1'∧(∀ x,x∈K1'→x∈K∨(∃ j,j<k'∧(ee j).ownBlock=some x)∨W2.heap.size≤x)∧W2.heap.size≤WZ.heap.size∧(∀ x,x<W2.heap.size→x≠B→x∉K→(∀ j,j<k'→(ee j).ownBlock≠some x)→WZ.heap[x]?=W2.heap[x]?)∧WZ.os=W2.os∧WZ.tape=W2.tape∧WZ.output=W2.output∧FitR s n G mv d1'∧d1'.down=false∧d1'.writes+(m':Int)≤9223372036854775807∧runO (zao s G mv) n 0 d=runO (zao s G mv) m' k' d1':=by
        refine ⟨k+1,m,{ zch d1 G k R (movB s G k b0 mv) with writes:=d1.writes+1 },K',by omega,by go_num,⟨cs5,?_,hzo.1⟩,fun x hx=>?_,by omega,fun x h1 h2 h3 h4=>?_,zr.1.trans ((HC5.out.os.trans HB5.out.os).trans HOS.out.1),zr.2.1.trans ((HC5.out.tape.trans HB5.out.tape).trans HOS.out.2.1),zr.2.2.trans ((HC5.out.output.trans HB5.out.output).trans HOS.out.2.2),?_,HDN1.out,?_,?_⟩
        ·exact (zh B (fun h=>HNB.out (by rw [h];exact HBK.out))).trans HBX.out
        ·rcases hzo.2 x hx with h | h
         ·rcases HK1.out x h with h | ⟨j,hj,h⟩ | h
          ·exact .inl h
          ·exact .inr (.inl ⟨j,by omega,h⟩)
          ·exact .inr (.inr h)
         ·exact .inr (.inr (by rw [h];have:=HGK.out.2.2.1;omega))
        ·have hxb:x≠hb:=fun h=>by
          rcases HK1.out hb HBK.out with h' | ⟨j,hj,h'⟩ | h'
          ·exact h3 (by rw [h];exact h')
          ·exact h4 j (by omega) (by rw [h];exact h')
          ·omega
         exact (zh x hxb).trans ((HC5.out.block x (by omega) (by simp;exact h2)).trans ((HB5.out.block x (by omega)).trans (HH1.out x h1 h2 h3 (fun j hj=>h4 j (by omega)))))
        ·rw [HRR.out]
         exact HF1.out.write k _ rfl
        ·show d1.writes+1+(m:Int)≤_
         have:=HW1.out;omega
        ·rw [HOo.out]
         show (zao s G mv k d1).next _=_
         have e:zao s G mv k d1=.done 0 { zch d1 G k R (movB s G k b0 mv) with writes:=d1.writes+1 }:=by
          unfold zao rawO
          rw [if_pos HOD.out,if_neg HFL.out,HB0.out,HRR.out]<;>rfl
         rw [e];rfl
       rw [hWZ] at REL;exact REL
      case measure=>simp [intOf];omega
theorem Three.chgK3R {w wc w':World} {c1 c2 c3:Array Value} {t1 t2 t3:TypeId} {K:List Nat} (h:Three w wc c1 c2 c3 t1 t2 t3) (hc:ChgL K wc w') (hK:∀ b,b∈K→w.heap.size+1+1<b):Three w w' c1 c2 c3 t1 t2 t3:=
 ⟨h.b1.chgl hc (fun hb=>by have:=hK _ hb;omega),h.b2.chgl hc (fun hb=>by have:=hK _ hb;omega),h.b3.chgl hc (fun hb=>by have:=hK _ hb;omega),h.bel.trans (hc.bel (fun b hb=>by have:=hK b hb;omega) h.bel.size)⟩
theorem zfY (s:Nat→Int) (n G:Nat) (mv:RecD) (hM:MvOk s n G mv) (h7:mv.data.1=4*(s 2).toNat) (h8:mv.delta.1=4*(s 2).toNat) (ao6 ao7 ao8:Option Addr) (cap6 cap7 cap8 hi:Nat) (hc7:mv.data.1≤cap7) (hc8:mv.delta.1≤cap8) (B:Nat) (d:WorldD) (K:List Nat) (w:World) (hX:SpB w B d K) (hf:FitR s n G mv d) (hw:d.writes+(n:Int)≤9223372036854775807) (hdn:d.down=false) (hr:zae.rd w hi mv [.int .i64 mv.kind,.int .i64 mv.seq,.string mv.name,.int .i64 mv.length,.int .i64 mv.group,.int .i64 mv.row,.slice ao6 mv.rows.1 cap6,.slice ao7 mv.data.1 cap7,.slice ao8 mv.delta.1 cap8]) (hiB:hi≤B) (hiK:∀ b,b∈K→hi≤b) (hhi:hi≤w.heap.size) (hsq:-9223372036854775808≤mv.seq∧mv.seq≤9223372036854775807) (hd8:∀ i,mv.data.2 i<256) (hl8:∀ i,mv.delta.2 i<256) :
 Calls Tryz.prog 24 #[.pointer (some ⟨B,0,none⟩),.int .i64 (G:Int),.agg #[.int .i64 mv.kind,.int .i64 mv.seq,.string mv.name,.int .i64 mv.length,.int .i64 mv.group,.int .i64 mv.row,.slice ao6 mv.rows.1 cap6,.slice ao7 mv.data.1 cap7,.slice ao8 mv.delta.1 cap8]] w (SpP (zcj s G n mv d) B w K):=by
 by_cases c:(G:Int)<s 0
 ·exact ziz s n G mv hM h7 h8 ao6 ao7 ao8 cap6 cap7 cap8 hi hc7 hc8 B d K w hX hf hw hdn hr hiB hiK hhi hsq hd8 hl8 c
 ·exact zjY s n G mv hM h7 h8 ao6 ao7 ao8 cap6 cap7 cap8 hi hc7 hc8 B d K w hX hf hw hdn hr hiB hiK hhi hsq hd8 hl8 (by omega)
set_option maxRecDepth 20000 in
theorem ziA (d:WorldD) (g:Int) (r:RecD) (cs csr:List Value) (hi:Nat) (w:World) (h:zab.rd w hi d cs) (hr:zae.rd w hi r csr) (hhi:hi≤w.heap.size) (hsz:zaW d≤1048576) (hsr:zaY r≤1048576) (hcp:∀ (j:Nat),j=7∨j=8→∀ (ao:Option Addr) (n cap:Nat),csr[j]?=some (Value.slice ao n cap)→n≤cap) :
 Calls Tryz.prog 6 #[.agg cs.toArray,.int .i64 g,.agg csr.toArray] w (zgk (RmAns d g r) w):=by
 have h':=h;obtain ⟨ao1,cap1,ao2,cap2,ao3,cap3,rfl,g1,g2,g3,k0,k4,k5⟩:=zaK h';obtain ⟨o6,k6,o7,k7,o8,k8,rfl,-⟩:=za5 hr;have HRD:=hid h;have HRR:=hid hr;have HSZ:=hid hsz;have HSR:=hid hsr;have HCP:Hid (r.data.1≤k7∧r.delta.1≤k8):=⟨hcp 7 (.inl rfl) o7 r.data.1 k7 rfl,hcp 8 (.inr rfl) o8 r.delta.1 k8 rfl⟩;clear hcp;have hmf:∀ (fn:Fn) (first cap:Array Value) (w:World),(Instr.makeFunc fn first cap).run Tryz.prog w=.ok (.func fn first cap) w:=fun _ _ _ _=>rfl;clear h h' hr hsz hsr g1 g2 g3 k0 k4 k5;have T0:=zbD w (rwW d ao1 cap1 ao2 cap2 ao3 cap3).toArray (rwR r o6 k6 o7 k7 o8 k8).toArray rwZ.toArray 38 43 40
 go_enter Tryz.func6,Tryz.ntmps6
 go_wp2_with (refine zaj 38 (.tmp 2) rfl rfl (w.heap.size) rfl (T0.b1) Tryz.underlying38 zbd rfl ?_)
 refine (ziy d g 0 _ hi _ (zab.rd_below HRD.out T0.bel hhi) (Nat.le_trans hhi T0.bel.size) HSZ.out).mono ?_;rintro e w1 ⟨x,rfl,hx,b1⟩;have HT1:=hid (T0.call b1);have HX:=hid hx;have z1:w.heap.size+1+1<w1.heap.size:=HT1.out.b3.lt;clear b1 T0 hx
 by_cases hx0:x=0
 case neg=>
  have hne:(x != 0)=true:=by simp [hx0]
  go_wp2_with (refine zaF 40 _ _ rfl rfl (w.heap.size+1+1) rfl (cs:=(.int .i64 x::rwY)) rfl (HT1.out.b3) zau rfl rfl (zcc _ (zc1 HX.out) w) ?_;intro w9 X9 C9 z9)
  refine zbh Tryz.results6 rfl X9 Tryz.underlying40 zau rfl rfl ?_;exact zbP (by omega) (zc1 HX.out) HT1.out.bel C9 (.inl ⟨x,hx0,HX.out,rfl⟩)
 subst hx0;have HOK:Hid (OkWorld d):=zhx (zei HX.out).1;have x_0:w1.cell? ⟨w.heap.size,0,none⟩=some (.int .i64 (d.shape 0)):=HT1.out.b1.cell 0;have x_1:w1.cell? ⟨w.heap.size,1,none⟩=some (.int .i64 (d.shape 1)):=HT1.out.b1.cell 1;have x_2:w1.cell? ⟨w.heap.size,2,none⟩=some (.int .i64 (d.shape 2)):=HT1.out.b1.cell 2;have x_3:w1.cell? ⟨w.heap.size,3,none⟩=some (.int .i64 (d.shape 3)):=HT1.out.b1.cell 3;have x_4:w1.cell? ⟨w.heap.size,4,none⟩=some (.int .i64 (d.shape 4)):=HT1.out.b1.cell 4;have x_5:w1.cell? ⟨w.heap.size,5,none⟩=some (.int .i64 (d.shape 5)):=HT1.out.b1.cell 5;have x_6:w1.cell? ⟨w.heap.size,6,none⟩=some (.int .i64 (d.shape 6)):=HT1.out.b1.cell 6;have x_7:w1.cell? ⟨w.heap.size,7,none⟩=some (.int .i64 (d.shape 7)):=HT1.out.b1.cell 7;have x_8:w1.cell? ⟨w.heap.size,8,none⟩=some (.int .i64 (d.shape 8)):=HT1.out.b1.cell 8;have CRF:=ze9 d.shape r (rwR r o6 k6 o7 k7 o8 k8) hi w1 (zae.rd_below HRR.out HT1.out.bel hhi) (Nat.le_trans hhi HT1.out.bel.size) (zi7 HSR.out);unfold zak at CRF
 go_wp2_with (refine zaj 43 (.tmp 5) rfl rfl (w.heap.size+1) rfl (HT1.out.b2) Tryz.underlying43 zc0 rfl ?_)
 refine CRF.mono ?_;rintro e wA ⟨y,rfl,hy,bA⟩;have HTA:=hid (HT1.out.call bA);have zA:w1.heap.size≤wA.heap.size:=bA.size;have HY:=hid hy;clear bA CRF hy x_0 x_1 x_2 x_3 x_4 x_5 x_6 x_7 x_8
 by_cases hy0:y=0
 case neg=>
  have hne:(y != 0)=true:=by simp [hy0]
  have HNF:Hid (¬ zet d.shape g r):=fun h=>hy0 (HY.out.one h.1);clear hy0
  go_wp2_with (refine zaF 40 _ _ rfl rfl (w.heap.size+1+1) rfl (cs:=(.int .i64 1::rwY)) rfl (HTA.out.b3) zau rfl rfl (zcc _ (by decide) w) ?_;intro w9 X9 C9 z9)
  refine zbh Tryz.results6 rfl X9 Tryz.underlying40 zau rfl rfl ?_;exact zbP (by omega) (by decide) HTA.out.bel C9 (.inr ⟨HX.out,.inl ⟨HNF.out,rfl⟩⟩)
 subst hy0;have k0:wA.cell? ⟨w.heap.size+1,0,none⟩=some (.int .i64 r.kind):=HTA.out.b2.cell 0
 by_cases hk:r.kind=2
 case neg=>
  have hne:(r.kind != 2)=true:=by simp [hk]
  have HNF:Hid (¬ zet d.shape g r):=fun h=>hk h.2.1;clear hk
  go_wp2_with (refine zaF 40 _ _ rfl rfl (w.heap.size+1+1) rfl (cs:=(.int .i64 1::rwY)) rfl (HTA.out.b3) zau rfl rfl (zcc _ (by decide) w) ?_;intro w9 X9 C9 z9)
  refine zbh Tryz.results6 rfl X9 Tryz.underlying40 zau rfl rfl ?_;exact zbP (by omega) (by decide) HTA.out.bel C9 (.inr ⟨HX.out,.inl ⟨HNF.out,rfl⟩⟩)
 have HKD:=hid hk
 have hke:(r.kind != 2)=false:=by simp [hk]
 clear hk;have x_0:wA.cell? ⟨w.heap.size,0,none⟩=some (.int .i64 (d.shape 0)):=HTA.out.b1.cell 0;have x_1:wA.cell? ⟨w.heap.size,1,none⟩=some (.int .i64 (d.shape 1)):=HTA.out.b1.cell 1;have x_2:wA.cell? ⟨w.heap.size,2,none⟩=some (.int .i64 (d.shape 2)):=HTA.out.b1.cell 2;have x_3:wA.cell? ⟨w.heap.size,3,none⟩=some (.int .i64 (d.shape 3)):=HTA.out.b1.cell 3;have x_4:wA.cell? ⟨w.heap.size,4,none⟩=some (.int .i64 (d.shape 4)):=HTA.out.b1.cell 4;have x_5:wA.cell? ⟨w.heap.size,5,none⟩=some (.int .i64 (d.shape 5)):=HTA.out.b1.cell 5;have x_6:wA.cell? ⟨w.heap.size,6,none⟩=some (.int .i64 (d.shape 6)):=HTA.out.b1.cell 6;have x_7:wA.cell? ⟨w.heap.size,7,none⟩=some (.int .i64 (d.shape 7)):=HTA.out.b1.cell 7;have x_8:wA.cell? ⟨w.heap.size,8,none⟩=some (.int .i64 (d.shape 8)):=HTA.out.b1.cell 8;have z_0:wA.cell? ⟨w.heap.size+1,0,none⟩=some (.int .i64 r.kind):=HTA.out.b2.cell 0;have z_1:wA.cell? ⟨w.heap.size+1,1,none⟩=some (.int .i64 r.seq):=HTA.out.b2.cell 1;have z_2:wA.cell? ⟨w.heap.size+1,2,none⟩=some (.string r.name):=HTA.out.b2.cell 2;have z_3:wA.cell? ⟨w.heap.size+1,3,none⟩=some (.int .i64 r.length):=HTA.out.b2.cell 3;have z_4:wA.cell? ⟨w.heap.size+1,4,none⟩=some (.int .i64 r.group):=HTA.out.b2.cell 4;have z_5:wA.cell? ⟨w.heap.size+1,5,none⟩=some (.int .i64 r.row):=HTA.out.b2.cell 5;have z_6:wA.cell? ⟨w.heap.size+1,6,none⟩=some (.slice o6 r.rows.1 k6):=HTA.out.b2.cell 6;have z_7:wA.cell? ⟨w.heap.size+1,7,none⟩=some (.slice o7 r.data.1 k7):=HTA.out.b2.cell 7;have z_8:wA.cell? ⟨w.heap.size+1,8,none⟩=some (.slice o8 r.delta.1 k8):=HTA.out.b2.cell 8
 by_cases c1:g<d.shape 0
 ·have d1:decide (g<d.shape 0)=true:=decide_eq_true c1
  by_cases c2:g=r.group
  case neg=>
   have d2:(g != r.group)=true:=by simp [c2]
   have HNF:Hid (¬ zet d.shape g r):=fun h=>c2 (h.2.2 c1);clear c1 c2
   go_wp2_with (refine zaF 40 _ _ rfl rfl (w.heap.size+1+1) rfl (cs:=(.int .i64 1::rwY)) rfl (HTA.out.b3) zau rfl rfl (zcc _ (by decide) w) ?_;intro w9 X9 C9 z9)
   refine zbh Tryz.results6 rfl X9 Tryz.underlying40 zau rfl rfl ?_;exact zbP (by omega) (by decide) HTA.out.bel C9 (.inr ⟨HX.out,.inl ⟨HNF.out,rfl⟩⟩)
  have d2:(g != r.group)=false:=by simp [c2]
  have HC2:=hid c2;clear c2;have HMV:Hid (zet d.shape g r):=⟨HY.out,HKD.out,fun _=>HC2.out⟩
  go_wp2_with (refine zaj 38 (.tmp 3) rfl rfl (w.heap.size) rfl (HTA.out.b1) Tryz.underlying38 zbd rfl ?_)
  refine (zhC _ d hi _ (zab.rd_below HRD.out HTA.out.bel hhi) (Nat.le_trans hhi HTA.out.bel.size) HSZ.out).mono ?_;rintro e w2 ⟨c2,rfl,o2,b2⟩;obtain ⟨p1,c1,p2,c2,p3,c3,K1,K2,K3,rfl,WO2⟩:=zfQ o2;have z2:wA.heap.size≤w2.heap.size:=b2.size
  go_upto_region 7 with (refine zbr 38 8 (.tmp 42) _ _ 15 rfl rfl rfl rfl rfl rfl rfl rfl zkv rfl rfl o2.one ?_)
  have bA:=bAl w2 (.cells (rwW d p1 c1 p2 c2 p3 c3).toArray 38);have X3:=zay w2 (rwW d p1 c1 p2 c2 p3 c3).toArray 38;obtain ⟨W3,hW3⟩:∃ x,x=w2.alloc (.cells (rwW d p1 c1 p2 c2 p3 c3).toArray 38):=⟨_,rfl⟩;rw [← hW3] at bA X3 ⊢;have T3:=(HTA.out.call b2).call bA;have WO:=WO2.below bA (Nat.le_refl _);have z3:w2.heap.size<W3.heap.size:=X3.lt;clear bA hW3 o2 b2 WO2;clear k0 x_0 x_1 x_2 x_3 x_4 x_5 x_6 x_7 x_8 z_0 z_1 z_2 z_3 z_4 z_5 z_6 z_7 z_8;obtain ⟨G,hgG,hMO,hFR,hWR,hDN,h7,h8⟩:=zi8 HX.out HMV.out;subst hgG;obtain ⟨fx6,fy6,fx7,fy7,fx8,fy8,fe,fr6,fr7,fr8,frest⟩:=za5 HRR.out;have hsq:=frest.2.1;have hin:∀ b,b∈K1++(K2++(K3++[]))→wA.heap.size≤b∧b<w2.heap.size:=fun b hb=>WO.inn b (by simpa using hb);have S3:SpB W3 w2.heap.size d (K1++(K2++(K3++[]))):=⟨_,X3,WO.encO (fun hm=>by have:=WO.inn _ hm;omega)⟩;have hza:=HTA.out.bel.size;have CS:=zfY d.shape (d.groups.2 G).1 G r hMO h7 h8 o6 o7 o8 k6 k7 k8 hi HCP.out.1 HCP.out.2 w2.heap.size d _ W3 S3 hFR hWR hDN (zae.rd_below HRR.out T3.bel hhi) (by omega) (fun b hb=>by have:=hin b hb;omega) (Nat.le_trans hhi T3.bel.size) hsq (zdF fr7).2 (zdF fr8).2;obtain ⟨oc,hoc⟩:∃ x,x=zcj d.shape G (d.groups.2 G).1 r d:=⟨_,rfl⟩;have HOC:=hid hoc;rw [← hoc] at CS;clear hoc S3 X3 WO hDN hMO hFR hWR h7 h8 fe fr6 fr7 fr8 frest hsq
  cases oc with
  | cut d2=>
   have HQ:Hid (RmAns d (G:Int) r ⟨9,cutW d2⟩):=.inr ⟨HX.out,.inr ⟨HMV.out,by
    show _=(zcj d.shape G (d.groups.2 G).1 r d).final
    rw [← HOC.out];rfl⟩⟩
   go_wp2_with (refine zaj 43 (.tmp 5) rfl rfl (w.heap.size+1) rfl (T3.b2) Tryz.underlying43 zc0 rfl ?_)
   refine CS.mono ?_;rintro e w5 ⟨rfl,K5,S5,s5,C5⟩;clear CS;obtain ⟨cs5,X5,O5⟩:=S5;obtain ⟨y0,y1,y2,y3,y4,y5,y6,y7,y8,yp0,yl0,yq0,yp1,yl1,yq1,yp2,yl2,yq2,y9,y10,yb,rfl⟩:=zb1 O5.own;have z5:=C5.size
   have T5:=T3.chgK3R C5 (fun b hb=>by
    rcases List.mem_cons.1 hb with h | h
    ·omega
    ·have:=hin b h;omega)
   have OO:OwnT zab w5 wA.heap.size w5.heap.size (cutW d2) (rwV y0 y1 y2 y3 y4 y5 y6 y7 y8 yp0 yl0 yq0 yp1 yl1 yq1 yp2 yl2 yq2 y9 y10 yb):=⟨K5,O5.own,O5.nd,fun b hb=>⟨by
    rcases s5 b hb with h | h
    ·exact (hin b h).1
    ·omega,zab.own_lt O5.own b hb⟩⟩
   have CL:=zej y0 y1 y2 y3 y4 y5 y6 y7 y8 yp0 yl0 yq0 yp1 yl1 yq1 yp2 yl2 yq2 y9 y10 yb false w5 OO.one;clear T3 C5 s5 O5
   go_wp2_with (first | (refine zaj 38 (.tmp 8) rfl rfl (w2.heap.size) rfl (X5) Tryz.underlying38 zbd rfl ?_) | (go_at_call 25;refine CL.mono ?_;rintro e w6 ⟨rfl,b6⟩;have T6:=T5.call b6;have O6:=OO.below b6 (Nat.le_refl _)) | (refine zaF 40 _ _ rfl rfl (w.heap.size+1+1) rfl (cs:=(.int .i64 9::rwV y0 y1 y2 y3 y4 y5 y6 y7 y8 yp0 yl0 yq0 yp1 yl1 yq1 yp2 yl2 yq2 y9 y10 yb)) rfl T6.b3 zau rfl rfl (zbC 9 (by decide) O6).one ?_;intro w9 X9 C9 z9))
   refine zbh Tryz.results6 rfl X9 Tryz.underlying40 zau rfl rfl ?_;exact ⟨⟨9,(cutW d2)⟩,_,rfl,HQ.out,(zbC 9 (by decide) (O6.chgk C9 (fun b hb=>by simp at hb;omega))).weaken (by omega) (Nat.le_trans b6.size C9.size),T6.bel.trans (C9.bel (fun b hb=>by simp at hb;omega) T6.bel.size)⟩
  | done c d2=>
   have c0:c=0:=zdE _ _ _ _ _ HOC.out.symm;subst c0
   have HQ:Hid (RmAns d (G:Int) r ⟨0,d2⟩):=.inr ⟨HX.out,.inr ⟨HMV.out,by
    show _=(zcj d.shape G (d.groups.2 G).1 r d).final
    rw [← HOC.out];simp [Outc.final]⟩⟩
   go_wp2_with (refine zaj 43 (.tmp 5) rfl rfl (w.heap.size+1) rfl (T3.b2) Tryz.underlying43 zc0 rfl ?_)
   refine CS.mono ?_;rintro e w5 ⟨rfl,K5,S5,s5,C5⟩;clear CS;obtain ⟨cs5,X5,O5⟩:=S5;obtain ⟨y0,y1,y2,y3,y4,y5,y6,y7,y8,yp0,yl0,yq0,yp1,yl1,yq1,yp2,yl2,yq2,y9,y10,yb,rfl⟩:=zb1 O5.own;have z5:=C5.size
   have T5:=T3.chgK3R C5 (fun b hb=>by
    rcases List.mem_cons.1 hb with h | h
    ·omega
    ·have:=hin b h;omega)
   have OO:OwnT zab w5 wA.heap.size w5.heap.size d2 (rwV y0 y1 y2 y3 y4 y5 y6 y7 y8 yp0 yl0 yq0 yp1 yl1 yq1 yp2 yl2 yq2 y9 y10 yb):=⟨K5,O5.own,O5.nd,fun b hb=>⟨by
    rcases s5 b hb with h | h
    ·exact (hin b h).1
    ·omega,zab.own_lt O5.own b hb⟩⟩
   have CL:=zej y0 y1 y2 y3 y4 y5 y6 y7 y8 yp0 yl0 yq0 yp1 yl1 yq1 yp2 yl2 yq2 y9 y10 yb true w5 OO.one;clear T3 C5 s5 O5
   go_wp2_with (first | (refine zaj 38 (.tmp 8) rfl rfl (w2.heap.size) rfl (X5) Tryz.underlying38 zbd rfl ?_) | (go_at_call 25;refine CL.mono ?_;rintro e w6 ⟨rfl,b6⟩;have T6:=T5.call b6;have O6:=OO.below b6 (Nat.le_refl _)) | (refine zaF 40 _ _ rfl rfl (w.heap.size+1+1) rfl (cs:=(.int .i64 0::rwV y0 y1 y2 y3 y4 y5 y6 y7 y8 yp0 yl0 yq0 yp1 yl1 yq1 yp2 yl2 yq2 y9 y10 yb)) rfl T6.b3 zau rfl rfl (zbC 0 (by decide) O6).one ?_;intro w9 X9 C9 z9))
   refine zbh Tryz.results6 rfl X9 Tryz.underlying40 zau rfl rfl ?_;exact ⟨⟨0,d2⟩,_,rfl,HQ.out,(zbC 0 (by decide) (O6.chgk C9 (fun b hb=>by simp at hb;omega))).weaken (by omega) (Nat.le_trans b6.size C9.size),T6.bel.trans (C9.bel (fun b hb=>by simp at hb;omega) T6.bel.size)⟩
 ·have d1:decide (g<d.shape 0)=false:=decide_eq_false c1
  have HMV:Hid (zet d.shape g r):=⟨HY.out,HKD.out,fun h=>absurd h c1⟩
  go_wp2_with (refine zaj 38 (.tmp 3) rfl rfl (w.heap.size) rfl (HTA.out.b1) Tryz.underlying38 zbd rfl ?_)
  refine (zhC _ d hi _ (zab.rd_below HRD.out HTA.out.bel hhi) (Nat.le_trans hhi HTA.out.bel.size) HSZ.out).mono ?_;rintro e w2 ⟨c2,rfl,o2,b2⟩;obtain ⟨p1,c1,p2,c2,p3,c3,K1,K2,K3,rfl,WO2⟩:=zfQ o2;have z2:wA.heap.size≤w2.heap.size:=b2.size
  go_upto_region 7 with (refine zbr 38 8 (.tmp 42) _ _ 15 rfl rfl rfl rfl rfl rfl rfl rfl zkv rfl rfl o2.one ?_)
  have bA:=bAl w2 (.cells (rwW d p1 c1 p2 c2 p3 c3).toArray 38);have X3:=zay w2 (rwW d p1 c1 p2 c2 p3 c3).toArray 38;obtain ⟨W3,hW3⟩:∃ x,x=w2.alloc (.cells (rwW d p1 c1 p2 c2 p3 c3).toArray 38):=⟨_,rfl⟩;rw [← hW3] at bA X3 ⊢;have T3:=(HTA.out.call b2).call bA;have WO:=WO2.below bA (Nat.le_refl _);have z3:w2.heap.size<W3.heap.size:=X3.lt;clear bA hW3 o2 b2 WO2;clear k0 x_0 x_1 x_2 x_3 x_4 x_5 x_6 x_7 x_8 z_0 z_1 z_2 z_3 z_4 z_5 z_6 z_7 z_8;obtain ⟨G,hgG,hMO,hFR,hWR,hDN,h7,h8⟩:=zi8 HX.out HMV.out;subst hgG;obtain ⟨fx6,fy6,fx7,fy7,fx8,fy8,fe,fr6,fr7,fr8,frest⟩:=za5 HRR.out;have hsq:=frest.2.1;have hin:∀ b,b∈K1++(K2++(K3++[]))→wA.heap.size≤b∧b<w2.heap.size:=fun b hb=>WO.inn b (by simpa using hb);have S3:SpB W3 w2.heap.size d (K1++(K2++(K3++[]))):=⟨_,X3,WO.encO (fun hm=>by have:=WO.inn _ hm;omega)⟩;have hza:=HTA.out.bel.size;have CS:=zfY d.shape (d.groups.2 G).1 G r hMO h7 h8 o6 o7 o8 k6 k7 k8 hi HCP.out.1 HCP.out.2 w2.heap.size d _ W3 S3 hFR hWR hDN (zae.rd_below HRR.out T3.bel hhi) (by omega) (fun b hb=>by have:=hin b hb;omega) (Nat.le_trans hhi T3.bel.size) hsq (zdF fr7).2 (zdF fr8).2;obtain ⟨oc,hoc⟩:∃ x,x=zcj d.shape G (d.groups.2 G).1 r d:=⟨_,rfl⟩;have HOC:=hid hoc;rw [← hoc] at CS;clear hoc S3 X3 WO hDN hMO hFR hWR h7 h8 fe fr6 fr7 fr8 frest hsq
  cases oc with
  | cut d2=>
   have HQ:Hid (RmAns d (G:Int) r ⟨9,cutW d2⟩):=.inr ⟨HX.out,.inr ⟨HMV.out,by
    show _=(zcj d.shape G (d.groups.2 G).1 r d).final
    rw [← HOC.out];rfl⟩⟩
   go_wp2_with (refine zaj 43 (.tmp 5) rfl rfl (w.heap.size+1) rfl (T3.b2) Tryz.underlying43 zc0 rfl ?_)
   refine CS.mono ?_;rintro e w5 ⟨rfl,K5,S5,s5,C5⟩;clear CS;obtain ⟨cs5,X5,O5⟩:=S5;obtain ⟨y0,y1,y2,y3,y4,y5,y6,y7,y8,yp0,yl0,yq0,yp1,yl1,yq1,yp2,yl2,yq2,y9,y10,yb,rfl⟩:=zb1 O5.own;have z5:=C5.size
   have T5:=T3.chgK3R C5 (fun b hb=>by
    rcases List.mem_cons.1 hb with h | h
    ·omega
    ·have:=hin b h;omega)
   have OO:OwnT zab w5 wA.heap.size w5.heap.size (cutW d2) (rwV y0 y1 y2 y3 y4 y5 y6 y7 y8 yp0 yl0 yq0 yp1 yl1 yq1 yp2 yl2 yq2 y9 y10 yb):=⟨K5,O5.own,O5.nd,fun b hb=>⟨by
    rcases s5 b hb with h | h
    ·exact (hin b h).1
    ·omega,zab.own_lt O5.own b hb⟩⟩
   have CL:=zej y0 y1 y2 y3 y4 y5 y6 y7 y8 yp0 yl0 yq0 yp1 yl1 yq1 yp2 yl2 yq2 y9 y10 yb false w5 OO.one;clear T3 C5 s5 O5
   go_wp2_with (first | (refine zaj 38 (.tmp 8) rfl rfl (w2.heap.size) rfl (X5) Tryz.underlying38 zbd rfl ?_) | (go_at_call 25;refine CL.mono ?_;rintro e w6 ⟨rfl,b6⟩;have T6:=T5.call b6;have O6:=OO.below b6 (Nat.le_refl _)) | (refine zaF 40 _ _ rfl rfl (w.heap.size+1+1) rfl (cs:=(.int .i64 9::rwV y0 y1 y2 y3 y4 y5 y6 y7 y8 yp0 yl0 yq0 yp1 yl1 yq1 yp2 yl2 yq2 y9 y10 yb)) rfl T6.b3 zau rfl rfl (zbC 9 (by decide) O6).one ?_;intro w9 X9 C9 z9))
   refine zbh Tryz.results6 rfl X9 Tryz.underlying40 zau rfl rfl ?_;exact ⟨⟨9,(cutW d2)⟩,_,rfl,HQ.out,(zbC 9 (by decide) (O6.chgk C9 (fun b hb=>by simp at hb;omega))).weaken (by omega) (Nat.le_trans b6.size C9.size),T6.bel.trans (C9.bel (fun b hb=>by simp at hb;omega) T6.bel.size)⟩
  | done c d2=>
   have c0:c=0:=zdE _ _ _ _ _ HOC.out.symm;subst c0
   have HQ:Hid (RmAns d (G:Int) r ⟨0,d2⟩):=.inr ⟨HX.out,.inr ⟨HMV.out,by
    show _=(zcj d.shape G (d.groups.2 G).1 r d).final
    rw [← HOC.out];simp [Outc.final]⟩⟩
   go_wp2_with (refine zaj 43 (.tmp 5) rfl rfl (w.heap.size+1) rfl (T3.b2) Tryz.underlying43 zc0 rfl ?_)
   refine CS.mono ?_;rintro e w5 ⟨rfl,K5,S5,s5,C5⟩;clear CS;obtain ⟨cs5,X5,O5⟩:=S5;obtain ⟨y0,y1,y2,y3,y4,y5,y6,y7,y8,yp0,yl0,yq0,yp1,yl1,yq1,yp2,yl2,yq2,y9,y10,yb,rfl⟩:=zb1 O5.own;have z5:=C5.size
   have T5:=T3.chgK3R C5 (fun b hb=>by
    rcases List.mem_cons.1 hb with h | h
    ·omega
    ·have:=hin b h;omega)
   have OO:OwnT zab w5 wA.heap.size w5.heap.size d2 (rwV y0 y1 y2 y3 y4 y5 y6 y7 y8 yp0 yl0 yq0 yp1 yl1 yq1 yp2 yl2 yq2 y9 y10 yb):=⟨K5,O5.own,O5.nd,fun b hb=>⟨by
    rcases s5 b hb with h | h
    ·exact (hin b h).1
    ·omega,zab.own_lt O5.own b hb⟩⟩
   have CL:=zej y0 y1 y2 y3 y4 y5 y6 y7 y8 yp0 yl0 yq0 yp1 yl1 yq1 yp2 yl2 yq2 y9 y10 yb true w5 OO.one;clear T3 C5 s5 O5
   go_wp2_with (first | (refine zaj 38 (.tmp 8) rfl rfl (w2.heap.size) rfl (X5) Tryz.underlying38 zbd rfl ?_) | (go_at_call 25;refine CL.mono ?_;rintro e w6 ⟨rfl,b6⟩;have T6:=T5.call b6;have O6:=OO.below b6 (Nat.le_refl _)) | (refine zaF 40 _ _ rfl rfl (w.heap.size+1+1) rfl (cs:=(.int .i64 0::rwV y0 y1 y2 y3 y4 y5 y6 y7 y8 yp0 yl0 yq0 yp1 yl1 yq1 yp2 yl2 yq2 y9 y10 yb)) rfl T6.b3 zau rfl rfl (zbC 0 (by decide) O6).one ?_;intro w9 X9 C9 z9))
   refine zbh Tryz.results6 rfl X9 Tryz.underlying40 zau rfl rfl ?_;exact ⟨⟨0,d2⟩,_,rfl,HQ.out,(zbC 0 (by decide) (O6.chgk C9 (fun b hb=>by simp at hb;omega))).weaken (by omega) (Nat.le_trans b6.size C9.size),T6.bel.trans (C9.bel (fun b hb=>by simp at hb;omega) T6.bel.size)⟩
theorem zln {w:World} {hi:Nat} {r:RecD} {cs:List Value} (h:zae.rd w hi r cs):-9223372036854775808≤r.seq∧r.seq≤9223372036854775807:=by
 obtain ⟨a6,b6,a7,b7,a8,b8,e,h6,h7,h8,hk⟩:=za5 h;exact hk.2.1
set_option maxRecDepth 20000 in
theorem ziB (d:WorldD) (g:Int) (r:RecD) (cs csr:List Value) (hi:Nat) (w:World) (h:zab.rd w hi d cs) (hr:zae.rd w hi r csr) (hhi:hi≤w.heap.size) (hsz:zaW d≤1048576) (hsr:zaY r≤1048576) :
 Calls Tryz.prog 9 #[.agg cs.toArray,.int .i64 g,.agg csr.toArray] w (zgk (RmAns d g r) w):=by
 have h':=h;obtain ⟨ao1,cap1,ao2,cap2,ao3,cap3,rfl,g1,g2,g3,k0,k4,k5⟩:=zaK h';obtain ⟨o6,k6,o7,k7,o8,k8,rfl,-⟩:=za5 hr;have HRD:=hid h;have HRR:=hid hr;have HSZ:=hid hsz;have HSR:=hid hsr;have hmf:∀ (fn:Fn) (first cap:Array Value) (w:World),(Instr.makeFunc fn first cap).run Tryz.prog w=.ok (.func fn first cap) w:=fun _ _ _ _=>rfl;clear h h' hr hsz hsr g1 g2 g3 k0 k4 k5;have T0:=zbD w (rwW d ao1 cap1 ao2 cap2 ao3 cap3).toArray (rwR r o6 k6 o7 k7 o8 k8).toArray rwZ.toArray 38 43 40
 go_enter Tryz.func9,Tryz.ntmps9
 go_wp2_with (refine zaj 38 (.tmp 2) rfl rfl (w.heap.size) rfl (T0.b1) Tryz.underlying38 zbd rfl ?_)
 refine (zfA d g _ hi _ (zab.rd_below HRD.out T0.bel hhi) (Nat.le_trans hhi T0.bel.size) HSZ.out).mono ?_;rintro e w1 ⟨x,rfl,hx,b1⟩;have HT1:=hid (T0.call b1);have HX:=hid hx;have z1:w.heap.size+1+1<w1.heap.size:=HT1.out.b3.lt;clear b1 T0 hx
 by_cases hx0:x=0
 case neg=>
  have hne:(x != 0)=true:=by simp [hx0]
  go_wp2_with (refine zaF 40 _ _ rfl rfl (w.heap.size+1+1) rfl (cs:=(.int .i64 x::rwY)) rfl (HT1.out.b3) zau rfl rfl (zcc _ (zc1 HX.out) w) ?_;intro w9 X9 C9 z9)
  refine zbh Tryz.results9 rfl X9 Tryz.underlying40 zau rfl rfl ?_;exact zbP (by omega) (zc1 HX.out) HT1.out.bel C9 (.inl ⟨x,hx0,HX.out,rfl⟩)
 subst hx0;have HOK:Hid (OkWorld d):=zhx (zei HX.out).1;have x_0:w1.cell? ⟨w.heap.size,0,none⟩=some (.int .i64 (d.shape 0)):=HT1.out.b1.cell 0;have x_1:w1.cell? ⟨w.heap.size,1,none⟩=some (.int .i64 (d.shape 1)):=HT1.out.b1.cell 1;have x_2:w1.cell? ⟨w.heap.size,2,none⟩=some (.int .i64 (d.shape 2)):=HT1.out.b1.cell 2;have x_3:w1.cell? ⟨w.heap.size,3,none⟩=some (.int .i64 (d.shape 3)):=HT1.out.b1.cell 3;have x_4:w1.cell? ⟨w.heap.size,4,none⟩=some (.int .i64 (d.shape 4)):=HT1.out.b1.cell 4;have x_5:w1.cell? ⟨w.heap.size,5,none⟩=some (.int .i64 (d.shape 5)):=HT1.out.b1.cell 5;have x_6:w1.cell? ⟨w.heap.size,6,none⟩=some (.int .i64 (d.shape 6)):=HT1.out.b1.cell 6;have x_7:w1.cell? ⟨w.heap.size,7,none⟩=some (.int .i64 (d.shape 7)):=HT1.out.b1.cell 7;have x_8:w1.cell? ⟨w.heap.size,8,none⟩=some (.int .i64 (d.shape 8)):=HT1.out.b1.cell 8;have CRF:=zfh d.shape r (rwR r o6 k6 o7 k7 o8 k8) hi w1 (zae.rd_below HRR.out HT1.out.bel hhi) (Nat.le_trans hhi HT1.out.bel.size) (zi7 HSR.out);unfold zak at CRF
 go_wp2_with (refine zaj 43 (.tmp 5) rfl rfl (w.heap.size+1) rfl (HT1.out.b2) Tryz.underlying43 zc0 rfl ?_)
 refine CRF.mono ?_;rintro e wA ⟨y,rfl,hy,bA⟩;have HTA:=hid (HT1.out.call bA);have zA:w1.heap.size≤wA.heap.size:=bA.size;have HY:=hid hy;clear bA CRF hy x_0 x_1 x_2 x_3 x_4 x_5 x_6 x_7 x_8
 by_cases hy0:y=0
 case neg=>
  have hne:(y != 0)=true:=by simp [hy0]
  have HNF:Hid (¬ zet d.shape g r):=fun h=>hy0 (HY.out.one h.1);clear hy0
  go_wp2_with (refine zaF 40 _ _ rfl rfl (w.heap.size+1+1) rfl (cs:=(.int .i64 1::rwY)) rfl (HTA.out.b3) zau rfl rfl (zcc _ (by decide) w) ?_;intro w9 X9 C9 z9)
  refine zbh Tryz.results9 rfl X9 Tryz.underlying40 zau rfl rfl ?_;exact zbP (by omega) (by decide) HTA.out.bel C9 (.inr ⟨HX.out,.inl ⟨HNF.out,rfl⟩⟩)
 subst hy0;have k0:wA.cell? ⟨w.heap.size+1,0,none⟩=some (.int .i64 r.kind):=HTA.out.b2.cell 0
 by_cases hk:r.kind=2
 case neg=>
  have hne:(r.kind != 2)=true:=by simp [hk]
  have HNF:Hid (¬ zet d.shape g r):=fun h=>hk h.2.1;clear hk
  go_wp2_with (refine zaF 40 _ _ rfl rfl (w.heap.size+1+1) rfl (cs:=(.int .i64 1::rwY)) rfl (HTA.out.b3) zau rfl rfl (zcc _ (by decide) w) ?_;intro w9 X9 C9 z9)
  refine zbh Tryz.results9 rfl X9 Tryz.underlying40 zau rfl rfl ?_;exact zbP (by omega) (by decide) HTA.out.bel C9 (.inr ⟨HX.out,.inl ⟨HNF.out,rfl⟩⟩)
 have HKD:=hid hk
 have hke:(r.kind != 2)=false:=by simp [hk]
 clear hk;have x_0:wA.cell? ⟨w.heap.size,0,none⟩=some (.int .i64 (d.shape 0)):=HTA.out.b1.cell 0;have x_1:wA.cell? ⟨w.heap.size,1,none⟩=some (.int .i64 (d.shape 1)):=HTA.out.b1.cell 1;have x_2:wA.cell? ⟨w.heap.size,2,none⟩=some (.int .i64 (d.shape 2)):=HTA.out.b1.cell 2;have x_3:wA.cell? ⟨w.heap.size,3,none⟩=some (.int .i64 (d.shape 3)):=HTA.out.b1.cell 3;have x_4:wA.cell? ⟨w.heap.size,4,none⟩=some (.int .i64 (d.shape 4)):=HTA.out.b1.cell 4;have x_5:wA.cell? ⟨w.heap.size,5,none⟩=some (.int .i64 (d.shape 5)):=HTA.out.b1.cell 5;have x_6:wA.cell? ⟨w.heap.size,6,none⟩=some (.int .i64 (d.shape 6)):=HTA.out.b1.cell 6;have x_7:wA.cell? ⟨w.heap.size,7,none⟩=some (.int .i64 (d.shape 7)):=HTA.out.b1.cell 7;have x_8:wA.cell? ⟨w.heap.size,8,none⟩=some (.int .i64 (d.shape 8)):=HTA.out.b1.cell 8;have CCN:=zhA d.shape HOK.out.shape r o6 o7 o8 k6 k7 k8 g wA;unfold zak at CCN;have z_0:wA.cell? ⟨w.heap.size+1,0,none⟩=some (.int .i64 r.kind):=HTA.out.b2.cell 0;have z_1:wA.cell? ⟨w.heap.size+1,1,none⟩=some (.int .i64 r.seq):=HTA.out.b2.cell 1;have z_2:wA.cell? ⟨w.heap.size+1,2,none⟩=some (.string r.name):=HTA.out.b2.cell 2;have z_3:wA.cell? ⟨w.heap.size+1,3,none⟩=some (.int .i64 r.length):=HTA.out.b2.cell 3;have z_4:wA.cell? ⟨w.heap.size+1,4,none⟩=some (.int .i64 r.group):=HTA.out.b2.cell 4;have z_5:wA.cell? ⟨w.heap.size+1,5,none⟩=some (.int .i64 r.row):=HTA.out.b2.cell 5;have z_6:wA.cell? ⟨w.heap.size+1,6,none⟩=some (.slice o6 r.rows.1 k6):=HTA.out.b2.cell 6;have z_7:wA.cell? ⟨w.heap.size+1,7,none⟩=some (.slice o7 r.data.1 k7):=HTA.out.b2.cell 7;have z_8:wA.cell? ⟨w.heap.size+1,8,none⟩=some (.slice o8 r.delta.1 k8):=HTA.out.b2.cell 8
 go_wp2_with fail
 refine CCN.mono ?_;rintro e wB ⟨t,rfl,ht,bB⟩;have HTB:=hid (HTA.out.call bB);have zB:wA.heap.size≤wB.heap.size:=bB.size
 have HTT:Hid (t=true↔(g<d.shape 0→g=r.group)):=by
  have hg:=(zei HX.out).2.1;unfold InP at hg;refine ht.trans ⟨fun h hl=>?_,fun h=>?_⟩
  ·rcases h with h | h
   ·exact h.symm
   ·exact absurd (by unfold InP;omega) h
  ·by_cases c:g<d.shape 0
   ·exact .inl (h c).symm
   ·exact .inr (fun h'=>by unfold InP at h';omega)
 clear bB CCN ht k0 x_0 z_0 x_1 z_1 x_2 z_2 x_3 z_3 x_4 z_4 x_5 z_5 x_6 z_6 x_7 z_7 x_8 z_8
 cases t with
 | false=>
  have HNF:Hid (¬ zet d.shape g r):=fun h=>by have:=HTT.out.2 h.2.2;cases this
  go_wp2_with (refine zaF 40 _ _ rfl rfl (w.heap.size+1+1) rfl (cs:=(.int .i64 1::rwY)) rfl (HTB.out.b3) zau rfl rfl (zcc _ (by decide) w) ?_;intro w9 X9 C9 z9)
  refine zbh Tryz.results9 rfl X9 Tryz.underlying40 zau rfl rfl ?_;exact zbP (by omega) (by decide) HTB.out.bel C9 (.inr ⟨HX.out,.inl ⟨HNF.out,rfl⟩⟩)
 | true=>
 have HMV:Hid (zet d.shape g r):=⟨HY.out,HKD.out,HTT.out.1 rfl⟩;obtain ⟨G,rfl,hMO,hFR,hWR,-,h7,h8⟩:=zi8 HX.out HMV.out;have CK:=zjW (.int .i64 r.kind) (.int .i64 r.seq) (.string r.name) (.int .i64 r.length) (.int .i64 r.group) (.int .i64 r.row) (.slice o6 r.rows.1 k6) (.slice o7 r.data.1 k7) (.slice o8 r.delta.1 k8) (G:Int) wB.drew;have B0:Below wB.heap.size wB wB.drew:=zcK _;have KS:∀ w',Below wB.heap.size wB w'→(Box w' w.heap.size (rwW d ao1 cap1 ao2 cap2 ao3 cap3).toArray 38∧Box w' (w.heap.size+1) (rwR r o6 k6 o7 k7 o8 k8).toArray 43):=fun w' hb=>⟨HTB.out.b1.call hb,HTB.out.b2.call hb⟩
 go_upto_region 6 with fail
 refine zbs 6 (fun w'=>Box w' w.heap.size (rwW d ao1 cap1 ao2 cap2 ao3 cap3).toArray 38∧Box w' (w.heap.size+1) (rwR r o6 k6 o7 k7 o8 k8).toArray 43) (by kernel_rfl) (KS _ B0) (fun hHeld=>?_);refine zac (i:=0) (oi:=_) 16 rfl (by kernel_rfl) (fun _ _ _ h=>h) (zbw 38 (.tmp 3) rfl rfl (w.heap.size) rfl (cs:=(rwW d ao1 cap1 ao2 cap2 ao3 cap3)) (fun w' h=>h.1) Tryz.underlying38 zbd rfl) (by assumption) ?_
 try simp only [Act.put,SL]
 refine zl1 1 (v:=?_) rfl ?_ ?_
 rotate_left
 ·intro w' hSw;go_simp;try with_reducible rfl
 try simp only [Act.put,SL]
 refine zac (i:=2) (oi:=_) 16 rfl (by kernel_rfl) (fun _ _ _ h=>h) (zbw 43 (.tmp 5) rfl rfl (w.heap.size+1) rfl (cs:=(rwR r o6 k6 o7 k7 o8 k8)) (fun w' h=>h.2) Tryz.underlying43 zc0 rfl) (by assumption) ?_
 try simp only [Act.put,SL]
 refine zat (i:=3) (o:=_) rfl (by kernel_rfl) (fun KC hKC=>?_);refine zaE rfl 35 _ _ rfl #[.int .i64 (G:Int),.agg (rwR r o6 k6 o7 k7 o8 k8).toArray] ?_ Tryz.func35 (by kernel_rfl) (by kernel_rfl) CK ?_
 ·simp [Act.eval,Act.put]
 rintro ee w5 ⟨rfl,q0,q1,b5'⟩;have b5:Below wB.heap.size wB w5:=B0.trans b5';have q0:Box w5 wB.heap.size #[.int .i64 (G:Int)] 2:=q0;have q1:Box w5 (wB.heap.size+1) (rwR r o6 k6 o7 k7 o8 k8).toArray 43:=q1;refine ⟨_,rfl,?_⟩;refine hKC.out _ _ (KS _ b5) (fun hHeld=>?_);clear hKC KC CK b5'
 try simp only [Act.put,SL]
 refine zat (i:=4) (o:=_) rfl (by kernel_rfl) (fun KC hKC=>?_);have bN:Below w5.heap.size w5 (w5.alloc (.cells #[.func (.func 81) #[] #[.pointer (some ⟨wB.heap.size,0,none⟩),.pointer (some ⟨wB.heap.size+1,0,none⟩)]] 71)):=(Below.refl _ _).alloc (Nat.le_refl _) _;have XN:Box (w5.alloc (.cells #[.func (.func 81) #[] #[.pointer (some ⟨wB.heap.size,0,none⟩),.pointer (some ⟨wB.heap.size+1,0,none⟩)]] 71)) w5.heap.size #[.func (.func 81) #[] #[.pointer (some ⟨wB.heap.size,0,none⟩),.pointer (some ⟨wB.heap.size+1,0,none⟩)]] 71:=zay _ _ _;go_simp;refine hKC.out _ _ (KS _ (b5.trans (bN.mono b5.size))) (fun hHeld=>?_);clear hKC KC
 try simp only [Act.put,SL]
 obtain ⟨w6,hw6⟩:∃ x,x=(w5.alloc (.cells #[.func (.func 81) #[] #[.pointer (some ⟨wB.heap.size,0,none⟩),.pointer (some ⟨wB.heap.size+1,0,none⟩)]] 71)):=⟨_,rfl⟩
 have b6:Below wB.heap.size wB w6:=by rw [hw6];exact b5.trans (bN.mono b5.size)
 have z56:w5.heap.size<w6.heap.size:=by rw [hw6];exact XN.lt
 have T6:=HTB.out.call b6
 have b56:Below w5.heap.size w5 w6:=by rw [hw6];exact bN
 have xN:w6.cell? ⟨w5.heap.size,0+0,none⟩=some (.func (.func 81) #[] #[.pointer (some ⟨wB.heap.size,0,none⟩),.pointer (some ⟨wB.heap.size+1,0,none⟩)]):=by rw [hw6];exact XN.cell 0
 have q0':=q0.below b56 q0.lt;have q1':=q1.below b56 q1.lt;obtain ⟨fx6,fy6,fx7,fy7,fx8,fy8,fe,fr6,fr7,fr8,frest⟩:=za5 HRR.out;have hsq:-9223372036854775808≤r.seq∧r.seq≤9223372036854775807:=zln HRR.out
 have CV:=zhv d (rwW d ao1 cap1 ao2 cap2 ao3 cap3) hi (fun _=>81) (fun _=>#[.pointer (some ⟨wB.heap.size,0,none⟩),.pointer (some ⟨wB.heap.size+1,0,none⟩)]) (fun _=>zcj d.shape G (d.groups.2 G).1 r) (fun _=>fun d'=>FitR d.shape (d.groups.2 G).1 G r d'∧d'.writes+((d.groups.2 G).1:Int)≤9223372036854775807) 1 w5.heap.size 0 1 w6 (zab.rd_below HRD.out T6.bel hhi) (Nat.le_trans hhi T6.bel.size) HSZ.out
  (fun i _=>zhz d.shape (d.groups.2 G).1 G r hMO o6 o7 o8 k6 k7 k8 hi wB.heap.size (wB.heap.size+1) w6.heap.size w6 (q0'.cell 0) q1' (zae.rd_below HRR.out T6.bel hhi) q0'.lt q1'.lt (Nat.le_trans hhi T6.bel.size) hsq (zdF fr7).2 (zdF fr8).2) (fun i hi=>by
   have h0:i=0:=by omega
   subst h0
   exact xN) z56 (by decide) ⟨⟨hFR,hWR⟩,by unfold zir;split<;>simp [zfm]⟩ (by rw [zkY];exact zjV)
 rw [zkY] at CV
 have CW:=CV.mono (R':=fun e w'=>∃ sc s0 s1 s2 s3 s4 s5 s6 s7 s8 sp0 sl0 sq0 sp1 sl1 sq1 sp2 sl2 sq2 s9 s10 sb,e=.returned (.agg (.int .i64 sc::rwV s0 s1 s2 s3 s4 s5 s6 s7 s8 sp0 sl0 sq0 sp1 sl1 sq1 sp2 sl2 sq2 s9 s10 sb).toArray)∧OwnT zai w' w6.heap.size w'.heap.size (zcj d.shape G (d.groups.2 G).1 r d).final (.int .i64 sc::rwV s0 s1 s2 s3 s4 s5 s6 s7 s8 sp0 sl0 sq0 sp1 sl1 sq1 sp2 sl2 sq2 s9 s10 sb)∧Below w6.heap.size w6 w') (fun e w' ⟨cs',he,ho,hb⟩=>by
  obtain ⟨sc,s0,s1,s2,s3,s4,s5,s6,s7,s8,sp0,sl0,sq0,sp1,sl1,sq1,sp2,sl2,sq2,s9,s10,sb,rfl⟩:=ziZ ho.rd
  exact ⟨sc,s0,s1,s2,s3,s4,s5,s6,s7,s8,sp0,sl0,sq0,sp1,sl1,sq1,sp2,sl2,sq2,s9,s10,sb,he,ho,hb⟩)
 clear CV;rw [← hw6];refine zat (i:=5) (o:=_) rfl (by kernel_rfl) (fun KC hKC=>?_);refine zaE rfl 34 _ _ rfl #[.agg (rwW d ao1 cap1 ao2 cap2 ao3 cap3).toArray,.slice (some ⟨w5.heap.size,0,none⟩) 1 1] ?_ Tryz.func34 (by kernel_rfl) (by kernel_rfl) CW ?_
 ·simp [Act.eval,Act.put]
 rintro ee w7 ⟨sc,s0,s1,s2,s3,s4,s5,s6,s7,s8,sp0,sl0,sq0,sp1,sl1,sq1,sp2,sl2,sq2,s9,s10,sb,rfl,o7_,b7⟩;have T7:=T6.call b7;have z7:w6.heap.size≤w7.heap.size:=b7.size;refine ⟨_,rfl,?_⟩;refine hKC.out _ _ (KS _ (b6.trans (b7.mono b6.size))) (fun hHeld=>?_);clear hKC KC
 try simp only [Act.put,SL]
 refine zbe rfl (by kernel_rfl) (by kernel_rfl) rfl rfl 40 (.tmp 6) (.tmp 39) rfl (w.heap.size+1+1) rfl (cs:=(.int .i64 sc::rwV s0 s1 s2 s3 s4 s5 s6 s7 s8 sp0 sl0 sq0 sp1 sl1 sq1 sp2 sl2 sq2 s9 s10 sb)) (old:=rwZ) rfl T7.b3 zau rfl rfl o7_.one (fun w9 X9 C9 z9=>?_);have z6:=b6.size;go_wp2;refine zbh Tryz.results9 rfl X9 Tryz.underlying40 zau rfl rfl ?_;exact ⟨_,(.int .i64 sc::rwV s0 s1 s2 s3 s4 s5 s6 s7 s8 sp0 sl0 sq0 sp1 sl1 sq1 sp2 sl2 sq2 s9 s10 sb),rfl,.inr ⟨HX.out,.inr ⟨HMV.out,rfl⟩⟩,(o7_.chgk C9 (fun b hb=>by simp at hb;omega)).weaken (by omega) C9.size,T7.bel.trans (C9.bel (fun b hb=>by simp at hb;omega) T7.bel.size)⟩
theorem zma (d:WorldD):∃ x,AskAns d x:=by
 obtain ⟨x,hx⟩:=zk8 d
 by_cases h:x=0
 ·subst h
  cases hd:d.down with
  | true=>exact ⟨9,.inr ⟨hx,.inl ⟨hd,rfl⟩⟩⟩
  | false=>exact ⟨0,.inr ⟨hx,.inr ⟨hd,rfl⟩⟩⟩
 ·exact ⟨x,.inl ⟨h,hx⟩⟩
theorem zlo (d:WorldD) (g r:Int):∃ z,WhereAns d g r z:=by
 obtain ⟨y,hy⟩:=zma d
 by_cases h:y=0
 ·subst h
  by_cases h1:WhP d.shape g r
  ·by_cases h2:HasP d.on.1 d.on.2 g
   ·exact ⟨0,.inr ⟨hy,.inr ⟨h1,.inr ⟨h2,rfl⟩⟩⟩⟩
   ·exact ⟨8,.inr ⟨hy,.inr ⟨h1,.inl ⟨h2,rfl⟩⟩⟩⟩
  ·exact ⟨3,.inr ⟨hy,.inl ⟨h1,rfl⟩⟩⟩
 ·exact ⟨y,.inl ⟨h,hy⟩⟩
end Go.Proofs.YtlpbohnadenacaaGreat
