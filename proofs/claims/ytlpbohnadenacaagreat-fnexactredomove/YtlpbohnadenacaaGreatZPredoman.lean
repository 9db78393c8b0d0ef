/- striking as a task; StrikeBoth of the program. -/
import Derived.Test.YtlpbohnadenacaaGreatZPredomam
set_option linter.unusedVariables false
set_option linter.unusedSimpArgs false
set_option maxHeartbeats 16000000
namespace Go.Proofs.YtlpbohnadenacaaGreat
open Go.RowKit F256
theorem zkX (o:Outc):o.next (fun d=>.done 0 d)=o:=by
 cases o with
 | cut d=>rfl
 | done c d=>
  show (if c=0 then _ else _)=_
  split
  ·rename_i h;rw [h]
  ·rfl
theorem zkY (f:Nat→WorldD→Outc) (d:WorldD):runO f 1 0 d=f 0 d:=zkX _
structure Fit3 (n:Nat) (d:WorldD):Prop where
 two:d.tapes.1=2
 few:∀ T,T<2→(d.tapes.2 T).recs.1+n≤1000000
 up:d.down=false
 low:-9223372036854775808≤d.writes
 room:d.writes+n≤9223372036854775807
theorem zc0:(Tryz.prog.info? 43).map (·.size)=some 9:=by kernel_rfl
theorem zkZ {f g:WorldD→WorldD} {d:WorldD} (h:f d=g d):rawO f d=rawO g d:=by
 unfold rawO;rw [h]
theorem zhy {f:WorldD→WorldD} {d d2:WorldD} {c:Int} (h:rawO f d=.done c d2):c=0∧d2={ f d with writes:=d.writes+1 }:=by
 unfold rawO at h
 split at h
 ·cases h
 ·simp only [Outc.done.injEq] at h
  exact ⟨h.1.symm,h.2.symm⟩
set_option maxRecDepth 100000 in
theorem zhz (s:Nat→Int) (n G:Nat) (mv:RecD) (hM:MvOk s n G mv) (ao6 ao7 ao8:Option Addr) (cap6 cap7 cap8 hi:Nat) (a0 a1 B:Nat) (w0:World) (h1:w0.cell? ⟨a0,0,none⟩=some (.int .i64 (G:Int))) (h2:Box w0 a1 #[.int .i64 mv.kind,.int .i64 mv.seq,.string mv.name,.int .i64 mv.length,.int .i64 mv.group,.int .i64 mv.row,.slice ao6 mv.rows.1 cap6,.slice ao7 mv.data.1 cap7,.slice ao8 mv.delta.1 cap8] 43) (hr:zae.rd w0 hi mv [.int .i64 mv.kind,.int .i64 mv.seq,.string mv.name,.int .i64 mv.length,.int .i64 mv.group,.int .i64 mv.row,.slice ao6 mv.rows.1 cap6,.slice ao7 mv.data.1 cap7,.slice ao8 mv.delta.1 cap8]) (l1:a0<B) (l2:a1<B) (l3:hi≤B) (hsq:-9223372036854775808≤mv.seq∧mv.seq≤9223372036854775807) (hd8:∀ i,mv.data.2 i<256) (hl8:∀ i,mv.delta.2 i<256) :
 TaskV 81 #[.pointer (some ⟨a0,0,none⟩),.pointer (some ⟨a1,0,none⟩)] (zcj s G n mv) (fun d=>FitR s n G mv d∧d.writes+(n:Int)≤9223372036854775807) B w0:=by
 refine ⟨zkP Tryz.func81 (by kernel_rfl) (by kernel_rfl),fun w E d K hB hBE hBK hX hf=>?_⟩
 show Calls Tryz.prog 81 #[.pointer (some ⟨E,0,none⟩),.pointer (some ⟨a0,0,none⟩),.pointer (some ⟨a1,0,none⟩)] w _
 obtain ⟨cs,hBx,hO⟩:=hX;obtain ⟨hF,hW⟩:=hf;have hsb:=okB hM.ok;have hnum:=hM.num
 have hn0:n≠0:=by omega
 have hn5:n≤5:=by omega
 have HM:=hid hM;have HK:=hid hBK;have hEl:=hBx.lt;obtain ⟨g1,c1,gg,cap,GO⟩:=zeR hO hF.grp (by rw [hF.num];exact hn0);have HGO:=hid GO;have HF:=hid hF;have HO:=hid hO;have HBX:=hid hBx;have HWR:=hid hW;have HSQ:=hid hsq;have H8:Hid ((∀ i,mv.data.2 i<256)∧∀ i,mv.delta.2 i<256):=⟨hd8,hl8⟩;have HB:=hid hB;have H2:=hid h2;have HR:=hid hr;have H1:=hid h1
 have x14:w.cell? ⟨E,14,none⟩=some (.slice (some ⟨g1,0,none⟩) d.groups.1 c1):=by
  have:=hBx.cell 14;rw [this,List.getElem?_toArray,List.getElem?_append_right (by simp)];exact GO.nine
 have y1:=GO.row;rw [hF.num] at y1;have z0:w.cell? ⟨a0,0,none⟩=some (.int .i64 (G:Int)):=(hB.cell (p:=⟨a0,0,none⟩) l1).trans h1
 have i1:(0:Int)≤(G:Int):=by omega
 have i2:(G:Int)<(d.groups.1:Int):=by have:=hF.grp;omega
 have hg1l:=GO.l1;have hg1E:=GO.ne;clear hM hBK GO hF hO hBx hW hd8 hl8 hB h2 hr h1 hsq hnum hsb
 go_enter Tryz.func81,Tryz.ntmps81
 go_upto_region 1 with fail
 go_quiet (fail)
 go_upto_region 2 with fail
 obtain ⟨W1,hW1⟩:∃ x,x=w.drewN nq:=⟨_,rfl⟩;rw [← hW1]
 have C0:ChgL (E::K) w W1:=by rw [hW1];exact ⟨rfl,rfl,rfl,Nat.le_refl _,fun _ _ _=>rfl⟩
 have XB0:Box W1 E (([.int .i32 0,.int .u32 0,.int .u32 0,.int .i32 0,.int .u32 0]:List Value)++cs).toArray 133:=by rw [hW1];exact HBX.out
 have XO0:EncO W1 E d cs K:=by
  have:W1.heap=w.heap:=by rw [hW1];rfl
  exact ⟨Lay.own_kept _ HO.out.own (fun b _=>by rw [this]),HO.out.nd,HO.out.ne⟩
 have hh1:W1.heap[g1]?=w.heap[g1]?:=by rw [hW1];rfl
 have HS0:Hid (ChgL (E::K) w W1∧Box W1 E (([.int .i32 0,.int .u32 0,.int .u32 0,.int .i32 0,.int .u32 0]:List Value)++cs).toArray 133∧EncO W1 E d cs K∧W1.heap[g1]?=w.heap[g1]?):=⟨C0,XB0,XO0,hh1⟩;clear hW1 C0 XB0 XO0 hh1 x14 y1 z0;go_wp2
 go_loopw [18] (fun i wr=>∃ (k m:Nat) (d1:WorldD) (cs1:List Value) (K1:List Nat),k+m=n∧i=.int .i64 k∧Box wr E (([.int .i32 0,.int .u32 0,.int .u32 0,.int .i32 0,.int .u32 0]:List Value)++cs1).toArray 133∧EncO wr E d1 cs1 K1∧(∀ x,x∈K1→x∈K∨w.heap.size≤x)∧ChgL (E::K) w wr∧FitR s n G mv d1∧d1.writes+(m:Int)≤9223372036854775807∧runO (zao s G mv) n 0 d=runO (zao s G mv) m k d1∧cs1[9]?=cs[9]?∧wr.heap[g1]?=w.heap[g1]?) (fun i _=>n-(intOf i).toNat)
 case atStart=>exact ⟨0,n,d,cs,K,by omega,rfl,HS0.out.2.1,HS0.out.2.2.1,fun x hx=>.inl hx,HS0.out.1,HF.out,HWR.out,rfl,rfl,HS0.out.2.2.2⟩
 case round=>
  obtain ⟨k,m,d1,cs1,K1,hkm,rfl,hB1,hO1,hK1,hC1,hf1,hw1,ho,hn9,hg1⟩:=hrel;clear HS0;have HB1:=hid hB1;have HO1:=hid hO1;have HK1:=hid hK1;have HC1:=hid hC1;have HF1:=hid hf1;have HW1:=hid hw1;have HOo:=hid ho;have HN9:Hid (cs1[9]?=cs[9]?∧wr.heap[g1]?=w.heap[g1]?):=⟨hn9,hg1⟩;have zr:=hC1.size;clear hO1 hK1 hC1 hf1 hw1 ho hn9 hg1
  cases m with
  | zero=>
   obtain rfl:k=n:=by omega
   clear hkm hB1;go_wp2;go_ret;rw [show zcj s G k mv d=.done 0 d1 from HOo.out];exact ⟨rfl,K1,⟨cs1,HB1.out,HO1.out⟩,HK1.out,HC1.out⟩
  | succ m=>
   have hlt:k<n:=by omega
   have t1:(k:Int)<(n:Int):=by omega
   have zz:IntKind.i64.wrap ((k:Int)+1)=(k:Int)+1:=by rw [IntKind.wrap_i64];omega
   obtain ⟨h1',c1',gg',cap',GO1⟩:=zeR HO1.out HF1.out.grp (by rw [HF1.out.num];omega);have e9:=GO1.nine;rw [HN9.out.1,HGO.out.nine] at e9
   simp only [Option.some.injEq,Value.slice.injEq,Addr.mk.injEq,true_and,and_true] at e9
   obtain ⟨rfl,-,-⟩:=e9;have e1:=GO1.row;rw [World.cell?_of_block (a:=⟨g1,G,none⟩) HN9.out.2,HGO.out.row] at e1
   simp only [Option.some.injEq,Value.slice.injEq,Addr.mk.injEq,true_and,and_true] at e1
   obtain ⟨rfl,-,rfl⟩:=e1;obtain ⟨R,hR⟩:∃ R,R=mv.row.toNat:=⟨_,rfl⟩;have HRR:=hid hR
   have hmr:mv.row=(R:Int):=by have:=HM.out.row;omega
   have hR1:=HF1.out.row k hlt;rw [← hR] at hR1;obtain ⟨gb,cap9,ao,ca,lgb,c0,c1_,c2,c3,hwas⟩:=GO1.each k (by rw [HF1.out.num];exact hlt) R hR1;have lgg:=GO1.lg;have HWAS:=hid hwas;obtain ⟨D,hD⟩:∃ D,D=(d1.groups.2 G).2 k:=⟨_,rfl⟩;have HD:=hid hD;rw [← hD] at c0 c1_ c2 c3 hR1;obtain ⟨b0,hb0⟩:∃ b0,b0=D.blocks.2 R:=⟨_,rfl⟩;have HB0:=hid hb0;rw [← hb0] at c2 c3
   have CB:Below B w0 wr:=HB.out.trans (HC1.out.bel (fun x hx=>by
    rcases List.mem_cons.1 hx with rfl | h
    ·exact hBE
    ·exact HK.out x h) (by omega))
   have A1:=HB1.out;have r1:=H2.out.below CB l2;have r0:wr.cell? ⟨a0,0,none⟩=some (.int .i64 (G:Int)):=(CB.cell (p:=⟨a0,0,none⟩) l1).trans H1.out
   have r5:wr.cell? ⟨a1,5,none⟩=some (.int .i64 (R:Int)):=by rw [← hmr];exact r1.cell 5
   have HMR:=hid hmr;clear hmr;have r11:wr.cell? ⟨a1,1,none⟩=some (.int .i64 mv.seq):=r1.cell 1;have HRW:=hid (zae.rd_below HR.out CB l3);have HBW:=hid CB
   have lB:B<wr.heap.size:=by omega
   have j1:(0:Int)≤(k:Int):=by omega
   have j3:(0:Int)≤(R:Int):=by omega
   have j4:(R:Int)<(D.blocks.1:Int):=by omega
   have hk0:a0<wr.heap.size:=by omega
   have hk1:a1<wr.heap.size:=by omega
   clear GO1 hwas hD hb0 hR CB hB1 A1 r1 hg1l hg1E hn0;obtain ⟨W4,hW4⟩:∃ x,x=(wr.alloc (.cells #[.bool D.wiped,.slice (some ⟨gb,0,none⟩) D.blocks.1 cap9] 97)).alloc (.cells #[.int .i64 b0.stamp,.slice ao b0.bytes.1 ca] 99):=⟨_,rfl⟩
   have TB:Two wr W4 #[.bool D.wiped,.slice (some ⟨gb,0,none⟩) D.blocks.1 cap9] #[.int .i64 b0.stamp,.slice ao b0.bytes.1 ca] 97 99:=by rw [hW4];exact zaC wr _ _ _ _
   have HTB:=hid TB;have v0:W4.cell? ⟨wr.heap.size,0,none⟩=some (.bool D.wiped):=TB.b1.cell 0;have v1:W4.cell? ⟨wr.heap.size+1,0,none⟩=some (.int .i64 b0.stamp):=TB.b2.cell 0;have v2:W4.cell? ⟨a1,1,none⟩=some (.int .i64 mv.seq):=(TB.bel.cell (p:=⟨a1,1,none⟩) hk1).trans r11;clear TB
   go_upto_region 5 with fail
   rw [← hW4];clear hW4 c0 c1_ c2 c3 r0 r5 r11
   have HSK:Hid (¬ zbG d1 G k mv→∃ (k' m':Nat) (d1':WorldD) (cs1':List Value) (K1':List Nat),k'+m'=n∧Value.int .i64 ((k:Int)+1)=.int .i64 k'∧Box W4 E (([.int .i32 0,.int .u32 0,.int .u32 0,.int .i32 0,.int .u32 0]:List Value)++cs1').toArray 133∧EncO W4 E d1' cs1' K1'∧(∀ x,x∈K1'→x∈K∨w.heap.size≤x)∧ChgL (E::K) w W4∧FitR s n G mv d1'∧d1'.writes+(m':Int)≤9223372036854775807∧runO (zao s G mv) n 0 d=runO (zao s G mv) m' k' d1'∧cs1'[9]?=cs[9]?∧W4.heap[g1]?=w.heap[g1]?):=fun hno=>by
    have hb:=HTB.out.bel;refine ⟨k+1,m,d1,cs1,K1,by omega,by go_num,HB1.out.call hb,⟨Lay.own_kept _ HO1.out.own (fun b hb'=>hb.block b (zab.own_lt HO1.out.own b hb')),HO1.out.nd,HO1.out.ne⟩,HK1.out,HC1.out.trans (ChgL.of_below hb),HF1.out,by have:=HW1.out;omega,?_,HN9.out.1,(hb.block g1 (by have:=HGO.out.l1;omega)).trans HN9.out.2⟩;rw [HOo.out]
    show (zao s G mv k d1).next _=_
    unfold zao;rw [if_neg hno];rfl
   have HOL:Hid (zbG d1 G k mv↔(D.wiped=false∧b0.stamp<mv.seq)):=by
    unfold zbG;rw [← HD.out,← HRR.out,← HB0.out];exact Iff.rfl
   cases hw:D.wiped with
   | true=>
    have HOD:Hid (¬ zbG d1 G k mv):=fun h=>by
     have:=(HOL.out.1 h).1
     rw [hw] at this;cases this
    rw [hw] at v0;clear hw;go_wp2
    go_roundw
    case rel=>exact HSK.out HOD.out
    case measure=>simp [intOf];omega
   | false=>
    rw [hw] at v0;have HWF:=hid hw;clear hw
    by_cases hst:b0.stamp<mv.seq
    case neg=>
     have HOD:Hid (¬ zbG d1 G k mv):=fun h=>hst (HOL.out.1 h).2;have d5:decide (b0.stamp<mv.seq)=false:=decide_eq_false hst;clear hst;go_wp2
     go_roundw
     case rel=>exact HSK.out HOD.out
     case measure=>simp [intOf];omega
    case pos=>
     have HOD:Hid (zbG d1 G k mv):=HOL.out.2 ⟨HWF.out,hst⟩;have d5:decide (b0.stamp<mv.seq)=true:=decide_eq_true hst;clear hst HSK;have hsh:d1.shape=s:=HF1.out.shape
     have q0:∀ j,j<9→W4.cell? ⟨E,5+j,none⟩=some (.int .i64 (s j)):=fun j hj=>by
      refine (HTB.out.bel.cell (p:=⟨E,5+j,none⟩) HB1.out.lt).trans ?_;rw [HB1.out.cell (5+j),List.getElem?_toArray,List.getElem?_append_right (by simp)];rw [← hsh];obtain ⟨p1,cc1,p2,cc2,p3,cc3,K1',K2',K3',hcs,-⟩:=HO1.out.open;rw [hcs]
      simp only [List.length_cons,List.length_nil]
      rw [show 5+j-(0+1+1+1+1+1)=j by omega]
      match j,hj with
      | 0,_=>rfl
      | 1,_=>rfl
      | 2,_=>rfl
      | 3,_=>rfl
      | 4,_=>rfl
      | 5,_=>rfl
      | 6,_=>rfl
      | 7,_=>rfl
      | 8,_=>rfl
     have rec4:Box W4 a1 (rwR mv ao6 cap6 ao7 cap7 ao8 cap8).toArray 43:=(H2.out.below HBW.out l2).call HTB.out.bel
     have HMV:Hid (∀ W,Below W4.heap.size W4 W→Calls Tryz.prog 82 #[.agg (rwS s).toArray,.int .i64 (G:Int),.int .i64 (k:Int),.agg #[.int .i64 b0.stamp,.slice ao b0.bytes.1 ca],.agg (rwR mv ao6 cap6 ao7 cap7 ao8 cap8).toArray] W fun e w'=>∃ g off cp,e=.returned (.agg #[.int .i64 mv.seq,.slice (some ⟨g,off,none⟩) 4 cp])∧W.heap.size≤g∧g<w'.heap.size∧(∀ t,t<4→w'.cell? ⟨g,off+t,none⟩=some (.int .u8 (movN s G k b0 mv t)))∧Below W.heap.size W w'):=fun W hW=>by
      have hb4:Below wr.heap.size wr W:=HTB.out.bel.trans (hW.mono HTB.out.bel.size);have ew:=HWAS.out;rw [← HD.out,← HB0.out] at ew;refine zkS s n G k b0 mv ao ca ao6 ao7 ao8 cap6 cap7 cap8 wr.heap.size W HM.out hb4.size (zae.rd_mono (zae.rd_below HRW.out hb4 (by omega)) (by omega)) (zaf.rd_below ew hb4 (Nat.le_refl _)) hlt ?_;have:=HF1.out.four k hlt;rw [← HD.out,← HRR.out,← HB0.out] at this;exact this
     have f_s:W4.cell? ⟨E,5,none⟩=some (.int .i64 (s 0))∧W4.cell? ⟨E,6,none⟩=some (.int .i64 (s 1))∧W4.cell? ⟨E,7,none⟩=some (.int .i64 (s 2))∧W4.cell? ⟨E,8,none⟩=some (.int .i64 (s 3))∧W4.cell? ⟨E,9,none⟩=some (.int .i64 (s 4))∧W4.cell? ⟨E,10,none⟩=some (.int .i64 (s 5))∧W4.cell? ⟨E,11,none⟩=some (.int .i64 (s 6))∧W4.cell? ⟨E,12,none⟩=some (.int .i64 (s 7))∧W4.cell? ⟨E,13,none⟩=some (.int .i64 (s 8)):=⟨q0 0 (by decide),q0 1 (by decide),q0 2 (by decide),q0 3 (by decide),q0 4 (by decide),q0 5 (by decide),q0 6 (by decide),q0 7 (by decide),q0 8 (by decide)⟩
     have hE4:E<W4.heap.size:=by have:=HB1.out.lt;have:=HTB.out.bel.size;omega
     have ha0:a0<W4.heap.size:=by have:=HTB.out.bel.size;omega
     have ha1:a1<W4.heap.size:=by have:=HTB.out.bel.size;omega
     have hpw:wr.heap.size+1<W4.heap.size:=HTB.out.b2.lt;obtain ⟨pw,hpwe⟩:∃ pw,pw=wr.heap.size+1:=⟨_,rfl⟩
     have XW:Box W4 pw #[.int .i64 b0.stamp,.slice ao b0.bytes.1 ca] 99:=by rw [hpwe];exact HTB.out.b2
     rw [← hpwe] at hpw v1 ⊢;have HPW:=hid hpwe;have r0':W4.cell? ⟨a0,0,none⟩=some (.int .i64 (G:Int)):=(HTB.out.bel.cell (p:=⟨a0,0,none⟩) hk0).trans ((HBW.out.cell (p:=⟨a0,0,none⟩) l1).trans H1.out);have HKS:Hid (∀ w',Below W4.heap.size W4 w'→(w'.cell? ⟨E,5,none⟩=some (.int .i64 (s 0))∧w'.cell? ⟨E,6,none⟩=some (.int .i64 (s 1))∧w'.cell? ⟨E,7,none⟩=some (.int .i64 (s 2))∧w'.cell? ⟨E,8,none⟩=some (.int .i64 (s 3))∧w'.cell? ⟨E,9,none⟩=some (.int .i64 (s 4))∧w'.cell? ⟨E,10,none⟩=some (.int .i64 (s 5))∧w'.cell? ⟨E,11,none⟩=some (.int .i64 (s 6))∧w'.cell? ⟨E,12,none⟩=some (.int .i64 (s 7))∧w'.cell? ⟨E,13,none⟩=some (.int .i64 (s 8))∧w'.cell? ⟨a0,0,none⟩=some (.int .i64 (G:Int))∧w'.cell? ⟨pw,0,none⟩=some (.int .i64 b0.stamp)∧w'.cell? ⟨pw,1,none⟩=some (.slice ao b0.bytes.1 ca)∧w'.cell? ⟨a1,0,none⟩=some (.int .i64 mv.kind)∧w'.cell? ⟨a1,1,none⟩=some (.int .i64 mv.seq)∧w'.cell? ⟨a1,2,none⟩=some (.string mv.name)∧w'.cell? ⟨a1,3,none⟩=some (.int .i64 mv.length)∧w'.cell? ⟨a1,4,none⟩=some (.int .i64 mv.group)∧w'.cell? ⟨a1,5,none⟩=some (.int .i64 mv.row)∧w'.cell? ⟨a1,6,none⟩=some (.slice ao6 mv.rows.1 cap6)∧w'.cell? ⟨a1,7,none⟩=some (.slice ao7 mv.data.1 cap7)∧w'.cell? ⟨a1,8,none⟩=some (.slice ao8 mv.delta.1 cap8))):=fun w' hb=>⟨(hb.cell (p:=⟨E,5,none⟩) hE4).trans (f_s.1),(hb.cell (p:=⟨E,6,none⟩) hE4).trans (f_s.2.1),(hb.cell (p:=⟨E,7,none⟩) hE4).trans (f_s.2.2.1),(hb.cell (p:=⟨E,8,none⟩) hE4).trans (f_s.2.2.2.1),(hb.cell (p:=⟨E,9,none⟩) hE4).trans (f_s.2.2.2.2.1),(hb.cell (p:=⟨E,10,none⟩) hE4).trans (f_s.2.2.2.2.2.1),(hb.cell (p:=⟨E,11,none⟩) hE4).trans (f_s.2.2.2.2.2.2.1),(hb.cell (p:=⟨E,12,none⟩) hE4).trans (f_s.2.2.2.2.2.2.2.1),(hb.cell (p:=⟨E,13,none⟩) hE4).trans (f_s.2.2.2.2.2.2.2.2),(hb.cell (p:=⟨a0,0,none⟩) ha0).trans r0',(hb.cell (p:=⟨pw,0,none⟩) hpw).trans (XW.cell 0),(hb.cell (p:=⟨pw,1,none⟩) hpw).trans (XW.cell 1),(hb.cell (p:=⟨a1,0,none⟩) ha1).trans (rec4.cell 0),(hb.cell (p:=⟨a1,1,none⟩) ha1).trans (rec4.cell 1),(hb.cell (p:=⟨a1,2,none⟩) ha1).trans (rec4.cell 2),(hb.cell (p:=⟨a1,3,none⟩) ha1).trans (rec4.cell 3),(hb.cell (p:=⟨a1,4,none⟩) ha1).trans (rec4.cell 4),(hb.cell (p:=⟨a1,5,none⟩) ha1).trans (rec4.cell 5),(hb.cell (p:=⟨a1,6,none⟩) ha1).trans (rec4.cell 6),(hb.cell (p:=⟨a1,7,none⟩) ha1).trans (rec4.cell 7),(hb.cell (p:=⟨a1,8,none⟩) ha1).trans (rec4.cell 8)⟩;clear hpwe q0 hsh f_s;obtain ⟨W5,hW5⟩:∃ x,x=W4.drew:=⟨_,rfl⟩
     have bD:Below W4.heap.size W4 W5:=by rw [hW5];exact ⟨rfl,rfl,rfl,Nat.le_refl _,fun _ _=>rfl⟩
     have HBD:=hid bD;have HSD:=hid (HKS.out W5 bD);have hSD:=HSD.out;have HDW:=hid hW5;clear hW5
     go_upto_region 6 with fail
     refine zcy 12 (fun w'=>w'.cell? ⟨E,5,none⟩=some (.int .i64 (s 0))∧w'.cell? ⟨E,6,none⟩=some (.int .i64 (s 1))∧w'.cell? ⟨E,7,none⟩=some (.int .i64 (s 2))∧w'.cell? ⟨E,8,none⟩=some (.int .i64 (s 3))∧w'.cell? ⟨E,9,none⟩=some (.int .i64 (s 4))∧w'.cell? ⟨E,10,none⟩=some (.int .i64 (s 5))∧w'.cell? ⟨E,11,none⟩=some (.int .i64 (s 6))∧w'.cell? ⟨E,12,none⟩=some (.int .i64 (s 7))∧w'.cell? ⟨E,13,none⟩=some (.int .i64 (s 8))∧w'.cell? ⟨a0,0,none⟩=some (.int .i64 (G:Int))∧w'.cell? ⟨pw,0,none⟩=some (.int .i64 b0.stamp)∧w'.cell? ⟨pw,1,none⟩=some (.slice ao b0.bytes.1 ca)∧w'.cell? ⟨a1,0,none⟩=some (.int .i64 mv.kind)∧w'.cell? ⟨a1,1,none⟩=some (.int .i64 mv.seq)∧w'.cell? ⟨a1,2,none⟩=some (.string mv.name)∧w'.cell? ⟨a1,3,none⟩=some (.int .i64 mv.length)∧w'.cell? ⟨a1,4,none⟩=some (.int .i64 mv.group)∧w'.cell? ⟨a1,5,none⟩=some (.int .i64 mv.row)∧w'.cell? ⟨a1,6,none⟩=some (.slice ao6 mv.rows.1 cap6)∧w'.cell? ⟨a1,7,none⟩=some (.slice ao7 mv.data.1 cap7)∧w'.cell? ⟨a1,8,none⟩=some (.slice ao8 mv.delta.1 cap8)) zhu (by rw [← HDW.out];exact hSD) (fun hHeld=>?_);rw [← HDW.out] at hHeld ⊢;refine zap (i:=0) (oi:=_) (v:=?_) rfl (by kernel_rfl) (fun _ _ _ h=>h) (Or.inl ⟨by kernel_rfl,?_⟩) (by assumption) ?_
     rotate_left
     ·intro w' hSw
      try dsimp only at hSw
      obtain ⟨q0,q1,q2,q3,q4,q5,q6,q7,q8,q9,q10,q11,q12,q13,q14,q15,q16,q17,q18,q19,q20⟩:=hSw;go_simp
      try with_reducible rfl
     try simp only [Act.put,SL]
     refine zap (i:=1) (oi:=_) (v:=?_) rfl (by kernel_rfl) (fun _ _ _ h=>h) (Or.inl ⟨by kernel_rfl,?_⟩) (by assumption) ?_
     rotate_left
     ·intro w' hSw
      try dsimp only at hSw
      obtain ⟨q0,q1,q2,q3,q4,q5,q6,q7,q8,q9,q10,q11,q12,q13,q14,q15,q16,q17,q18,q19,q20⟩:=hSw;go_simp
      try with_reducible rfl
     try simp only [Act.put,SL]
     refine zap (i:=2) (oi:=_) (v:=?_) rfl (by kernel_rfl) (fun _ _ _ h=>h) (Or.inl ⟨by kernel_rfl,?_⟩) (by assumption) ?_
     rotate_left
     ·intro w' hSw
      try dsimp only at hSw
      obtain ⟨q0,q1,q2,q3,q4,q5,q6,q7,q8,q9,q10,q11,q12,q13,q14,q15,q16,q17,q18,q19,q20⟩:=hSw;go_simp
      try with_reducible rfl
     try simp only [Act.put,SL]
     refine zap (i:=3) (oi:=_) (v:=?_) rfl (by kernel_rfl) (fun _ _ _ h=>h) (Or.inl ⟨by kernel_rfl,?_⟩) (by assumption) ?_
     rotate_left
     ·intro w' hSw
      try dsimp only at hSw
      obtain ⟨q0,q1,q2,q3,q4,q5,q6,q7,q8,q9,q10,q11,q12,q13,q14,q15,q16,q17,q18,q19,q20⟩:=hSw;go_simp
      try with_reducible rfl
     try simp only [Act.put,SL]
     refine zap (i:=4) (oi:=_) (v:=?_) rfl (by kernel_rfl) (fun _ _ _ h=>h) (Or.inl ⟨by kernel_rfl,?_⟩) (by assumption) ?_
     rotate_left
     ·intro w' hSw
      try dsimp only at hSw
      obtain ⟨q0,q1,q2,q3,q4,q5,q6,q7,q8,q9,q10,q11,q12,q13,q14,q15,q16,q17,q18,q19,q20⟩:=hSw;go_simp
      try with_reducible rfl
     try simp only [Act.put,SL]
     refine zap (i:=5) (oi:=_) (v:=?_) rfl (by kernel_rfl) (fun _ _ _ h=>h) (Or.inl ⟨by kernel_rfl,?_⟩) (by assumption) ?_
     rotate_left
     ·intro w' hSw
      try dsimp only at hSw
      obtain ⟨q0,q1,q2,q3,q4,q5,q6,q7,q8,q9,q10,q11,q12,q13,q14,q15,q16,q17,q18,q19,q20⟩:=hSw;go_simp
      try with_reducible rfl
     try simp only [Act.put,SL]
     refine zap (i:=6) (oi:=_) (v:=?_) rfl (by kernel_rfl) (fun _ _ _ h=>h) (Or.inl ⟨by kernel_rfl,?_⟩) (by assumption) ?_
     rotate_left
     ·intro w' hSw
      try dsimp only at hSw
      obtain ⟨q0,q1,q2,q3,q4,q5,q6,q7,q8,q9,q10,q11,q12,q13,q14,q15,q16,q17,q18,q19,q20⟩:=hSw;go_simp
      try with_reducible rfl
     try simp only [Act.put,SL]
     refine zap (i:=7) (oi:=_) (v:=?_) rfl (by kernel_rfl) (fun _ _ _ h=>h) (Or.inl ⟨by kernel_rfl,?_⟩) (by assumption) ?_
     rotate_left
     ·intro w' hSw
      try dsimp only at hSw
      obtain ⟨q0,q1,q2,q3,q4,q5,q6,q7,q8,q9,q10,q11,q12,q13,q14,q15,q16,q17,q18,q19,q20⟩:=hSw;go_simp
      try with_reducible rfl
     try simp only [Act.put,SL]
     refine zap (i:=8) (oi:=_) (v:=?_) rfl (by kernel_rfl) (fun _ _ _ h=>h) (Or.inl ⟨by kernel_rfl,?_⟩) (by assumption) ?_
     rotate_left
     ·intro w' hSw
      try dsimp only at hSw
      obtain ⟨q0,q1,q2,q3,q4,q5,q6,q7,q8,q9,q10,q11,q12,q13,q14,q15,q16,q17,q18,q19,q20⟩:=hSw;go_simp
      try with_reducible rfl
     try simp only [Act.put,SL]
     refine ziq (i:=9) (j:=10) (o:=_) (o':=_) rfl rfl (by kernel_rfl) (fun KC hKC=>?_) (fun KC hKC=>?_)
     ·refine zcM (by kernel_rfl) (.func 82) 82 #[] _ _ rfl (by simp [Act.eval,Act.put]) #[.agg (rwS s).toArray,.int .i64 (G:Int),.int .i64 (k:Int),.agg #[.int .i64 b0.stamp,.slice ao b0.bytes.1 ca],.agg (rwR mv ao6 cap6 ao7 cap7 ao8 cap8).toArray] (by simp [Act.eval,Act.put]) Tryz.func82 (by kernel_rfl) (by kernel_rfl) (HMV.out W5 HBD.out) ?_
      rintro e w6 ⟨g,off,cp,rfl,hg5,hg6,hgc,b6⟩;refine ⟨_,rfl,?_⟩;have hS6:=HKS.out w6 (HBD.out.trans (b6.mono HBD.out.size));refine hKC _ _ hS6 ?_;clear hKC KC
      try simp only [Act.put,SL]
      refine zbt (i:=10) (o:=_) rfl (by kernel_rfl) (fun KC hKC=>?_)
      try rw [if_pos (by kernel_rfl)]
      go_simp;have bA:=bAl w6 (.cells #[.int .i64 0,.slice none 0 0] 99);have XA:Box (w6.alloc (.cells #[.int .i64 0,.slice none 0 0] 99)) w6.heap.size ([.int .i64 0,.slice none 0 0]:List Value).toArray 99:=zay _ _ _;have HB6:=hid (HBD.out.trans (b6.mono HBD.out.size));refine hKC _ _ (HKS.out _ (HB6.out.trans (bA.mono HB6.out.size))) ?_;clear hKC KC
      try simp only [Act.put,SL]
      obtain ⟨px,hpx⟩:∃ x,x=w6.heap.size:=⟨_,rfl⟩;obtain ⟨w7,hw7⟩:∃ x,x=w6.alloc (.cells #[.int .i64 0,.slice none 0 0] 99):=⟨_,rfl⟩;rw [← hw7] at bA XA ⊢;rw [← hpx] at XA ⊢;have HB7:=hid (HB6.out.trans (bA.mono HB6.out.size))
      have hgp:g≠px:=by omega
      have hp4:W4.heap.size≤px:=by have:=HB6.out.size;omega
      have hg4:W4.heap.size≤g:=by have:=HBD.out.size;omega
      have HGC:Hid (∀ t,t<4→w7.cell? ⟨g,off+t,none⟩=some (.int .u8 (movN s G k b0 mv t))):=fun t ht=>(bA.cell (p:=⟨g,off+t,none⟩) hg6).trans (hgc t ht)
      have hg7:g<w7.heap.size:=by have:=bA.size;omega
      clear hw7 hpx bA b6 hgc hg5 hg6 hS6;refine zbt (i:=11) (o:=_) rfl (by kernel_rfl) (fun KC hKC=>?_);refine zcE 99 _ _ rfl rfl px (by simp [Act.eval,Act.put]) (cs:=[.int .i64 mv.seq,.slice (some ⟨g,off,none⟩) 4 cp]) (old:=[.int .i64 0,.slice none 0 0]) (by simp [Act.eval,Act.put]) XA zdD rfl rfl (fun v hv=>by simp at hv;rcases hv with rfl | rfl<;>rfl) ?_;intro w8 X8 C8 z8;have HB8:Hid (Below W4.heap.size W4 w8):=HB7.out.trans (C8.bel (fun b hb=>by simp at hb;omega) HB7.out.size);refine hKC _ _ (HKS.out w8 HB8.out) ?_;clear hKC KC XA
      try simp only [Act.put,SL]
      refine zb6 (by kernel_rfl) ?_ _;clear hHeld
      have hE8:E<w8.heap.size:=by have:=HB8.out.size;omega
      have hgE:g≠E:=by omega
      have hg8:g<w8.heap.size:=by omega
      have bw8:Below wr.heap.size wr w8:=HTB.out.bel.trans (HB8.out.mono HTB.out.bel.size);have HB9:=hid bw8
      have HKF:Hid (∀ t,movN s G k b0 mv t<256):=fun t=>zis H8.out.1 H8.out.2 (fun i=>by
       have ew:=HWAS.out;rw [← HD.out,← HB0.out] at ew;obtain ⟨xo,xc,eb,rb,-⟩:=za6 ew
       exact (zdF rb).2 i) t
      have HGC8:Hid (∀ W',ChgL [E] w8 W'→∀ t,t<4→W'.cell? ⟨g,off+t,none⟩=some (.int .u8 (movN s G k b0 mv t))):=fun W' hc t ht=>(World.cell?_of_block (a:=⟨g,off+t,none⟩) (hc.block g hg8 (by simp;exact hgE))).trans ((World.cell?_of_block (a:=⟨g,off+t,none⟩) (C8.block g hg7 (by simp;exact hgp))).trans (HGC.out t ht));have hBk8:Box w8 E (([.int .i32 0,.int .u32 0,.int .u32 0,.int .i32 0,.int .u32 0]:List Value)++cs1).toArray 133:=HB1.out.call bw8;have hOk8:EncO w8 E d1 cs1 K1:=⟨Lay.own_kept _ HO1.out.own (fun b hb'=>bw8.block b (zab.own_lt HO1.out.own b hb')),HO1.out.nd,HO1.out.ne⟩;have CR:=zfW E cs1 d1 K1 G k R (movB s G k b0 mv) (some ⟨g,off,none⟩) cp w8 hBk8 hOk8 HF1.out.grp (by rw [HF1.out.num];exact hlt) (by rw [← HD.out];exact hR1) (fun W' hc=>zi4 (by have:=hc.size;omega) (HGC8.out W' hc) HKF.out HSQ.out) (by show 4≤1048576;decide) (by have:=HF1.out.low;have:=HW1.out;omega);obtain ⟨oc,hoc⟩:∃ x,x=rawO (fun d=>zch d G k R (movB s G k b0 mv)) d1:=⟨_,rfl⟩;rw [← hoc] at CR
      have HST:Hid (zao s G mv k d1=oc):=by
       unfold zao;rw [if_pos HOD.out,hoc];refine zkZ ?_;rw [← HRR.out,← HD.out,← HB0.out]
      have HOC:=hid hoc;have CR':Calls Tryz.prog 83 #[.pointer (some ⟨E,0,none⟩),.int .i64 (G:Int),.int .i64 (k:Int),.int .i64 (R:Int),.agg #[.int .i64 mv.seq,.slice (some ⟨g,off,none⟩) 4 cp]] w8 (WrP oc E cs1 K1 w8):=CR;have HCR:=hid CR';have e0:w8.cell? ⟨a0,0,none⟩=some (.int .i64 (G:Int)):=(HB8.out.cell (p:=⟨a0,0,none⟩) ha0).trans r0'
      have e5:w8.cell? ⟨a1,5,none⟩=some (.int .i64 (R:Int)):=by
       rw [← HMR.out];exact (HB8.out.cell (p:=⟨a1,5,none⟩) ha1).trans (rec4.cell 5)
      have p0:w8.cell? ⟨px,0,none⟩=some (.int .i64 mv.seq):=X8.cell 0;have p1:w8.cell? ⟨px,1,none⟩=some (.slice (some ⟨g,off,none⟩) 4 cp):=X8.cell 1;have HCW:=hid (HC1.out.trans (ChgL.of_below bw8));clear CR CR' hoc hBk8 hOk8 bw8 X8 C8 z8 v0 v1 v2 d5 hSD HOL
      cases oc with
      | cut d2=>
       go_wp2_with (go_at_call 83;refine HCR.out.mono ?_;rintro e w9 ⟨rfl,K9,X9,s9,C9⟩)
       have zw:=HCW.out.size;refine ⟨rfl,?_⟩
       rw [show zcj s G n mv d=.cut d2 from HOo.out.trans (by
        show (zao s G mv k d1).next _=_
        rw [HST.out];rfl)]
       exact ⟨rfl,K9,X9,fun b hb=>by
        rcases s9 b hb with h | h
        ·exact HK1.out b h
        ·exact .inr (by omega),zcZ HCW.out HK1.out C9⟩
      | done c d2=>
       obtain ⟨rfl,hd2⟩:=zhy HOC.out.symm;have HD2:=hid hd2;clear hd2
       go_wp2_with (go_at_call 83;refine HCR.out.mono ?_;rintro e w9 ⟨rfl,cs9,K9,X9,O9,s9,C9,H9⟩)
       go_roundw
       case rel=>
        have zw:=HCW.out.size;have zg:=HGO.out.l1;refine ⟨k+1,m,d2,cs9,K9,by omega,by go_num,X9,O9,fun b hb=>?_,zcZ HCW.out HK1.out C9,?_,?_,?_,H9.1.trans HN9.out.1,?_⟩
        ·rcases s9 b hb with h | h
         ·exact HK1.out b h
         ·exact .inr (by omega)
        ·rw [HD2.out,HRR.out]
         exact HF1.out.write k _ rfl
        ·rw [HD2.out]
         show d1.writes+1+(m:Int)≤_
         have:=HW1.out;omega
        ·rw [HOo.out]
         show (zao s G mv k d1).next _=_
         rw [HST.out];rfl
        ·have en:=HN9.out.1
         rw [HGO.out.nine] at en;exact ((H9.2 g1 _ _ en (by omega) HGO.out.ne).trans (HB9.out.block g1 (by omega))).trans HN9.out.2
       case measure=>simp [intOf];omega
     ·try rw [if_pos (by kernel_rfl)]
      go_simp;have bA:=bAl W5 (.cells #[.int .i64 0,.slice none 0 0] 99);have XA:Box (W5.alloc (.cells #[.int .i64 0,.slice none 0 0] 99)) W5.heap.size ([.int .i64 0,.slice none 0 0]:List Value).toArray 99:=zay _ _ _;have HB6:=hid (HBD.out.trans (bA.mono HBD.out.size));refine hKC _ _ (HKS.out _ HB6.out) ?_;clear hKC KC
      try simp only [Act.put,SL]
      obtain ⟨px,hpx⟩:∃ x,x=W5.heap.size:=⟨_,rfl⟩;obtain ⟨w6,hw6⟩:∃ x,x=W5.alloc (.cells #[.int .i64 0,.slice none 0 0] 99):=⟨_,rfl⟩;rw [← hw6] at bA XA HB6 ⊢;rw [← hpx] at XA ⊢;refine zbt (i:=9) (o:=_) rfl (by kernel_rfl) (fun KC hKC=>?_);refine zcM (by kernel_rfl) (.func 82) 82 #[] _ _ rfl (by simp [Act.eval,Act.put]) #[.agg (rwS s).toArray,.int .i64 (G:Int),.int .i64 (k:Int),.agg #[.int .i64 b0.stamp,.slice ao b0.bytes.1 ca],.agg (rwR mv ao6 cap6 ao7 cap7 ao8 cap8).toArray] (by simp [Act.eval,Act.put]) Tryz.func82 (by kernel_rfl) (by kernel_rfl) (HMV.out w6 HB6.out) ?_;rintro e w7 ⟨g,off,cp,rfl,hg5,hg7,hgc,b6⟩;refine ⟨_,rfl,?_⟩;have HB7:=hid (HB6.out.trans (b6.mono HB6.out.size));refine hKC _ _ (HKS.out w7 HB7.out) ?_;clear hKC KC
      try simp only [Act.put,SL]
      have hxl:=XA.lt;replace XA:=XA.call b6
      have hgp:g≠px:=by omega
      have hp4:W4.heap.size≤px:=by have:=HBD.out.size;omega
      have hg4:W4.heap.size≤g:=by have:=HB6.out.size;omega
      have HGC:=hid hgc;clear hw6 hpx bA b6 hgc hg5 hxl;refine zbt (i:=11) (o:=_) rfl (by kernel_rfl) (fun KC hKC=>?_);refine zcE 99 _ _ rfl rfl px (by simp [Act.eval,Act.put]) (cs:=[.int .i64 mv.seq,.slice (some ⟨g,off,none⟩) 4 cp]) (old:=[.int .i64 0,.slice none 0 0]) (by simp [Act.eval,Act.put]) XA zdD rfl rfl (fun v hv=>by simp at hv;rcases hv with rfl | rfl<;>rfl) ?_;intro w8 X8 C8 z8;have HB8:Hid (Below W4.heap.size W4 w8):=HB7.out.trans (C8.bel (fun b hb=>by simp at hb;omega) HB7.out.size);refine hKC _ _ (HKS.out w8 HB8.out) ?_;clear hKC KC XA
      try simp only [Act.put,SL]
      refine zb6 (by kernel_rfl) ?_ _;clear hHeld
      have hE8:E<w8.heap.size:=by have:=HB8.out.size;omega
      have hgE:g≠E:=by omega
      have hg8:g<w8.heap.size:=by omega
      have bw8:Below wr.heap.size wr w8:=HTB.out.bel.trans (HB8.out.mono HTB.out.bel.size);have HB9:=hid bw8
      have HKF:Hid (∀ t,movN s G k b0 mv t<256):=fun t=>zis H8.out.1 H8.out.2 (fun i=>by
       have ew:=HWAS.out;rw [← HD.out,← HB0.out] at ew;obtain ⟨xo,xc,eb,rb,-⟩:=za6 ew
       exact (zdF rb).2 i) t
      have HGC8:Hid (∀ W',ChgL [E] w8 W'→∀ t,t<4→W'.cell? ⟨g,off+t,none⟩=some (.int .u8 (movN s G k b0 mv t))):=fun W' hc t ht=>(World.cell?_of_block (a:=⟨g,off+t,none⟩) (hc.block g hg8 (by simp;exact hgE))).trans ((World.cell?_of_block (a:=⟨g,off+t,none⟩) (C8.block g hg7 (by simp;exact hgp))).trans (HGC.out t ht));have hBk8:Box w8 E (([.int .i32 0,.int .u32 0,.int .u32 0,.int .i32 0,.int .u32 0]:List Value)++cs1).toArray 133:=HB1.out.call bw8;have hOk8:EncO w8 E d1 cs1 K1:=⟨Lay.own_kept _ HO1.out.own (fun b hb'=>bw8.block b (zab.own_lt HO1.out.own b hb')),HO1.out.nd,HO1.out.ne⟩;have CR:=zfW E cs1 d1 K1 G k R (movB s G k b0 mv) (some ⟨g,off,none⟩) cp w8 hBk8 hOk8 HF1.out.grp (by rw [HF1.out.num];exact hlt) (by rw [← HD.out];exact hR1) (fun W' hc=>zi4 (by have:=hc.size;omega) (HGC8.out W' hc) HKF.out HSQ.out) (by show 4≤1048576;decide) (by have:=HF1.out.low;have:=HW1.out;omega);obtain ⟨oc,hoc⟩:∃ x,x=rawO (fun d=>zch d G k R (movB s G k b0 mv)) d1:=⟨_,rfl⟩;rw [← hoc] at CR
      have HST:Hid (zao s G mv k d1=oc):=by
       unfold zao;rw [if_pos HOD.out,hoc];refine zkZ ?_;rw [← HRR.out,← HD.out,← HB0.out]
      have HOC:=hid hoc;have CR':Calls Tryz.prog 83 #[.pointer (some ⟨E,0,none⟩),.int .i64 (G:Int),.int .i64 (k:Int),.int .i64 (R:Int),.agg #[.int .i64 mv.seq,.slice (some ⟨g,off,none⟩) 4 cp]] w8 (WrP oc E cs1 K1 w8):=CR;have HCR:=hid CR';have e0:w8.cell? ⟨a0,0,none⟩=some (.int .i64 (G:Int)):=(HB8.out.cell (p:=⟨a0,0,none⟩) ha0).trans r0'
      have e5:w8.cell? ⟨a1,5,none⟩=some (.int .i64 (R:Int)):=by
       rw [← HMR.out];exact (HB8.out.cell (p:=⟨a1,5,none⟩) ha1).trans (rec4.cell 5)
      have p0:w8.cell? ⟨px,0,none⟩=some (.int .i64 mv.seq):=X8.cell 0;have p1:w8.cell? ⟨px,1,none⟩=some (.slice (some ⟨g,off,none⟩) 4 cp):=X8.cell 1;have HCW:=hid (HC1.out.trans (ChgL.of_below bw8));clear CR CR' hoc hBk8 hOk8 bw8 X8 C8 z8 v0 v1 v2 d5 hSD HOL
      cases oc with
      | cut d2=>
       go_wp2_with (go_at_call 83;refine HCR.out.mono ?_;rintro e w9 ⟨rfl,K9,X9,s9,C9⟩)
       have zw:=HCW.out.size;refine ⟨rfl,?_⟩
       rw [show zcj s G n mv d=.cut d2 from HOo.out.trans (by
        show (zao s G mv k d1).next _=_
        rw [HST.out];rfl)]
       exact ⟨rfl,K9,X9,fun b hb=>by
        rcases s9 b hb with h | h
        ·exact HK1.out b h
        ·exact .inr (by omega),zcZ HCW.out HK1.out C9⟩
      | done c d2=>
       obtain ⟨rfl,hd2⟩:=zhy HOC.out.symm;have HD2:=hid hd2;clear hd2
       go_wp2_with (go_at_call 83;refine HCR.out.mono ?_;rintro e w9 ⟨rfl,cs9,K9,X9,O9,s9,C9,H9⟩)
       go_roundw
       case rel=>
        have zw:=HCW.out.size;have zg:=HGO.out.l1;refine ⟨k+1,m,d2,cs9,K9,by omega,by go_num,X9,O9,fun b hb=>?_,zcZ HCW.out HK1.out C9,?_,?_,?_,H9.1.trans HN9.out.1,?_⟩
        ·rcases s9 b hb with h | h
         ·exact HK1.out b h
         ·exact .inr (by omega)
        ·rw [HD2.out,HRR.out]
         exact HF1.out.write k _ rfl
        ·rw [HD2.out]
         show d1.writes+1+(m:Int)≤_
         have:=HW1.out;omega
        ·rw [HOo.out]
         show (zao s G mv k d1).next _=_
         rw [HST.out];rfl
        ·have en:=HN9.out.1
         rw [HGO.out.nine] at en;exact ((H9.2 g1 _ _ en (by omega) HGO.out.ne).trans (HB9.out.block g1 (by omega))).trans HN9.out.2
       case measure=>simp [intOf];omega
def WhP (s:Nat→Int) (g r:Int):Prop:=InP g 0 (s 0+s 1-1)∧InP r 0 (s 4-1)
theorem zlk {s:Nat→Int} (h:zar s) (g r:Int):zhw s g 0 r↔WhP s g r:=by
 obtain ⟨s1,s2,_⟩:=h;unfold Shp at s2;unfold zhw WhP
 constructor
 ·rintro ⟨a,b,c⟩;exact ⟨a,c⟩
 ·rintro ⟨a,c⟩;exact ⟨a,by unfold InP;omega,c⟩
def WhereAns (d:WorldD) (g r x:Int):Prop:=(x≠0∧AskAns d x)∨(AskAns d 0∧((¬ WhP d.shape g r∧x=3)∨(WhP d.shape g r∧((¬ HasP d.on.1 d.on.2 g∧x=8)∨(HasP d.on.1 d.on.2 g∧x=0)))))
theorem WhereAns.one {d:WorldD} {g r x y:Int} (h:WhereAns d g r x) (l:WhereAns d g r y):x=y:=by
 rcases h with ⟨h1,h2⟩ | ⟨h1,h⟩<;>rcases l with ⟨k1,k2⟩ | ⟨k1,l⟩
 ·exact h2.one k2
 ·exact absurd (h2.one k1) h1
 ·exact absurd (k2.one h1) k1
 ·rcases h with ⟨h2,rfl⟩ | ⟨h2,h⟩<;>rcases l with ⟨k2,rfl⟩ | ⟨k2,l⟩
  ·rfl
  ·exact absurd k2 h2
  ·exact absurd h2 k2
  ·rcases h with ⟨h3,rfl⟩ | ⟨h3,rfl⟩<;>rcases l with ⟨k3,rfl⟩ | ⟨k3,rfl⟩
   ·rfl
   ·exact absurd k3 h3
   ·exact absurd h3 k3
   ·rfl
theorem zc1 {d:WorldD} {g r x:Int} (h:WhereAns d g r x):-9223372036854775808≤x∧x≤9223372036854775807:=by
 rcases h with ⟨_,h⟩ | ⟨_,⟨_,rfl⟩ | ⟨_,⟨_,rfl⟩ | ⟨_,rfl⟩⟩⟩
 ·exact zkW h
 ·decide
 ·decide
 ·decide
def zlK (P:Int→Prop) (w:World) (e:Ending) (w':World):Prop:=∃ x,e=.returned (.int .i64 x)∧P x∧Below w.heap.size w w'
set_option maxRecDepth 20000 in
theorem zix (d:WorldD) (g:Int) (cs:List Value) (hi:Nat) (w:World) (h:zab.rd w hi d cs) (hhi:hi≤w.heap.size) (hok:zar d.shape) :
 Calls Tryz.prog 70 #[.agg cs.toArray,.int .i64 g] w (zlK (fun x=>(¬ InP g 0 (d.shape 0+d.shape 1-1)∧x=3)∨(InP g 0 (d.shape 0+d.shape 1-1)∧((¬ HasP d.on.1 d.on.2 g∧x=8)∨(HasP d.on.1 d.on.2 g∧x=0)))) w):=by
 have h':=h;obtain ⟨ao1,cap1,ao2,cap2,ao3,cap3,rfl,g1,g2,g3,k0,k4,k5⟩:=zaK h';have HRD:=hid h
 have HG2:Hid (RdI w hi (.slice ao2 d.on.1 cap2) d.on.1 d.on.2):=by
  obtain ⟨_,e2,⟨h2,_⟩,_⟩:=g2
  cases e2
  exact h2
 clear h h' g1 g2 g3 k0 k4 k5;have T0:=zaI w (rwW d ao1 cap1 ao2 cap2 ao3 cap3).toArray 38;have HT:=hid T0;obtain ⟨t,ht⟩:=exB (InP g 0 (d.shape 0+d.shape 1-1));have Ht:=hid ht;have CI:=zfd hok ht (w.alloc (.cells (rwW d ao1 cap1 ao2 cap2 ao3 cap3).toArray 38));unfold zak at CI;have x_0:(w.alloc (.cells (rwW d ao1 cap1 ao2 cap2 ao3 cap3).toArray 38)).cell? ⟨w.heap.size,0,none⟩=some (.int .i64 (d.shape 0)):=T0.b1.cell 0;have x_1:(w.alloc (.cells (rwW d ao1 cap1 ao2 cap2 ao3 cap3).toArray 38)).cell? ⟨w.heap.size,1,none⟩=some (.int .i64 (d.shape 1)):=T0.b1.cell 1;have x_2:(w.alloc (.cells (rwW d ao1 cap1 ao2 cap2 ao3 cap3).toArray 38)).cell? ⟨w.heap.size,2,none⟩=some (.int .i64 (d.shape 2)):=T0.b1.cell 2
 have x_3:(w.alloc (.cells (rwW d ao1 cap1 ao2 cap2 ao3 cap3).toArray 38)).cell? ⟨w.heap.size,3,none⟩=some (.int .i64 (d.shape 3)):=T0.b1.cell 3;have x_4:(w.alloc (.cells (rwW d ao1 cap1 ao2 cap2 ao3 cap3).toArray 38)).cell? ⟨w.heap.size,4,none⟩=some (.int .i64 (d.shape 4)):=T0.b1.cell 4;have x_5:(w.alloc (.cells (rwW d ao1 cap1 ao2 cap2 ao3 cap3).toArray 38)).cell? ⟨w.heap.size,5,none⟩=some (.int .i64 (d.shape 5)):=T0.b1.cell 5;have x_6:(w.alloc (.cells (rwW d ao1 cap1 ao2 cap2 ao3 cap3).toArray 38)).cell? ⟨w.heap.size,6,none⟩=some (.int .i64 (d.shape 6)):=T0.b1.cell 6;have x_7:(w.alloc (.cells (rwW d ao1 cap1 ao2 cap2 ao3 cap3).toArray 38)).cell? ⟨w.heap.size,7,none⟩=some (.int .i64 (d.shape 7)):=T0.b1.cell 7;have x_8:(w.alloc (.cells (rwW d ao1 cap1 ao2 cap2 ao3 cap3).toArray 38)).cell? ⟨w.heap.size,8,none⟩=some (.int .i64 (d.shape 8)):=T0.b1.cell 8;clear ht T0
 go_enter Tryz.func70,Tryz.ntmps70
 go_wp2_with fail
 refine CI.mono ?_;rintro e w2 ⟨rfl,b2⟩;have HT2:=hid (HT.out.call b2);clear CI b2 HT x_0 x_1 x_2 x_3 x_4 x_5 x_6 x_7 x_8
 cases t with
 | false=>
  go_wp2;go_ret;exact ⟨3,rfl,.inl ⟨fun h=>(by have:=Ht.out.2 h;cases this),rfl⟩,HT2.out.bel⟩
 | true=>
 go_wp2_with (refine zaj 38 (.tmp 2) rfl rfl (w.heap.size) rfl (HT2.out.b1) Tryz.underlying38 zbd rfl ?_)
 refine (zlj d _ hi g _ (zab.rd_below HRD.out HT2.out.bel hhi) (Nat.le_trans hhi HT2.out.bel.size)).mono ?_;rintro e w3 ⟨t,rfl,ht,b3⟩;have HB:Hid (Below w.heap.size w w3):=(HT2.out.call b3).bel;have HH:=hid ht;clear ht b3 HT2
 cases t with
 | false=>
  go_wp2;go_ret;exact ⟨8,rfl,.inr ⟨Ht.out.1 (by simp),.inl ⟨fun h=>(by have:=HH.out.2 h;cases this),rfl⟩⟩,HB.out⟩
 | true=>
  go_wp2;go_ret;exact ⟨0,rfl,.inr ⟨Ht.out.1 (by simp),.inr ⟨HH.out.1 (by simp),rfl⟩⟩,HB.out⟩
set_option maxRecDepth 20000 in
theorem ziy (d:WorldD) (g r:Int) (cs:List Value) (hi:Nat) (w:World) (h:zab.rd w hi d cs) (hhi:hi≤w.heap.size) (hsz:zaW d≤1048576) :
 Calls Tryz.prog 21 #[.agg cs.toArray,.int .i64 g,.int .i64 r] w (zlK (WhereAns d g r) w):=by
 have h':=h;obtain ⟨ao1,cap1,ao2,cap2,ao3,cap3,rfl,g1,g2,g3,k0,k4,k5⟩:=zaK h';have HRD:=hid h
 have HG2:Hid (RdI w hi (.slice ao2 d.on.1 cap2) d.on.1 d.on.2):=by
  obtain ⟨_,e2,⟨h2,_⟩,_⟩:=g2
  cases e2
  exact h2
 clear h h' g1 g2 g3 k0 k4 k5;have T0:=zaI w (rwW d ao1 cap1 ao2 cap2 ao3 cap3).toArray 38;have HSZ:=hid hsz;clear hsz
 go_enter Tryz.func21,Tryz.ntmps21
 go_wp2_with (refine zaj 38 (.tmp 3) rfl rfl (w.heap.size) rfl (T0.b1) Tryz.underlying38 zbd rfl ?_)
 refine (ziu d _ hi _ (zab.rd_below HRD.out T0.bel hhi) (Nat.le_trans hhi T0.bel.size) HSZ.out).mono ?_;rintro e w1 ⟨x,rfl,hx,b1⟩;have HT1:=hid (T0.call b1);have HX:=hid hx;clear b1 T0 hx
 by_cases hx0:x=0
 case neg=>
  have hne:(x != 0)=true:=by simp [hx0]
  go_wp2;go_ret;exact ⟨x,rfl,.inl ⟨hx0,HX.out⟩,HT1.out.bel⟩
 subst hx0;have HOK:=hid (zhx HX.out);have x_0:w1.cell? ⟨w.heap.size,0,none⟩=some (.int .i64 (d.shape 0)):=HT1.out.b1.cell 0;have x_1:w1.cell? ⟨w.heap.size,1,none⟩=some (.int .i64 (d.shape 1)):=HT1.out.b1.cell 1;have x_2:w1.cell? ⟨w.heap.size,2,none⟩=some (.int .i64 (d.shape 2)):=HT1.out.b1.cell 2;have x_3:w1.cell? ⟨w.heap.size,3,none⟩=some (.int .i64 (d.shape 3)):=HT1.out.b1.cell 3;have x_4:w1.cell? ⟨w.heap.size,4,none⟩=some (.int .i64 (d.shape 4)):=HT1.out.b1.cell 4;have x_5:w1.cell? ⟨w.heap.size,5,none⟩=some (.int .i64 (d.shape 5)):=HT1.out.b1.cell 5;have x_6:w1.cell? ⟨w.heap.size,6,none⟩=some (.int .i64 (d.shape 6)):=HT1.out.b1.cell 6;have x_7:w1.cell? ⟨w.heap.size,7,none⟩=some (.int .i64 (d.shape 7)):=HT1.out.b1.cell 7;have x_8:w1.cell? ⟨w.heap.size,8,none⟩=some (.int .i64 (d.shape 8)):=HT1.out.b1.cell 8;have CP:=ziw d.shape HOK.out.shape g 0 r w1;unfold zak at CP
 go_wp2_with fail
 refine CP.mono ?_;rintro e w2 ⟨t,rfl,ht,b2⟩;have Ht:=hid (ht.trans (zlk HOK.out.shape g r));have HT2:=hid (HT1.out.call b2);clear CP b2 ht HT1 x_0 x_1 x_2 x_3 x_4 x_5 x_6 x_7 x_8
 cases t with
 | false=>
  go_wp2;go_ret;exact ⟨3,rfl,.inr ⟨HX.out,.inl ⟨fun h=>(by have:=Ht.out.2 h;cases this),rfl⟩⟩,HT2.out.bel⟩
 | true=>
 have x10:w2.cell? ⟨w.heap.size,10,none⟩=some (.slice ao2 d.on.1 cap2):=HT2.out.b1.cell 10;have CH:=zg7 _ _ _ hi g w2 (HG2.out.below HT2.out.bel hhi)
 go_wp2_with fail
 refine CH.mono ?_;rintro e w3 ⟨t,rfl,ht,b3⟩;have HB:Hid (Below w.heap.size w w3):=(HT2.out.call b3).bel;have HH:=hid ht;clear ht b3 HT2 CH x10
 cases t with
 | false=>
  go_wp2;go_ret;exact ⟨8,rfl,.inr ⟨HX.out,.inr ⟨Ht.out.1 (by simp),.inl ⟨fun h=>(by have:=HH.out.2 h;cases this),rfl⟩⟩⟩,HB.out⟩
 | true=>
  go_wp2;go_ret;exact ⟨0,rfl,.inr ⟨HX.out,.inr ⟨Ht.out.1 (by simp),.inr ⟨HH.out.1 (by simp),rfl⟩⟩⟩,HB.out⟩
theorem zi7 {r:RecD} (h:zaY r≤1048576):r.name.size≤1048576:=by unfold zaY at h;omega
end Go.Proofs.YtlpbohnadenacaaGreat
