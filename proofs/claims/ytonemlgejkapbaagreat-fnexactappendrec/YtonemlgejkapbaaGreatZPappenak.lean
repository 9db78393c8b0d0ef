/- Walk of the specification's AppendRec. -/
import Derived.Test.YtonemlgejkapbaaGreatZPappenaj
set_option linter.unusedVariables false
set_option linter.unusedSimpArgs false
set_option maxHeartbeats 16000000
namespace Go.Proofs.YtonemlgejkapbaaGreat
open Go.RowKit F256
set_option maxRecDepth 20000 in
theorem zen (d:WorldD) (t:Int) (r:RecD) (cs csr:List Value) (hi:Nat) (w:World) (h:zae.rd w hi d cs) (hr:zac.rd w hi r csr) (hhi:hi≤w.heap.size) (hsz:zaS d≤1048576) (hsr:zaH r≤1048576) (ht:-9223372036854775808≤t∧t≤9223372036854775807) :
 Calls Tryz.prog 19 #[.agg cs.toArray,.int .i64 t,.agg csr.toArray] w (zcF (AppAns d t r) w):=by
 have h':=h;obtain ⟨ao1,cap1,ao2,cap2,ao3,cap3,rfl,g1,g2,g3,k0,k4,k5⟩:=zaR h';obtain ⟨o6,k6,o7,k7,o8,k8,rfl,-⟩:=zbd hr;have HRD:Hid (zae.rd w hi d (rwW d ao1 cap1 ao2 cap2 ao3 cap3)):=h;have HRR:Hid (zac.rd w hi r (rwR r o6 k6 o7 k7 o8 k8)):=hr;have HSZ:Hid (zaS d≤1048576):=hsz;have HSR:Hid (zaH r≤1048576):=hsr;have HG3:Hid ((zag.slice 100).rd w hi d.tapes [.slice ao3 d.tapes.1 cap3]):=g3;have hmf:∀ (fn:Fn) (first cap:Array Value) (w:World),(Instr.makeFunc fn first cap).run Tryz.prog w=.ok (.func fn first cap) w:=fun _ _ _ _=>rfl;clear h h' hr hsz hsr g1 g2 g3 k0 k4 k5 ht;have T0:=zbJ w (rwW d ao1 cap1 ao2 cap2 ao3 cap3).toArray (rwR r o6 k6 o7 k7 o8 k8).toArray rwZ.toArray 38 56 40
 go_enter Tryz.func19,Tryz.ntmps19
 go_wp2_with (refine zao 38 (.tmp 3) rfl rfl (w.heap.size) rfl (T0.b1) Tryz.underlying38 zbH rfl ?_)
 refine (zgF d _ hi _ (zae.rd_below HRD.out T0.bel hhi) (Nat.le_trans hhi T0.bel.size) HSZ.out).mono ?_;rintro e w1 ⟨x,rfl,hx,b1⟩;have HT1:Hid (Three w w1 (rwW d ao1 cap1 ao2 cap2 ao3 cap3).toArray (rwR r o6 k6 o7 k7 o8 k8).toArray rwZ.toArray 38 56 40):=T0.call b1;have HX:Hid (AskAns d x):=hx;have z1:w.heap.size+1+1<w1.heap.size:=HT1.out.b3.lt;clear b1 T0 hx
 by_cases hx0:x=0
 case neg=>
  have hne:(x != 0)=true:=by simp [hx0]
  go_wp2_with (refine zaP 40 _ _ rfl rfl (w.heap.size+1+1) rfl (cs:=(.int .i64 x::rwY)) rfl (HT1.out.b3) zax rfl rfl (zbV _ (zdb HX.out) w) ?_;intro w9 X9 C9 z9)
  refine zbL Tryz.results19 rfl X9 Tryz.underlying40 zax rfl rfl ?_;exact zbx (by omega) (zdb HX.out) HT1.out.bel C9 (.inl ⟨x,hx0,HX.out,rfl⟩)
 subst hx0;have HOK:Hid (OkWorld d):=zif HX.out
 skip
 obtain ⟨b,hb⟩:=exB (InP t 0 1);have Hb:Hid (b=true↔InP t 0 1):=hb;have CI:=fun w'=>zb6 hb w';clear hb
 go_wp2_with fail
 refine (CI _).mono ?_;rintro e w1' ⟨rfl,e1⟩;obtain rfl:=e1.symm;clear CI
 cases b with
 | false=>
  go_wp2_with (refine zaP 40 _ _ rfl rfl (w.heap.size+1+1) rfl (cs:=(.int .i64 3::rwY)) rfl (HT1.out.b3) zax rfl rfl (zbV _ (by decide) w) ?_;intro w9 X9 C9 z9)
  refine zbL Tryz.results19 rfl X9 Tryz.underlying40 zax rfl rfl ?_;exact zbx (by omega) (by decide) HT1.out.bel C9 (.inr ⟨HX.out,.inl ⟨fun h=>(by have:=Hb.out.2 h;cases this),rfl⟩⟩)
 | true=>
 have HIN:Hid (InP t 0 1):=Hb.out.1 (by simp);have x_0:w1.cell? ⟨w.heap.size,0,none⟩=some (.int .i64 (d.shape 0)):=HT1.out.b1.cell 0;have x_1:w1.cell? ⟨w.heap.size,1,none⟩=some (.int .i64 (d.shape 1)):=HT1.out.b1.cell 1;have x_2:w1.cell? ⟨w.heap.size,2,none⟩=some (.int .i64 (d.shape 2)):=HT1.out.b1.cell 2;have x_3:w1.cell? ⟨w.heap.size,3,none⟩=some (.int .i64 (d.shape 3)):=HT1.out.b1.cell 3;have x_4:w1.cell? ⟨w.heap.size,4,none⟩=some (.int .i64 (d.shape 4)):=HT1.out.b1.cell 4;have x_5:w1.cell? ⟨w.heap.size,5,none⟩=some (.int .i64 (d.shape 5)):=HT1.out.b1.cell 5;have x_6:w1.cell? ⟨w.heap.size,6,none⟩=some (.int .i64 (d.shape 6)):=HT1.out.b1.cell 6;have x_7:w1.cell? ⟨w.heap.size,7,none⟩=some (.int .i64 (d.shape 7)):=HT1.out.b1.cell 7;have x_8:w1.cell? ⟨w.heap.size,8,none⟩=some (.int .i64 (d.shape 8)):=HT1.out.b1.cell 8;have CRF:=zdQ d.shape r (rwR r o6 k6 o7 k7 o8 k8) hi w1 (zac.rd_below HRR.out HT1.out.bel hhi) (Nat.le_trans hhi HT1.out.bel.size) (zg9 HSR.out);unfold zak at CRF
 go_wp2_with (refine zao 56 (.tmp 5) rfl rfl (w.heap.size+1) rfl (HT1.out.b2) Tryz.underlying56 zg8 rfl ?_)
 refine CRF.mono ?_;rintro e wA ⟨y,rfl,hy,bA⟩;have HTA:Hid (Three w wA (rwW d ao1 cap1 ao2 cap2 ao3 cap3).toArray (rwR r o6 k6 o7 k7 o8 k8).toArray rwZ.toArray 38 56 40):=HT1.out.call bA;have zA:w1.heap.size≤wA.heap.size:=bA.size;have HY:Hid (RecAns d.shape r y):=hy;clear bA CRF hy x_0 x_1 x_2 x_3 x_4 x_5 x_6 x_7 x_8
 by_cases hy0:y=0
 case neg=>
  have hne:(y != 0)=true:=by simp [hy0]
  go_wp2_with (refine zaP 40 _ _ rfl rfl (w.heap.size+1+1) rfl (cs:=(.int .i64 y::rwY)) rfl (HTA.out.b3) zax rfl rfl (zbV _ (zdD HY.out) w) ?_;intro w9 X9 C9 z9)
  refine zbL Tryz.results19 rfl X9 Tryz.underlying40 zax rfl rfl ?_;exact zbx (by omega) (zdD HY.out) HTA.out.bel C9 (.inr ⟨HX.out,.inr ⟨HIN.out,.inl ⟨y,hy0,HY.out,rfl⟩⟩⟩)
 subst hy0;obtain ⟨T,rfl,hT,hn⟩:=zfa HOK.out HIN.out;obtain ⟨_,_,e3,-,hc3⟩:=HG3.out
 cases e3
 obtain ⟨b3,off3,he3,hb3,hel3⟩:=hc3 (by omega);subst he3;obtain ⟨ct,hrt,hct⟩:=zas (t:=0) hel3 HTA.out.bel hhi hb3 hT;obtain ⟨ap,cp,rfl,-⟩:=za1 hrt;have xT:wA.cell? ⟨w.heap.size,11,none⟩=some (.slice (some ⟨b3,off3,none⟩) d.tapes.1 cap3):=HTA.out.b1.cell 11
 skip
 have xr:wA.cell? ⟨b3,off3+T*2+1,none⟩=some (.slice ap (d.tapes.2 T).recs.1 cp):=hct 1 (by decide)
 have i1:(0:Int)≤(T:Int):=by omega
 have i2:(T:Int)<(d.tapes.1:Int):=by omega
 clear hct hrt hel3 hc3
 by_cases hm:(200:Int)≤((d.tapes.2 T).recs.1:Int)
 case pos=>
  have HM:Hid (zim d (T:Int)):=hm;have dm:decide ((200:Int)≤((d.tapes.2 T).recs.1:Int))=true:=decide_eq_true hm
  go_wp2_with (refine zaP 40 _ _ rfl rfl (w.heap.size+1+1) rfl (cs:=(.int .i64 2::rwY)) rfl (HTA.out.b3) zax rfl rfl (zbV _ (by decide) w) ?_;intro w9 X9 C9 z9)
  refine zbL Tryz.results19 rfl X9 Tryz.underlying40 zax rfl rfl ?_;exact zbx (by omega) (by decide) HTA.out.bel C9 (.inr ⟨HX.out,.inr ⟨HIN.out,.inr ⟨HY.out,.inl ⟨HM.out,rfl⟩⟩⟩⟩)
 have HM:Hid (¬ zim d (T:Int)):=hm;have dm:decide ((200:Int)≤((d.tapes.2 T).recs.1:Int))=false:=decide_eq_false hm
 go_wp2_with (refine zao 38 (.tmp 3) rfl rfl (w.heap.size) rfl (HTA.out.b1) Tryz.underlying38 zbH rfl ?_)
 refine (zip _ d hi _ (zae.rd_below HRD.out HTA.out.bel hhi) (Nat.le_trans hhi HTA.out.bel.size) HSZ.out).mono ?_;rintro e w2 ⟨c2,rfl,o2,b2⟩;obtain ⟨p1,c1,p2,c2,p3,c3,K1,K2,K3,rfl,WO2⟩:=zhD o2;have z2:wA.heap.size≤w2.heap.size:=b2.size
 go_upto_region 12 with (refine zbU 38 9 (.tmp 38) _ _ 15 rfl rfl rfl rfl rfl rfl rfl rfl ziK rfl rfl o2.one ?_)
 have bA:=bAl w2 (.cells (rwW d p1 c1 p2 c2 p3 c3).toArray 38);have X3:=zaz w2 (rwW d p1 c1 p2 c2 p3 c3).toArray 38;obtain ⟨W3,hW3⟩:∃ x,x=w2.alloc (.cells (rwW d p1 c1 p2 c2 p3 c3).toArray 38):=⟨_,rfl⟩;rw [← hW3] at bA X3 ⊢;have T3:=(HTA.out.call b2).call bA;have WO:=WO2.below bA (Nat.le_refl _);have z3:w2.heap.size<W3.heap.size:=X3.lt;clear bA hW3 o2 b2 WO2;clear hm dm xT xr;have hup:=zje HX.out
 by_cases hf:zeB d
 ·have HF:Hid (zeB d):=hf
  have CR:=zhH w2.heap.size _ _ _ _ _ _ _ _ _ _ _ _ _ _ _ _ _ _ _ _ _ W3 X3 hup hf.1 hf.2;have O3:=ziV WO.own;clear hf hup
  go_wp2_with fail
  refine CR.mono ?_;rintro e w5 ⟨rfl,X5,C5⟩;have T5:=T3.chgK C5 (fun b hb=>by simp at hb;omega);have O5:=O3.chgk C5 (fun b hb=>by simp at hb;omega);have z5:=C5.size;clear X3 T3 WO O3 C5 CR
  go_wp2_with (first | (refine zao 38 (.tmp 9) rfl rfl (w2.heap.size) rfl (X5) Tryz.underlying38 zbH rfl ?_) | (refine zaP 40 _ _ rfl rfl (w.heap.size+1+1) rfl (cs:=[.int .i64 9,.int .i64 (d.shape 0),.int .i64 (d.shape 1),.int .i64 (d.shape 2),.int .i64 (d.shape 3),.int .i64 (d.shape 4),.int .i64 (d.shape 5),.int .i64 (d.shape 6),.int .i64 (d.shape 7),.int .i64 (d.shape 8),.slice p1 d.groups.1 c1,.slice none 0 0,.slice p3 d.tapes.1 c3,.int .i64 d.writes,.int .i64 d.stop,.bool true]) rfl (T5.b3) zax rfl rfl ((zcd 9 (by decide) O5).one) ?_;intro w9 X9 C9 z9))
  refine zbL Tryz.results19 rfl X9 Tryz.underlying40 zax rfl rfl ?_;exact zec (by omega) (by decide) T5.bel C9 O5 (by omega) (by omega) (.inr ⟨HX.out,.inr ⟨HIN.out,.inr ⟨HY.out,.inr ⟨HM.out,.inl ⟨HF.out,rfl⟩⟩⟩⟩⟩)
 have HF:Hid (¬ zeB d):=hf;have CR:=ziD w2.heap.size _ _ _ _ _ _ _ _ _ _ _ _ _ _ _ _ _ _ _ _ _ W3 X3 hup hf (ze6 HOK.out);clear hf hup
 go_upto_region 13 with fail
 all_goals skip
 refine CR.mono ?_;rintro e w5 ⟨rfl,X5,C5⟩;have T5:=T3.chgK C5 (fun b hb=>by simp at hb;omega);have WO5:=WO.chgn C5 (fun b hb hm=>by simp at hb;have:=WO.inn b hm;omega);have z5:=C5.size;clear X3 T3 WO C5 CR
 go_upto_region 14 with fail
 have WO0:WOpen w5.drew wA.heap.size w2.heap.size d _ _ _ K1 K2 K3:=WO5.chgn (K:=[]) ((ChgL.refl _ _).drew) (fun b hb=>by cases hb);obtain ⟨gt,cap,ce,Ls,e3,eL,S3⟩:=zbI WO0.t (by omega)
 simp only [List.cons.injEq,Value.slice.injEq,and_true,true_and] at e3
 obtain ⟨rfl,rfl⟩:=e3;subst eL;have nd3:(gt::catN d.tapes.1 Ls).Nodup:=(List.nodup_append.1 (List.nodup_append.1 WO0.nd).2.1).2.1;obtain ⟨ao9,cap9,K9,e9,eK9,o9⟩:=zdA (S3.each T hT)
 have nd9:K9.Nodup:=by rw [← eK9];exact zd1 (List.nodup_cons.1 nd3).2 hT
 have in3:∀ b,b∈gt::catN d.tapes.1 Ls→wA.heap.size≤b∧b<w2.heap.size:=fun b hb=>WO0.inn b (List.mem_append_right _ (List.mem_append_right _ hb));have in9:∀ b,b∈K9→wA.heap.size≤b∧b<w2.heap.size:=fun b hb=>in3 b (SlO.sub T hT b (by rw [eK9];exact hb));have hgt:gt∉K9:=fun hb=>(List.nodup_cons.1 nd3).1 (zaA.2 ⟨T,hT,by rw [eK9];exact hb⟩);have x11:w5.cell? ⟨w2.heap.size,11,none⟩=some (.slice (some ⟨gt,0,none⟩) d.tapes.1 c3):=X5.cell 11;have y0:w5.drew.cell? ⟨gt,T*2,none⟩=some (.bool (d.tapes.2 T).wiped):=(S3.cell hT (j:=0) (by decide)).trans (by rw [e9];rfl);have y1:w5.drew.cell? ⟨gt,T*2+1,none⟩=some (.slice ao9 (d.tapes.2 T).recs.1 cap9):=(S3.cell hT (j:=1) (by decide)).trans (by rw [e9];rfl);have hgl:gt<w5.drew.heap.size:=S3.lt;have hbl:w2.heap.size<w5.drew.heap.size:=X5.lt;have hql:w.heap.size+1<w5.drew.heap.size:=T5.b2.lt;have T5b:=T5.b2;have KS:∀ w',ChgL K9 w5.drew w'→(w'.cell? ⟨w2.heap.size,11,none⟩=some (.slice (some ⟨gt,0,none⟩) d.tapes.1 c3)∧w'.cell? ⟨gt,T*2+1,none⟩=some (.slice ao9 (d.tapes.2 T).recs.1 cap9)∧w'.cell? ⟨w.heap.size+1,0,none⟩=some (.int .i64 r.kind)∧w'.cell? ⟨w.heap.size+1,1,none⟩=some (.int .i64 r.seq)∧w'.cell? ⟨w.heap.size+1,2,none⟩=some (.string r.name)∧w'.cell? ⟨w.heap.size+1,3,none⟩=some (.int .i64 r.length)∧w'.cell? ⟨w.heap.size+1,4,none⟩=some (.int .i64 r.group)∧w'.cell? ⟨w.heap.size+1,5,none⟩=some (.int .i64 r.row)∧w'.cell? ⟨w.heap.size+1,6,none⟩=some (.slice o6 r.rows.1 k6)∧w'.cell? ⟨w.heap.size+1,7,none⟩=some (.slice o7 r.data.1 k7)∧w'.cell? ⟨w.heap.size+1,8,none⟩=some (.slice o8 r.delta.1 k8)):=fun w' hc=>⟨(World.cell?_of_block (hc.block w2.heap.size hbl (fun hb=>by have:=in9 _ hb;omega))).trans x11,(World.cell?_of_block (hc.block gt hgl hgt)).trans y1,(World.cell?_of_block (hc.block (w.heap.size+1) hql (fun hb=>by have:=in9 _ hb;omega))).trans (T5b.cell 0),(World.cell?_of_block (hc.block (w.heap.size+1) hql (fun hb=>by have:=in9 _ hb;omega))).trans (T5b.cell 1),(World.cell?_of_block (hc.block (w.heap.size+1) hql (fun hb=>by have:=in9 _ hb;omega))).trans (T5b.cell 2),(World.cell?_of_block (hc.block (w.heap.size+1) hql (fun hb=>by have:=in9 _ hb;omega))).trans (T5b.cell 3),(World.cell?_of_block (hc.block (w.heap.size+1) hql (fun hb=>by have:=in9 _ hb;omega))).trans (T5b.cell 4),(World.cell?_of_block (hc.block (w.heap.size+1) hql (fun hb=>by have:=in9 _ hb;omega))).trans (T5b.cell 5),(World.cell?_of_block (hc.block (w.heap.size+1) hql (fun hb=>by have:=in9 _ hb;omega))).trans (T5b.cell 6),(World.cell?_of_block (hc.block (w.heap.size+1) hql (fun hb=>by have:=in9 _ hb;omega))).trans (T5b.cell 7),(World.cell?_of_block (hc.block (w.heap.size+1) hql (fun hb=>by have:=in9 _ hb;omega))).trans (T5b.cell 8)⟩
 have CC:=(zdv (rwR r o6 k6 o7 k7 o8 k8) r hi w5.drew (zac.rd_below (B:=w5.heap.size) (zac.rd_below HRR.out T5.bel hhi) ⟨rfl,rfl,rfl,Nat.le_refl _,fun _ _=>rfl⟩ (Nat.le_trans hhi T5.bel.size)) (Nat.le_trans hhi T5.bel.size) HSR.out).mono (R':=fun e w'=>∃ s6 m6 s7 m7 s8 m8,e=.returned (.agg (rwR r s6 m6 s7 m7 s8 m8).toArray)∧OwnT zac w' w5.drew.heap.size w'.heap.size r (rwR r s6 m6 s7 m7 s8 m8)∧Below w5.drew.heap.size w5.drew w') (fun e w' ⟨cs',he,o5,b5⟩=>by
  obtain ⟨s6,m6,s7,m7,s8,m8,rfl⟩:=zeD o5
  exact ⟨s6,m6,s7,m7,s8,m8,he,o5,b5⟩)
 have AP:=fun (W:World) (hW:Below w5.drew.heap.size w5.drew W) (La:List Nat) (cs:List Value) (ha:zac.own W r cs La)=>zij o9 nd9 (Nat.le_trans hn (by decide)) hW ha
 have i1:(0:Int)≤(T:Int):=by omega
 have i2:(T:Int)<(d.tapes.1:Int):=by omega
 refine zbb 15 (fun w'=>w'.cell? ⟨w2.heap.size,11,none⟩=some (.slice (some ⟨gt,0,none⟩) d.tapes.1 c3)∧w'.cell? ⟨gt,T*2+1,none⟩=some (.slice ao9 (d.tapes.2 T).recs.1 cap9)∧w'.cell? ⟨w.heap.size+1,0,none⟩=some (.int .i64 r.kind)∧w'.cell? ⟨w.heap.size+1,1,none⟩=some (.int .i64 r.seq)∧w'.cell? ⟨w.heap.size+1,2,none⟩=some (.string r.name)∧w'.cell? ⟨w.heap.size+1,3,none⟩=some (.int .i64 r.length)∧w'.cell? ⟨w.heap.size+1,4,none⟩=some (.int .i64 r.group)∧w'.cell? ⟨w.heap.size+1,5,none⟩=some (.int .i64 r.row)∧w'.cell? ⟨w.heap.size+1,6,none⟩=some (.slice o6 r.rows.1 k6)∧w'.cell? ⟨w.heap.size+1,7,none⟩=some (.slice o7 r.data.1 k7)∧w'.cell? ⟨w.heap.size+1,8,none⟩=some (.slice o8 r.delta.1 k8)) (by kernel_rfl) (KS _ (ChgL.refl _ _)) (fun hHeld=>?_);refine zjd 0 rfl ?_
 try simp only [Act.put,SL]
 refine zjd 1 rfl ?_
 try simp only [Act.put,SL]
 refine zjd 2 rfl ?_
 try simp only [Act.put,SL]
 refine zjd 3 rfl ?_
 try simp only [Act.put,SL]
 refine zjd 4 rfl ?_
 try simp only [Act.put,SL]
 refine zjd 5 rfl ?_
 try simp only [Act.put,SL]
 refine zjd 6 rfl ?_
 try simp only [Act.put,SL]
 refine zjd 7 rfl ?_
 try simp only [Act.put,SL]
 refine zjd 8 rfl ?_
 try simp only [Act.put,SL]
 refine zjd 9 rfl ?_
 try simp only [Act.put,SL]
 refine zam (i:=10) (o:=_) rfl (by kernel_rfl) (fun KC hKC=>?_)
 refine zaw rfl 59 _ _ rfl #[.agg (rwR r o6 k6 o7 k7 o8 k8).toArray] ?_ Tryz.func59 (by kernel_rfl) (by kernel_rfl) CC ?_;(simp [Act.eval,Act.put]);rintro ee w5a ⟨s6,m6,s7,m7,s8,m8,rfl,o5,b5⟩;have k5:=KS w5a (ChgL.of_below b5);have bA:=bAl w5a (.cells (rwR r s6 m6 s7 m7 s8 m8).toArray 56);have kA:=KS _ (ChgL.of_below (b5.trans (bA.mono b5.size)));obtain ⟨La,a1,a2,a3⟩:=o5;have e1:Below w5.drew.heap.size w5.drew (w5a.alloc (.cells (rwR r s6 m6 s7 m7 s8 m8).toArray 56)):=b5.trans (bA.mono b5.size);have e2:zac.own (w5a.alloc (.cells (rwR r s6 m6 s7 m7 s8 m8).toArray 56)) r (rwR r s6 m6 s7 m7 s8 m8) La:=zac.own_kept a1 (fun b hb=>bA.block b (a3 b hb).2);have e3:∀ b,b∈La→w5.drew.heap.size≤b:=fun b hb=>(a3 b hb).1;have e4:=zb4 w5a (rwR r s6 m6 s7 m7 s8 m8) 56;have e5:=AP (w5a.alloc (.cells (rwR r s6 m6 s7 m7 s8 m8).toArray 56)) e1 La (rwR r s6 m6 s7 m7 s8 m8) e2 a2 e3 w5a.heap.size e4;clear e1 e2 e3 e4;obtain ⟨s9,m9,w6,L',hrun,TT⟩:=e5;have k6':=KS w6 TT.chg;have f0:w6.frozen? ⟨gt,T*2,none⟩=false:=(World.frozen?_of_block (a:=⟨gt,T*2,none⟩) (TT.chg.block gt S3.lt hgt)).trans (S3.frozen _);have f1:w6.frozen? ⟨gt,T*2+1,none⟩=false:=(World.frozen?_of_block (a:=⟨gt,T*2+1,none⟩) (TT.chg.block gt S3.lt hgt)).trans (S3.frozen _);have t0:w6.cell? ⟨gt,T*2,none⟩=some (.bool (d.tapes.2 T).wiped):=(World.cell?_of_block (a:=⟨gt,T*2,none⟩) (TT.chg.block gt S3.lt hgt)).trans y0;have t1:w6.cell? ⟨gt,T*2+1,none⟩=some (.slice ao9 (d.tapes.2 T).recs.1 cap9):=k6'.2.1;refine ⟨_,rfl,?_⟩
 refine hKC.out _ _ (k5) (fun hHeld=>?_);clear hKC KC
 try simp only [Act.put,SL]
 refine zam (i:=11) (o:=_) rfl (by kernel_rfl) (fun KC hKC=>?_);go_simp;refine hKC.out _ _ (kA) (fun hHeld=>?_);clear hKC KC
 try simp only [Act.put,SL]
 refine zam (i:=12) (o:=_) rfl (by kernel_rfl) (fun KC hKC=>?_)
 refine zd5 rfl (.tmp 51) (.tmp 54) rfl ?_ ?_ hrun ?_;(simp [Act.eval,Act.put]);(simp [Act.eval,Act.put])
 refine hKC.out _ _ (k6') (fun hHeld=>?_);clear hKC KC
 try simp only [Act.put,SL]
 refine zjd 13 rfl ?_
 try simp only [Act.put,SL]
 refine zjd 14 rfl ?_
 try simp only [Act.put,SL]
 refine zbk (o:=_) rfl (by kernel_rfl) (fun KC hKC=>?_);go_simp;refine hKC.out _ _ ?_;clear hKC KC
 try simp only [Act.put,SL]
 refine zbl (by kernel_rfl) ?_ _
 have TK:Turn zag w5.drew (Ls T) w6 (zfT (d.tapes.2 T) r) [.bool false,(.slice s9 ((d.tapes.2 T).recs.1+1) m9)] L':=by
  rw [eK9];exact ⟨zeG (zfT (d.tapes.2 T) r) TT.own,TT.nd,TT.sub,TT.chg⟩
 have T7:=S3.turn_at nd3 hT TK (w':=(stN w6 gt (T*zag.sz) [.bool false,(.slice s9 ((d.tapes.2 T).recs.1+1) m9)])) rfl;have WO7:=WO0.tapes (by omega) (by omega) T7;have X7:=X5.drew.chgl T7.chg (fun hb=>by have:=in3 _ hb;omega);have T5d:Three w w5.drew (rwW d ao1 cap1 ao2 cap2 (some ⟨b3,off3,none⟩) cap3).toArray (rwR r o6 k6 o7 k7 o8 k8).toArray rwZ.toArray 38 56 40:=T5.chgK ((ChgL.refl [] _).drew) (fun b hb=>by cases hb);have TW7:=T5d.chgK T7.chg (fun b hb=>by have:=in3 _ hb;omega);have O7:OwnT zae (stN w6 gt (T*zag.sz) [.bool false,(.slice s9 ((d.tapes.2 T).recs.1+1) m9)]) wA.heap.size (stN w6 gt (T*zag.sz) [.bool false,(.slice s9 ((d.tapes.2 T).recs.1+1) m9)]).heap.size (ziY d T r) [.int .i64 (d.shape 0),.int .i64 (d.shape 1),.int .i64 (d.shape 2),.int .i64 (d.shape 3),.int .i64 (d.shape 4),.int .i64 (d.shape 5),.int .i64 (d.shape 6),.int .i64 (d.shape 7),.int .i64 (d.shape 8),.slice p1 d.groups.1 c1,.slice p2 d.on.1 c2,.slice (some ⟨gt,0,none⟩) d.tapes.1 c3,.int .i64 (d.writes+1),.int .i64 d.stop,.bool d.down]:=(WO7.writes (d.writes+1) (by have:=ze6 HOK.out;omega)).own
 have in0:gt≠w2.heap.size:=fun h=>by have:=in3 gt (List.mem_cons_self ..);omega
 have x11':(w6.setCell ⟨gt,T*2+1,none⟩ (.slice s9 ((d.tapes.2 T).recs.1+1) m9)).cell? ⟨w2.heap.size,11,none⟩=some (.slice (some ⟨gt,0,none⟩) d.tapes.1 c3):=(World.cell?_of_block (heap_setCell_other w6 _ _ _ (fun h=>in0 h.symm))).trans k6'.1;have y0':(w6.setCell ⟨gt,T*2+1,none⟩ (.slice s9 ((d.tapes.2 T).recs.1+1) m9)).cell? ⟨gt,T*2,none⟩=some (.bool (d.tapes.2 T).wiped):=(ziC w6 gt (T*2+1) (T*2) _ (by omega)).trans t0;have f0':(w6.setCell ⟨gt,T*2+1,none⟩ (.slice s9 ((d.tapes.2 T).recs.1+1) m9)).frozen? ⟨gt,T*2,none⟩=false:=(zhG w6 _ _ _).trans f0;have e8:(w6.setCell ⟨gt,T*2+1,none⟩ (.slice s9 ((d.tapes.2 T).recs.1+1) m9)).setCell ⟨gt,T*2,none⟩ (.bool false)=(stN w6 gt (T*zag.sz) [.bool false,(.slice s9 ((d.tapes.2 T).recs.1+1) m9)]):=zf0 w6 gt (T*2+1) (T*2) _ _ (by omega);clear WO7 T7 TK TT WO5 WO0 S3 nd3 e9 eK9 o9 X5 T5 T5d KS CC AP k5 kA k6' hrun nd9 T5b t0 t1 f0 f1 y0 y1;obtain ⟨W8,hW8⟩:∃ x,x=(w6.setCell ⟨gt,T*2+1,none⟩ (.slice s9 ((d.tapes.2 T).recs.1+1) m9)):=⟨_,rfl⟩;obtain ⟨W7,hW7⟩:∃ x,x=(stN w6 gt (T*zag.sz) [.bool false,(.slice s9 ((d.tapes.2 T).recs.1+1) m9)]):=⟨_,rfl⟩;rw [← hW8] at x11' y0' f0' e8 ⊢;rw [← hW7] at X7 TW7 O7 e8;clear hW8 hW7
 go_upto_region 16 with fail
 clear x11' y0' f0' e8
 go_wp2_with (first | (refine zao 38 (.tmp 9) rfl rfl (w2.heap.size) rfl (X7) Tryz.underlying38 zbH rfl ?_) | (refine zaP 40 _ _ rfl rfl (w.heap.size+1+1) rfl (cs:=[.int .i64 0,.int .i64 (d.shape 0),.int .i64 (d.shape 1),.int .i64 (d.shape 2),.int .i64 (d.shape 3),.int .i64 (d.shape 4),.int .i64 (d.shape 5),.int .i64 (d.shape 6),.int .i64 (d.shape 7),.int .i64 (d.shape 8),.slice p1 d.groups.1 c1,.slice p2 d.on.1 c2,.slice (some ⟨gt,0,none⟩) d.tapes.1 c3,.int .i64 (d.writes+1),.int .i64 d.stop,.bool d.down]) rfl (TW7.b3) zax rfl rfl ((zcd 0 (by decide) O7).one) ?_;intro w9 X9 C9 z9))
 refine zbL Tryz.results19 rfl X9 Tryz.underlying40 zax rfl rfl ?_;exact zec (by omega) (by decide) TW7.bel C9 O7 (by omega) (by omega) (.inr ⟨HX.out,.inr ⟨HIN.out,.inr ⟨HY.out,.inr ⟨HM.out,.inr ⟨HF.out,rfl⟩⟩⟩⟩⟩)
theorem ziE {t:Int} {b:Bool} (hb:b=true↔InP t 0 1) (w:World):Calls Tryz.prog 60 #[.int .i64 t] w fun e w'=>e=.returned (.bool b)∧w'=w:=by
 have CI:=fun w'=>zaV (show (0:Int)≤1 by decide) hb w';clear hb
 go_enter Tryz.func60,Tryz.ntmps60
 go_wp2_with fail
 refine (CI _).mono ?_;rintro e w1 ⟨rfl,e1⟩;obtain rfl:=e1.symm;go_wp2;go_ret;exact ⟨rfl,rfl⟩
structure CapS (w wc:World) (c1:Array Value) (x:Int) (c3 c4:Array Value) (t1 t3 t4:TypeId):Prop where
 b1:Box wc w.heap.size c1 t1
 b2:Box wc (w.heap.size+1) #[.int .i64 x] 2
 b3:Box wc (w.heap.size+1+1) c3 t3
 b4:Box wc (w.heap.size+1+1+1) c4 t4
 bel:Below w.heap.size w wc
theorem ziF (w:World) (c1 c3 c4:Array Value) (x:Int) (t1 t3 t4:TypeId):CapS w ((((w.alloc (.cells c1 t1)).alloc (.cells #[.int .i64 x] 2)).alloc (.cells c3 t3)).alloc (.cells c4 t4)) c1 x c3 c4 t1 t3 t4:=by
 have A:=zay w c1 #[.int .i64 x] t1 2;have B:=zay ((w.alloc (.cells c1 t1)).alloc (.cells #[.int .i64 x] 2)) c3 c4 t3 t4
 have e:((w.alloc (.cells c1 t1)).alloc (.cells #[.int .i64 x] 2)).heap.size=w.heap.size+1+1:=by simp
 have A':=A.call B.bel;obtain ⟨B1,B2,_⟩:=B;rw [e] at B1 B2;exact ⟨A'.b1,A'.b2,B1,B2,A'.bel⟩
theorem CapS.call {w wc w':World} {c1 c3 c4:Array Value} {x:Int} {t1 t3 t4:TypeId} (h:CapS w wc c1 x c3 c4 t1 t3 t4) (hb:Below wc.heap.size wc w'):CapS w w' c1 x c3 c4 t1 t3 t4:=⟨h.b1.call hb,h.b2.call hb,h.b3.call hb,h.b4.call hb,h.bel.trans (hb.mono h.bel.size)⟩
set_option maxRecDepth 20000 in
theorem zeo (d:WorldD) (t:Int) (r:RecD) (cs csr:List Value) (hi:Nat) (w:World) (h:zae.rd w hi d cs) (hr:zac.rd w hi r csr) (hhi:hi≤w.heap.size) (hsz:zaS d≤1048576) (hsr:zaH r≤1048576) (ht:-9223372036854775808≤t∧t≤9223372036854775807) :
 Calls Tryz.prog 21 #[.agg cs.toArray,.int .i64 t,.agg csr.toArray] w (zcF (AppAns d t r) w):=by
 have h':=h;obtain ⟨ao1,cap1,ao2,cap2,ao3,cap3,rfl,g1,g2,g3,k0,k4,k5⟩:=zaR h';obtain ⟨o6,k6,o7,k7,o8,k8,rfl,-⟩:=zbd hr;have HRD:=hid h;have HRR:=hid hr;have HSZ:=hid hsz;have HSR:=hid hsr;have HG3:=hid g3;have hmf:∀ (fn:Fn) (first cap:Array Value) (w:World),(Instr.makeFunc fn first cap).run Tryz.prog w=.ok (.func fn first cap) w:=fun _ _ _ _=>rfl;clear h h' hr hsz hsr g1 g2 g3 k0 k4 k5 ht;have T0:=ziF w (rwW d ao1 cap1 ao2 cap2 ao3 cap3).toArray (rwR r o6 k6 o7 k7 o8 k8).toArray rwZ.toArray t 38 56 40
 go_enter Tryz.func21,Tryz.ntmps21
 go_wp2_with (refine zao 38 (.tmp 3) rfl rfl (w.heap.size) rfl (T0.b1) Tryz.underlying38 zbH rfl ?_)
 refine (zgG d _ hi _ (zae.rd_below HRD.out T0.bel hhi) (Nat.le_trans hhi T0.bel.size) HSZ.out).mono ?_;rintro e w1 ⟨x,rfl,hx,b1⟩;have HT1:=hid (T0.call b1);have HX:=hid hx;have z1:w.heap.size+1+1+1<w1.heap.size:=HT1.out.b4.lt;clear b1 T0 hx
 by_cases hx0:x=0
 case neg=>
  have hne:(x != 0)=true:=by simp [hx0]
  go_wp2_with (refine zaP 40 _ _ rfl rfl (w.heap.size+1+1+1) rfl (cs:=(.int .i64 x::rwY)) rfl (HT1.out.b4) zax rfl rfl (zbV _ (zdb HX.out) w) ?_;intro w9 X9 C9 z9)
  refine zbL Tryz.results21 rfl X9 Tryz.underlying40 zax rfl rfl ?_;exact zbx (by omega) (zdb HX.out) HT1.out.bel C9 (.inl ⟨x,hx0,HX.out,rfl⟩)
 subst hx0;have HOK:=hid (zif HX.out);have xt:w1.cell? ⟨w.heap.size+1,0,none⟩=some (.int .i64 t):=HT1.out.b2.cell 0;obtain ⟨b,hb⟩:=exB (InP t 0 1);have Hb:=hid hb;have CI:=fun w'=>ziE hb w';clear hb
 go_wp2_with fail
 refine (CI _).mono ?_;rintro e w1' ⟨rfl,e1⟩;obtain rfl:=e1.symm;clear CI xt
 cases b with
 | false=>
  go_wp2_with (refine zaP 40 _ _ rfl rfl (w.heap.size+1+1+1) rfl (cs:=(.int .i64 3::rwY)) rfl (HT1.out.b4) zax rfl rfl (zbV _ (by decide) w) ?_;intro w9 X9 C9 z9)
  refine zbL Tryz.results21 rfl X9 Tryz.underlying40 zax rfl rfl ?_;exact zbx (by omega) (by decide) HT1.out.bel C9 (.inr ⟨HX.out,.inl ⟨fun h=>(by have:=Hb.out.2 h;cases this),rfl⟩⟩)
 | true=>
 have HIN:Hid (InP t 0 1):=Hb.out.1 (by simp);have x_0:w1.cell? ⟨w.heap.size,0,none⟩=some (.int .i64 (d.shape 0)):=HT1.out.b1.cell 0;have x_1:w1.cell? ⟨w.heap.size,1,none⟩=some (.int .i64 (d.shape 1)):=HT1.out.b1.cell 1;have x_2:w1.cell? ⟨w.heap.size,2,none⟩=some (.int .i64 (d.shape 2)):=HT1.out.b1.cell 2;have x_3:w1.cell? ⟨w.heap.size,3,none⟩=some (.int .i64 (d.shape 3)):=HT1.out.b1.cell 3;have x_4:w1.cell? ⟨w.heap.size,4,none⟩=some (.int .i64 (d.shape 4)):=HT1.out.b1.cell 4;have x_5:w1.cell? ⟨w.heap.size,5,none⟩=some (.int .i64 (d.shape 5)):=HT1.out.b1.cell 5;have x_6:w1.cell? ⟨w.heap.size,6,none⟩=some (.int .i64 (d.shape 6)):=HT1.out.b1.cell 6;have x_7:w1.cell? ⟨w.heap.size,7,none⟩=some (.int .i64 (d.shape 7)):=HT1.out.b1.cell 7;have x_8:w1.cell? ⟨w.heap.size,8,none⟩=some (.int .i64 (d.shape 8)):=HT1.out.b1.cell 8;have CRF:=zd0 d.shape r (rwR r o6 k6 o7 k7 o8 k8) hi w1 (zac.rd_below HRR.out HT1.out.bel hhi) (Nat.le_trans hhi HT1.out.bel.size) (zg9 HSR.out);unfold zak at CRF
 go_wp2_with (refine zao 56 (.tmp 5) rfl rfl (w.heap.size+1+1) rfl (HT1.out.b3) Tryz.underlying56 zg8 rfl ?_)
 refine CRF.mono ?_;rintro e wA ⟨y,rfl,hy,bA⟩;have HTA:=hid (HT1.out.call bA);have zA:w1.heap.size≤wA.heap.size:=bA.size;have HY:=hid hy;clear bA CRF hy x_0 x_1 x_2 x_3 x_4 x_5 x_6 x_7 x_8
 by_cases hy0:y=0
 case neg=>
  have hne:(y != 0)=true:=by simp [hy0]
  go_wp2_with (refine zaP 40 _ _ rfl rfl (w.heap.size+1+1+1) rfl (cs:=(.int .i64 y::rwY)) rfl (HTA.out.b4) zax rfl rfl (zbV _ (zdD HY.out) w) ?_;intro w9 X9 C9 z9)
  refine zbL Tryz.results21 rfl X9 Tryz.underlying40 zax rfl rfl ?_;exact zbx (by omega) (zdD HY.out) HTA.out.bel C9 (.inr ⟨HX.out,.inr ⟨HIN.out,.inl ⟨y,hy0,HY.out,rfl⟩⟩⟩)
 subst hy0;obtain ⟨T,rfl,hT,hn⟩:=zfa HOK.out HIN.out;obtain ⟨_,_,e3,-,hc3⟩:=HG3.out
 cases e3
 obtain ⟨b3,off3,he3,hb3,hel3⟩:=hc3 (by omega);subst he3;obtain ⟨ct,hrt,hct⟩:=zas (t:=0) hel3 HTA.out.bel hhi hb3 hT;obtain ⟨ap,cp,rfl,-⟩:=za1 hrt;have xT:wA.cell? ⟨w.heap.size,11,none⟩=some (.slice (some ⟨b3,off3,none⟩) d.tapes.1 cap3):=HTA.out.b1.cell 11;have xt:wA.cell? ⟨w.heap.size+1,0,none⟩=some (.int .i64 (T:Int)):=HTA.out.b2.cell 0;have xr:wA.cell? ⟨b3,off3+T*2+1,none⟩=some (.slice ap (d.tapes.2 T).recs.1 cp):=hct 1 (by decide)
 have i1:(0:Int)≤(T:Int):=by omega
 have i2:(T:Int)<(d.tapes.1:Int):=by omega
 clear hct hrt hel3 hc3
 by_cases hm:(200:Int)≤((d.tapes.2 T).recs.1:Int)
 case pos=>
  have HM:=hid hm;have dm:decide ((200:Int)≤((d.tapes.2 T).recs.1:Int))=true:=decide_eq_true hm
  go_wp2_with (refine zaP 40 _ _ rfl rfl (w.heap.size+1+1+1) rfl (cs:=(.int .i64 2::rwY)) rfl (HTA.out.b4) zax rfl rfl (zbV _ (by decide) w) ?_;intro w9 X9 C9 z9)
  refine zbL Tryz.results21 rfl X9 Tryz.underlying40 zax rfl rfl ?_;exact zbx (by omega) (by decide) HTA.out.bel C9 (.inr ⟨HX.out,.inr ⟨HIN.out,.inr ⟨HY.out,.inl ⟨HM.out,rfl⟩⟩⟩⟩)
 have HM:=hid hm;have dm:decide ((200:Int)≤((d.tapes.2 T).recs.1:Int))=false:=decide_eq_false hm;have CW:=zfZ d (rwW d ao1 cap1 ao2 cap2 (some ⟨b3,off3,none⟩) cap3) hi T r o6 o7 o8 k6 k7 k8 hi (w.heap.size+1) (w.heap.size+1+1) wA (zae.rd_below HRD.out HTA.out.bel hhi) (Nat.le_trans hhi HTA.out.bel.size) HSZ.out (HTA.out.b2.cell 0) HTA.out.b2.lt HTA.out.b3 hT (by omega) (zac.rd_below HRR.out HTA.out.bel hhi) (Nat.le_trans hhi HTA.out.bel.size) HSR.out (ze6 HOK.out) (AppAns d T r) (fun hf=>.inr ⟨HX.out,.inr ⟨HIN.out,.inr ⟨HY.out,.inr ⟨HM.out,.inl ⟨hf,rfl⟩⟩⟩⟩⟩) (fun hf=>.inr ⟨HX.out,.inr ⟨HIN.out,.inr ⟨HY.out,.inr ⟨HM.out,.inr ⟨hf,rfl⟩⟩⟩⟩⟩)
 have CW:=CW.mono (R':=fun e w'=>∃ d' sc s0 s1 s2 s3 s4 s5 s6 s7 s8 sp0 sl0 sq0 sp1 sl1 sq1 sp2 sl2 sq2 s9 s10 sb,e=.returned (.agg (.int .i64 sc::rwV s0 s1 s2 s3 s4 s5 s6 s7 s8 sp0 sl0 sq0 sp1 sl1 sq1 sp2 sl2 sq2 s9 s10 sb).toArray)∧AppAns d T r d'∧OwnT zaj w' wA.heap.size w'.heap.size d' (.int .i64 sc::rwV s0 s1 s2 s3 s4 s5 s6 s7 s8 sp0 sl0 sq0 sp1 sl1 sq1 sp2 sl2 sq2 s9 s10 sb)∧Below wA.heap.size wA w') (fun e w' ⟨d',cs',he,hP,ho,hb⟩=>by
  obtain ⟨sc,s0,s1,s2,s3,s4,s5,s6,s7,s8,sp0,sl0,sq0,sp1,sl1,sq1,sp2,sl2,sq2,s9,s10,sb,rfl⟩:=zg5 ho.rd
  exact ⟨d',sc,s0,s1,s2,s3,s4,s5,s6,s7,s8,sp0,sl0,sq0,sp1,sl1,sq1,sp2,sl2,sq2,s9,s10,sb,he,hP,ho,hb⟩)
 clear hm
 go_wp2_with (first | (refine zao 38 (.tmp 3) rfl rfl (w.heap.size) rfl (HTA.out.b1) Tryz.underlying38 zbH rfl ?_) | (go_at_call 45;refine CW.mono ?_;rintro e w5 ⟨d',sc,s0,s1,s2,s3,s4,s5,s6,s7,s8,sp0,sl0,sq0,sp1,sl1,sq1,sp2,sl2,sq2,s9,s10,sb,rfl,hP,o5,b5⟩;have T5:=HTA.out.call b5;have z5:wA.heap.size≤w5.heap.size:=b5.size) | (refine zaP 40 _ _ rfl rfl (w.heap.size+1+1+1) rfl (cs:=(.int .i64 sc::rwV s0 s1 s2 s3 s4 s5 s6 s7 s8 sp0 sl0 sq0 sp1 sl1 sq1 sp2 sl2 sq2 s9 s10 sb)) rfl (T5.b4) zax rfl rfl (o5.one) ?_;intro w9 X9 C9 z9))
 refine zbL Tryz.results21 rfl X9 Tryz.underlying40 zax rfl rfl ?_;refine ⟨d',(.int .i64 sc::rwV s0 s1 s2 s3 s4 s5 s6 s7 s8 sp0 sl0 sq0 sp1 sl1 sq1 sp2 sl2 sq2 s9 s10 sb),rfl,hP,(o5.chgk C9 (fun b hb=>by simp at hb;omega)).weaken (by omega) C9.size,T5.bel.trans (C9.bel (fun b hb=>by simp at hb;omega) T5.bel.size)⟩
end Go.Proofs.YtonemlgejkapbaaGreat
