/- WaitingBytes of both sides. -/
import Derived.Test.YtecofihpkcljcaaGreatRows
import Derived.Test.YtecofihpkcljcaaGreatZPwaitiam
set_option linter.unusedVariables false
set_option linter.unusedSimpArgs false
set_option maxHeartbeats 16000000
namespace Go.Proofs.YtecofihpkcljcaaGreat
open Go.RowKit F256
theorem zbu:(Tryz.prog.info? 31).map (·.size)=some 2:=by kernel_rfl
theorem zcH (a b:Int):∀ v,v∈([.int .i64 a,.int .i64 b]:List Value)→v.oneCell'=true:=fun v hv=>by
 simp at hv
 rcases hv with rfl | rfl<;>rfl
def wsum (x:Nat→RecD) (m:List Nat) (k:Nat):Nat:=sumN (fun i=>(x (m.getD i 0)).data.1) k
theorem zig (x:Nat→RecD) (m:List Nat) (k:Nat):wsum x m (k+1)=wsum x m k+(x (m.getD k 0)).data.1:=zaV _ _
theorem zih (x:Nat→RecD) (m:List Nat) {j k:Nat} (h:j≤k):wsum x m j≤wsum x m k:=zcT _ h
theorem zii {d:WorldD} (h2:d.tapes.1=2) (hsz:zbb d≤1048576) {l m:List Nat} (h:Cnt (recT d.tapes.2 2) (lenT d.tapes.2 2) l) (hm:Live (fun i=>recT d.tapes.2 2 (l.getD i 0)) l.length m):wsum (fun i=>recT d.tapes.2 2 (l.getD i 0)) m m.length≤1048576:=by
 have h1:=zif h2 hsz h hm;have e1:(szSl zaL) (zi2 d l m)=m.length+sumN (fun i=>zaL (recT d.tapes.2 2 (l.getD (m.getD i 0) 0))) m.length:=rfl
 have h3:wsum (fun i=>recT d.tapes.2 2 (l.getD i 0)) m m.length≤sumN (fun i=>zaL (recT d.tapes.2 2 (l.getD (m.getD i 0) 0))) m.length:=zd0 (fun i _=>by
  show (recT d.tapes.2 2 (l.getD (m.getD i 0) 0)).data.1≤zaL _
  unfold zaL lenD
  omega)
 rw [e1] at h1;omega
def WtbAns (d:WorldD) (c v:Int):Prop:=(c≠0∧WldAns d c∧v=0)∨(WldAns d 0∧c=0∧∃ l m,Cnt (recT d.tapes.2 2) (lenT d.tapes.2 2) l∧Live (fun i=>recT d.tapes.2 2 (l.getD i 0)) l.length m∧v=(wsum (fun i=>recT d.tapes.2 2 (l.getD i 0)) m m.length:Int))
theorem WtbAns.one {d:WorldD} {c v c' v':Int} (h:WtbAns d c v) (k:WtbAns d c' v'):c=c'∧v=v':=by
 rcases h with ⟨h1,h2,h3⟩ | ⟨h1,h2,l,m,hl,hm,h3⟩<;>rcases k with ⟨k1,k2,k3⟩ | ⟨k1,k2,l',m',kl,km,k3⟩
 ·exact ⟨h2.one k2,by rw [h3,k3]⟩
 ·exact absurd (h2.one k1) h1
 ·exact absurd (k2.one h1) k1
 ·obtain rfl:=hl.uniq kl
  obtain rfl:=hm.uniq km;exact ⟨by rw [h2,k2],by rw [h3,k3]⟩
def zij (d:WorldD) (w:World) (e:Ending) (w':World):Prop:=∃ c v,e=.returned (.agg #[.int .i64 c,.int .i64 v])∧WtbAns d c v∧Below w.heap.size w w'
theorem zik {s:Nat→Int} {r:RecD} (h:zaU s r) (hk:r.kind=1) (hl:¬ r.length<0) (hd:0<r.data.1):(r.data.1:Int)=r.length:=by
 rcases h with ⟨_,h⟩ | ⟨h,_⟩ | ⟨h,_⟩ | ⟨h,_⟩
 ·rcases h with ⟨h,_⟩ | ⟨_,_,_,h⟩
  ·omega
  ·rcases h with ⟨_,h,_⟩ | ⟨h,_⟩<;>omega
 ·omega
 ·omega
 ·omega
theorem zil {l:List Nat} {i:Nat} (h:i<l.length):l.getD i 0∈l:=by
 rw [List.getD_eq_getElem?_getD,List.getElem?_eq_getElem h];exact List.getElem_mem h
set_option maxRecDepth 20000 in
theorem zeC (v:Value) (N:Nat) (x0:Nat→RecD) (hi:Nat) (w:World) (h:(zab.slice 59).rd w hi (N,x0) [v]) (hhi:hi≤w.heap.size) (hNb:N≤800000) (hsum:∀ m,Live x0 N m→wsum x0 m m.length≤1048576) :
 Calls Tryz.prog 14 #[v] w (fun e w'=>∃ m,e=.returned (.int .i64 (wsum x0 m m.length:Int))∧Live x0 N m∧Below w.heap.size w w'):=by
 have CL:=zhh v N x0 hi w h hhi hNb;obtain ⟨ao0,cap0,ev,_⟩:=h
 obtain rfl:v=.slice ao0 N cap0:=by simpa using ev
 clear ev;have HS:=hid hsum;clear hsum
 go_enter Tryz.func14,Tryz.ntmps14
 go_wp2_with fail
 refine CL.mono ?_;rintro e w2 ⟨v2,m,ce,lo,rfl,hLM,hlo,V,b2⟩;have HLM:=hid hLM;have HB2:=hid b2;have hsm:=HS.out m hLM;obtain ⟨n,hn⟩:∃ n,n=m.length:=⟨_,rfl⟩;have HN:=hid hn
 have hnl:n≤800000:=by
  have:=(zdx hLM (fun _=>0)).2;omega
 rw [← hn] at V hsm;have z2:w.heap.size≤w2.heap.size:=b2.size;have HV:=hid V;obtain ⟨ao,cap,hv⟩:=V.form;subst hv;clear CL hLM V hn b2;go_wp2
 go_loopw [4,5] (fun s i wr=>∃ k:Nat,k≤n∧i=.int .i64 k∧s=.int .i64 (wsum x0 m k:Int)∧Below w2.heap.size w2 wr) (fun _ i _=>n-(intOf i).toNat)
 case atStart=>exact ⟨0,Nat.zero_le _,rfl,rfl,Below.refl _ _⟩
 case round=>
  obtain ⟨k,hk,rfl,rfl,hb⟩:=hrel;have HB:=hid hb
  by_cases hlt:k<n
  ·have Vr:=HV.out.below hb (by omega)
   obtain ⟨g,c0,hg⟩:=Vr.form0 (by omega);have hg2:=hg
   obtain ⟨rfl,rfl⟩:ao=some ⟨g,0,none⟩∧cap=c0:=by simpa using hg2
   have rg:=Vr.range hlt;obtain ⟨r,hr⟩:∃ r,r=x0 (m.getD k 0):=⟨_,rfl⟩;obtain ⟨ao6,cap6,ao7,cap7,ao8,cap8,hce,-⟩:=zaz (Vr.each k hlt);have y7:wr.cell? ⟨g,k*9+7,none⟩=some (.slice ao7 r.data.1 cap7):=rg 7 _ (by rw [hce,hr];rfl)
   have HW:Hid (wsum x0 m (k+1)=wsum x0 m k+r.data.1):=by
    show wsum x0 m (k+1)=wsum x0 m k+r.data.1
    rw [zig,hr]
   have hle:=Nat.le_trans (zih x0 m (show k+1≤n from hlt)) hsm;rw [HW.out] at hle;obtain ⟨q,hq⟩:∃ q,q=wsum x0 m k:=⟨_,rfl⟩;have HQ:=hid hq;rw [← hq] at hle ⊢
   have wz:IntKind.i64.wrap ((q:Int)+(r.data.1:Int))=(q:Int)+(r.data.1:Int):=by rw [IntKind.wrap_i64];omega
   have i1:(0:Int)≤(k:Int):=by omega
   have i2:(k:Int)<(n:Int):=by omega
   clear Vr hg hg2 rg hce hr hq hb;go_wp2
   go_roundw
   case rel=>exact ⟨k+1,by omega,by go_num,(by rw [HW.out,← HQ.out];go_num),HB.out⟩
   case measure=>simp [intOf];omega
  ·obtain rfl:k=n:=by omega
   go_wp2;go_ret;exact ⟨m,(by rw [← HN.out];rfl),HLM.out,HB2.out.trans (HB.out.mono z2)⟩
set_option maxRecDepth 20000 in
theorem zhj (d:WorldD) (cs:List Value) (hi:Nat) (w:World) (h:zan.rd w hi d cs) (hhi:hi≤w.heap.size) (hsz:zbb d≤1048576) :
 Calls Tryz.prog 5 #[.agg cs.toArray] w (zij d w):=by
 have h':=h;obtain ⟨ao1,cap1,ao2,cap2,ao3,cap3,rfl,g1,g2,g3,k0,k4,k5⟩:=zaT h';have HRD:=hid h;have HG3:=hid g3;have HSZ:=hid hsz;clear h h' hsz g1 g2 g3 k0 k4 k5;have T0:=zaJ w (rwW d ao1 cap1 ao2 cap2 ao3 cap3).toArray #[.int .i64 0,.int .i64 0] 37 31
 go_enter Tryz.func5,Tryz.ntmps5
 go_wp2_with (refine zaN 37 (.tmp 1) rfl rfl (w.heap.size) rfl (T0.b1) Tryz.underlying37 zeX rfl ?_)
 refine (zei d _ hi _ (zan.rd_below HRD.out T0.bel hhi) (Nat.le_trans hhi T0.bel.size) (zdl HSZ.out)).mono ?_;rintro e w1 ⟨x,rfl,hx,b1⟩;have HT1:=hid (T0.call b1);have HX:=hid hx;have z1:w.heap.size+1<w1.heap.size:=HT1.out.b2.lt;clear b1 T0 hx
 by_cases hx0:x=0
 case neg=>
  have hne:(x != 0)=true:=by simp [hx0]
  go_wp2_with (refine zcb 31 _ _ rfl rfl (w.heap.size+1) rfl (cs:=[.int .i64 x,.int .i64 0]) rfl (HT1.out.b2) zbu rfl rfl (zcH _ _) ?_;intro w9 X9 C9 z9)
  refine zeh Tryz.results5 rfl X9 Tryz.underlying31 zbu rfl rfl ?_;have zz:=C9.size;exact ⟨x,0,rfl,.inl ⟨hx0,HX.out,rfl⟩,HT1.out.bel.trans (C9.bel (fun b hb=>by simp at hb;omega) HT1.out.bel.size)⟩
 subst hx0;have HOK:=hid (WldAns.ok HX.out);have h2:d.tapes.1=2:=HOK.out.form.2.2;have hn0:(d.tapes.2 0).recs.1≤400000:=Nat.le_trans (HOK.out.few 0 (by omega)) (by decide);have hn1:(d.tapes.2 1).recs.1≤400000:=Nat.le_trans (HOK.out.few 1 (by omega)) (by decide);have CC:=zeA d (rwW d ao1 cap1 ao2 cap2 ao3 cap3) hi w.heap.size w1 (zan.rd_below HRD.out HT1.out.bel hhi) (Nat.le_trans hhi HT1.out.bel.size) HT1.out.b1 h2 hn0 hn1;have HH2:=hid h2;clear h2
 go_wp2_with fail
 refine CC.mono ?_;rintro e w2 ⟨v2,l,ce0,lo2,rfl,hCt,hlo2,V,b2⟩;have HL:=hid hCt;have HT2:=hid (HT1.out.call b2);have z2:w1.heap.size≤w2.heap.size:=b2.size
 have hlen:l.length≤800000:=by
  have h1:=(hCt.sum (fun _=>0)).2
  have e2:lenT d.tapes.2 2=(d.tapes.2 0).recs.1+(d.tapes.2 1).recs.1:=by simp [lenT]
  omega
 have CN:=zeC v2 l.length (fun i=>recT d.tapes.2 2 (l.getD i 0)) w2.heap.size w2 (V.rd (by omega)) (Nat.le_refl _) (by omega) (fun m hm=>zii HH2.out HSZ.out hCt hm);obtain ⟨a2,c2,rfl⟩:=V.form;clear CC b2 HT1 V
 go_wp2_with fail
 refine CN.mono ?_;rintro e w5 ⟨m,rfl,hLM,b5⟩;have HLM:=hid hLM;have HT5:=hid (HT2.out.call b5);obtain ⟨q,hq⟩:∃ q,q=wsum (fun i=>recT d.tapes.2 2 (l.getD i 0)) m m.length:=⟨_,rfl⟩;have HQ:=hid hq;rw [← hq];clear CN b5 HT2 hCt hLM hq
 go_wp2_with (refine zcb 31 _ _ rfl rfl (w.heap.size+1) rfl (cs:=[.int .i64 0,.int .i64 (q:Int)]) rfl (HT5.out.b2) zbu rfl rfl (zcH _ _) ?_;intro w9 X9 C9 z9)
 refine zeh Tryz.results5 rfl X9 Tryz.underlying31 zbu rfl rfl ?_;have zz:=C9.size;exact ⟨0,(q:Int),rfl,.inr ⟨HX.out,rfl,l,m,HL.out,HLM.out,by rw [HQ.out]⟩,HT5.out.bel.trans (C9.bel (fun b hb=>by simp at hb;omega) HT5.out.bel.size)⟩
set_option maxRecDepth 20000 in
theorem zhk (d:WorldD) (cs:List Value) (hi:Nat) (w:World) (h:zan.rd w hi d cs) (hhi:hi≤w.heap.size) (hsz:zbb d≤1048576) :
 Calls Tryz.prog 7 #[.agg cs.toArray] w (zij d w):=by
 have h':=h;obtain ⟨ao1,cap1,ao2,cap2,ao3,cap3,rfl,g1,g2,g3,k0,k4,k5⟩:=zaT h';have HRD:=hid h;have HG3:=hid g3;have HSZ:=hid hsz;clear h h' hsz g1 g2 g3 k0 k4 k5;have T0:=zaJ w (rwW d ao1 cap1 ao2 cap2 ao3 cap3).toArray #[.int .i64 0,.int .i64 0] 37 31
 go_enter Tryz.func7,Tryz.ntmps7
 go_wp2_with (refine zaN 37 (.tmp 1) rfl rfl (w.heap.size) rfl (T0.b1) Tryz.underlying37 zeX rfl ?_)
 refine (zeq d _ hi _ (zan.rd_below HRD.out T0.bel hhi) (Nat.le_trans hhi T0.bel.size) (zdl HSZ.out)).mono ?_;rintro e w1 ⟨x,rfl,hx,b1⟩;have HT1:=hid (T0.call b1);have HX:=hid hx;have z1:w.heap.size+1<w1.heap.size:=HT1.out.b2.lt;clear b1 T0 hx
 by_cases hx0:x=0
 case neg=>
  have hne:(x != 0)=true:=by simp [hx0]
  go_wp2_with (refine zcb 31 _ _ rfl rfl (w.heap.size+1) rfl (cs:=[.int .i64 x,.int .i64 0]) rfl (HT1.out.b2) zbu rfl rfl (zcH _ _) ?_;intro w9 X9 C9 z9)
  refine zeh Tryz.results7 rfl X9 Tryz.underlying31 zbu rfl rfl ?_;have zz:=C9.size;exact ⟨x,0,rfl,.inl ⟨hx0,HX.out,rfl⟩,HT1.out.bel.trans (C9.bel (fun b hb=>by simp at hb;omega) HT1.out.bel.size)⟩
 subst hx0;have HOK:=hid (WldAns.ok HX.out);have h2:d.tapes.1=2:=HOK.out.form.2.2;have hn0:(d.tapes.2 0).recs.1≤400000:=Nat.le_trans (HOK.out.few 0 (by omega)) (by decide);have hn1:(d.tapes.2 1).recs.1≤400000:=Nat.le_trans (HOK.out.few 1 (by omega)) (by decide);have HH2:=hid h2;clear h2;have CR:=zeB d (rwW d ao1 cap1 ao2 cap2 ao3 cap3) hi w1 (zan.rd_below HRD.out HT1.out.bel hhi) (Nat.le_trans hhi HT1.out.bel.size) HOK.out
 go_wp2_with (refine zaN 37 (.tmp 1) rfl rfl (w.heap.size) rfl (HT1.out.b1) Tryz.underlying37 zeX rfl ?_)
 refine CR.mono ?_;rintro e w2 ⟨B,l,ce,v,b1,b2,b3,b4,b5,rfl,hCt,hLd,hRd,bb2⟩;have HL:=hid hCt;have HT2:=hid (HT1.out.call bb2);have z2:w1.heap.size≤w2.heap.size:=bb2.size
 have hlen:l.length≤800000:=by
  have h1:=(hCt.sum (fun _=>0)).2
  have e2:lenT d.tapes.2 2=(d.tapes.2 0).recs.1+(d.tapes.2 1).recs.1:=by simp [lenT]
  omega
 have CU:=zf1 hLd (by omega) (by omega) hRd (fun i hi' hk1=>ziR (zi1 HOK.out hCt hi') hk1) (fun m hm=>by have:=(zdx hm (fun _=>0)).2;omega);clear hLd hRd bb2 CR HT1
 go_wp2_with fail
 refine CU.mono ?_;rintro e w5 ⟨u,cu,m,rfl,hLM,V,b5'⟩;have HLM:=hid hLM;have HT5:=hid (HT2.out.call b5');have z5:w2.heap.size≤w5.heap.size:=b5'.size;have hsm:=zii HH2.out HSZ.out hCt hLM;have HKI:Hid (∀ i,i<l.length→zaU d.shape (recT d.tapes.2 2 (l.getD i 0))):=fun i hi'=>zi1 HOK.out hCt hi';obtain ⟨x0,hx0⟩:∃ x,x=(fun i=>recT d.tapes.2 2 (l.getD i 0)):=⟨_,rfl⟩;have HX0:=hid hx0;obtain ⟨n,hn⟩:∃ n,n=wtN (fun i=>recT d.tapes.2 2 (l.getD i 0)) m:=⟨_,rfl⟩;have HN:=hid hn
 have hnl:n≤800000:=by
  have h1:=(zdx hLM (fun _=>0)).2;have h2:=zhN (wtP (fun i=>recT d.tapes.2 2 (l.getD i 0)) m) m.length;rw [hn];unfold wtN;omega
 have HKD:Hid (∀ k,k<n→((x0 (wtI x0 m k)).data.1:Int)=(x0 (wtI x0 m k)).length):=fun k hk=>by
  rw [hn] at hk;rw [hx0];have hm2:=ziC hk;have hlt:=zjd hm2;have hp:wtP (fun i=>recT d.tapes.2 2 (l.getD i 0)) m (selF (wtP (fun i=>recT d.tapes.2 2 (l.getD i 0)) m) m.length k)=true:=(List.mem_filter.1 hm2).2;have hmm:=(hLM.1 _).1 (zil (l:=m) (i:=selF (wtP (fun i=>recT d.tapes.2 2 (l.getD i 0)) m) m.length k) hlt);have hK:=HKI.out _ hmm.1;refine zik hK hmm.2.1 hmm.2.2.1 ?_
  have:¬ (recT d.tapes.2 2 (l.getD (m.getD (selF (wtP (fun i=>recT d.tapes.2 2 (l.getD i 0)) m) m.length k) 0) 0)).data.1=0:=by
   intro e
   have h3:wtP (fun i=>recT d.tapes.2 2 (l.getD i 0)) m (selF (wtP (fun i=>recT d.tapes.2 2 (l.getD i 0)) m) m.length k)=false:=by
    show (!(decide ((recT d.tapes.2 2 (l.getD (m.getD (selF (wtP (fun i=>recT d.tapes.2 2 (l.getD i 0)) m) m.length k) 0) 0)).data.1=0)))=false
    rw [decide_eq_true e];rfl
   rw [h3] at hp
   cases hp
  exact Nat.pos_of_ne_zero this
 have HSUM:Hid (sumN (fun i=>(x0 (wtI x0 m i)).data.1) n=wsum x0 m m.length):=by
  rw [hn,hx0]
  exact zgk (wtP (fun i=>recT d.tapes.2 2 (l.getD i 0)) m) (fun i=>((fun i=>recT d.tapes.2 2 (l.getD i 0)) (m.getD i 0)).data.1) m.length (fun i hi=>by
   unfold wtP at hi
   simpa using hi)
 rw [← hn] at V;rw [← hx0] at hsm;have hs0:=HSUM.out
 have HV:Hid (View zab 59 w5 w2.heap.size hi u n (fun i=>x0 (wtI x0 m i)) cu):=by
  show View zab 59 w5 w2.heap.size hi u n (fun i=>x0 (wtI x0 m i)) cu
  rw [hx0];exact V
 obtain ⟨ao,cap,hv⟩:=V.form;subst hv
 have hsm2:sumN (fun i=>(x0 (wtI x0 m i)).data.1) n≤1048576:=by rw [hs0];exact hsm
 obtain ⟨S,hS⟩:∃ S,S=fun k=>sumN (fun i=>(x0 (wtI x0 m i)).data.1) k:=⟨_,rfl⟩
 have HSS:Hid (∀ k,S (k+1)=S k+(x0 (wtI x0 m k)).data.1):=fun k=>by rw [hS];exact zaV _ _
 have HSM:Hid (∀ k,k≤n→S k≤1048576):=fun k hk=>by rw [hS];exact Nat.le_trans (zcT _ hk) hsm2
 have HSE:Hid (S n=wsum x0 m m.length):=by rw [hS];exact hs0
 have HS0:Hid (S 0=0):=by rw [hS];rfl
 clear V b5' CU HT2 hCt hLM hn hx0 hs0 hsm2 hS hsm;go_wp2
 go_loopw [4,17] (fun s i wr=>∃ k:Nat,k≤n∧i=.int .i64 k∧s=.int .i64 (S k:Int)∧Below w5.heap.size w5 wr) (fun _ i _=>n-(intOf i).toNat)
 case atStart=>exact ⟨0,Nat.zero_le _,rfl,by rw [HS0.out];rfl,Below.refl _ _⟩
 case round=>
  obtain ⟨k,hk,rfl,rfl,hb⟩:=hrel;have HB:=hid hb;have zr:w5.heap.size≤wr.heap.size:=hb.size
  by_cases hlt:k<n
  ·have Vr:=HV.out.below hb (by omega)
   obtain ⟨g,c0,hg⟩:=Vr.form0 (by omega);have hg2:=hg
   obtain ⟨rfl,rfl⟩:ao=some ⟨g,0,none⟩∧cap=c0:=by simpa using hg2
   have rg:=Vr.range hlt;have hcl:=Vr.lens k hlt;have hone:=zd6 (Vr.each k hlt);obtain ⟨r,hr⟩:∃ r,r=x0 (wtI x0 m k):=⟨_,rfl⟩;have e1:=HKD.out k hlt;rw [← hr] at e1;obtain ⟨cR,hcR⟩:∃ c,c=cu k:=⟨_,rfl⟩;obtain ⟨ao6,cap6,ao7,cap7,ao8,cap8,hce,-⟩:=zaz (Vr.each k hlt);rw [← hcR] at rg hcl hone hce;have rg9:wr.rangeAt g (k*9) cR:=rg;have hcl9:cR.length=9:=hcl;have bA:=bAl wr (.cells cR.toArray 59);have XA:=zal wr cR.toArray 59;obtain ⟨W,hW⟩:∃ y,y=wr.alloc (.cells cR.toArray 59):=⟨_,rfl⟩;rw [← hW] at bA XA
   have y3:W.cell? ⟨wr.heap.size,3,none⟩=some (.int .i64 r.length):=by rw [XA.cell 3,hce,hr];rfl
   have HBA:=hid (HB.out.trans (bA.mono zr))
   have HW:Hid (S (k+1)=S k+r.data.1):=by
    show S (k+1)=S k+r.data.1
    rw [HSS.out,hr]
   have hle:=HSM.out (k+1) hlt;rw [HW.out] at hle;obtain ⟨q,hq⟩:∃ q,q=S k:=⟨_,rfl⟩;have HQ:=hid hq;rw [← hq] at hle ⊢
   have i1:(0:Int)≤(k:Int):=by omega
   have i2:(k:Int)<(n:Int):=by omega
   have HE1:=hid e1
   have wz:IntKind.i64.wrap ((q:Int)+r.length)=(q:Int)+r.length:=by rw [IntKind.wrap_i64];omega
   clear Vr hg hg2 rg hce hr hq hb bA XA hcl hcR e1
   go_wp2_with (first | (refine wpList_load_mid rfl 59 (.tmp 19) rfl g (k*9) (by simp [Act.eval,Act.put]) cR _ rg9 Tryz.underlying59 rfl (zag hcl9) ?_) | (refine zaM 59 6 (.tmp 20) cR _ 9 rfl rfl rfl rfl rfl rfl (by simp [Act.eval,Act.put]) (by simp [Act.eval,Act.put]) zcy rfl hcl9 hone ?_;rw [← hW];clear hW))
   go_roundw
   case rel=>exact ⟨k+1,by omega,by go_num,(by rw [HW.out,← HQ.out,Int.natCast_add,HE1.out]),HBA.out⟩
   case measure=>simp [intOf];omega
  ·obtain rfl:k=n:=by omega
   have HT9:=hid (HT5.out.call hb);obtain ⟨q,hq⟩:∃ q,q=S k:=⟨_,rfl⟩
   have HQ:Hid (q=wsum (fun i=>recT d.tapes.2 2 (l.getD i 0)) m m.length):=by rw [hq,HSE.out,← HX0.out];exact rfl
   rw [← hq];clear hq hb
   go_wp2_with (refine zcb 31 _ _ rfl rfl (w.heap.size+1) rfl (cs:=[.int .i64 0,.int .i64 (q:Int)]) rfl (HT9.out.b2) zbu rfl rfl (zcH _ _) ?_;intro w9 X9 C9 z9)
   refine zeh Tryz.results7 rfl X9 Tryz.underlying31 zbu rfl rfl ?_;have zz:=C9.size;exact ⟨0,(q:Int),rfl,.inr ⟨HX.out,rfl,l,m,HL.out,HLM.out,by rw [HQ.out]⟩,HT9.out.bel.trans (C9.bel (fun b hb=>by simp at hb;omega) HT9.out.bel.size)⟩
end Go.Proofs.YtecofihpkcljcaaGreat
namespace Go.Proofs.YtecofihpkcljcaaGreat
open Go.ChangeShapes Go.WideShapes Go.ChangeAt Go.RowKit F256
theorem wt_ex (d:WorldD):∃ c v,WtbAns d c v:=by
 obtain ⟨x,hx⟩:=ziw d
 by_cases h:x=0
 ·subst h
  obtain ⟨l,hl⟩:=zi0 (recT d.tapes.2 2) (lenT d.tapes.2 2);obtain ⟨m,hm⟩:=zjq (fun i=>recT d.tapes.2 2 (l.getD i 0)) l.length;exact ⟨_,_,.inr ⟨hx,rfl,l,m,hl,hm,rfl⟩⟩
 ·exact ⟨x,0,.inl ⟨h,hx,rfl⟩⟩
theorem zi3 {d:WorldD} {c v:Int} {w:World} {f:Nat} {args:Array Value} (hq:WtbAns d c v) (h:Calls Tryz.prog f args w (zij d w)):Calls Tryz.prog f args w fun e w'=>e=.returned (.agg #[.int .i64 c,.int .i64 v])∧Below w.heap.size w w':=
 h.mono fun e w' ⟨c',v',h1,h2,h3⟩=>⟨by rw [h1,(hq.one h2).1,(hq.one h2).2],h3⟩
theorem zim:(Tryz.prog.info? 31).map (fun i=>(i.zero.map (·.cells),i.size))=some (some #[.int .i64 0,.int .i64 0],2):=by kernel_rfl
set_option maxRecDepth 20000 in
theorem zb6 (d:WorldD) (cs:List Value)  (w:World) (rd0:zan.rd w w.heap.size d cs)  :
 Calls Tryz.prog 3 #[.agg cs.toArray] w fun e w'=>e=.returned (.bool true)∧Below w.heap.size w w':=by
 obtain ⟨v0,v1,v2,v3,v4,v5,v6,v7,v8,vp0,vl0,vq0,vp1,vl1,vq1,vp2,vl2,vq2,v9,v10,vb,rfl⟩:=zhM rd0;have HR:=hid rd0;clear rd0;have T0:=zaF w (rwV v0 v1 v2 v3 v4 v5 v6 v7 v8 vp0 vl0 vq0 vp1 vl1 vq1 vp2 vl2 vq2 v9 v10 vb).toArray 28
 go_enter Tryz.func3,Tryz.ntmps3
 go_wp2_with (refine zaN 28 (.tmp 1) rfl rfl (w.heap.size) rfl T0.b1 Tryz.underlying28 zeg rfl ?_)
 refine (zgH _ d w.heap.size 1048576 _ (zan.rd_below HR.out T0.bel (Nat.le_refl _)) T0.bel.size (by omega)).mono ?_;rintro e w1 ⟨x,rfl,hx,b1⟩;have T1:=T0.call b1;have HT1:=hid T1;clear b1 T0
 rcases hx with rfl | ⟨hsz,hx⟩
 ·clear T1
  go_wp2;go_ret;exact ⟨rfl,HT1.out.bel⟩
 have hx0:¬ x<0:=by omega
 clear hx;obtain ⟨cc,vv,hq⟩:=wt_ex d
 have CT:∀ w',Below w1.heap.size w1 w'→Calls Tryz.prog 6 #[.agg (rwV v0 v1 v2 v3 v4 v5 v6 v7 v8 vp0 vl0 vq0 vp1 vl1 vq1 vp2 vl2 vq2 v9 v10 vb).toArray] w' fun e w''=>∃ cs',e=.returned (.agg cs'.toArray)∧OwnT zan w'' w'.heap.size w''.heap.size d cs'∧Below w'.heap.size w' w'':=fun w' hb=>
  zgz _ d w.heap.size w' (zan.rd_below (zan.rd_below HR.out HT1.out.bel (Nat.le_refl _)) hb HT1.out.bel.size) (Nat.le_trans HT1.out.bel.size hb.size) hsz
 have CS:=fun (cs':List Value) (hi:Nat) (w':World) (h1:zan.rd w' hi d cs') (h2:hi≤w'.heap.size)=>zi3 hq (zhj d  cs' hi w' h1 h2 hsz);have CI:=fun (cs':List Value) (hi:Nat) (w':World) (h1:zan.rd w' hi d cs') (h2:hi≤w'.heap.size)=>zi3 hq (zhk d  cs' hi w' h1 h2 hsz);have CE:=fun w'=>zgI cc vv w';unfold intR at CE;have CW:=fun c1 c2 h1 h2 w'=>zgD c1 c2 d h1 h2 w';clear hq hsz
 go_wp2_with (refine zaN 28 (.tmp 1) rfl rfl (w.heap.size) rfl T1.b1 Tryz.underlying28 zeg rfl ?_)
 refine (CT _ (Below.refl _ _)).mono ?_;rintro e w2 ⟨c2,rfl,o2,b2⟩;have z1:w.heap.size<w1.heap.size:=T1.b1.lt;clear T1
 go_wp2_with fail
 refine (CS _ _ _ o2.rd (Nat.le_refl _)).mono ?_;rintro e w3 ⟨rfl,b3⟩;have z2:w1.heap.size≤w2.heap.size:=b2.size;have z3:w2.heap.size≤w3.heap.size:=b3.size;have B3:Below w1.heap.size w1 w3:=b2.trans (b3.mono b2.size);clear o2 b2 b3
 go_upto_region 6 with (refine zaM 31 4 (.tmp 14) _ _ 2 rfl rfl rfl rfl rfl rfl rfl rfl zim rfl rfl (zcH _ _) ?_)
 have bA:=bAl w3 (.cells #[.int .i64 cc,.int .i64 vv] 31);have S4:=zal w3 #[.int .i64 cc,.int .i64 vv] 31;obtain ⟨W4,hW4⟩:∃ x,x=w3.alloc (.cells #[.int .i64 cc,.int .i64 vv] 31):=⟨_,rfl⟩;rw [← hW4] at bA S4 ⊢;have B4:=B3.trans (bA.mono (by omega));have P4:=HT1.out.call B4;have z4:w3.heap.size<W4.heap.size:=S4.lt;clear bA hW4 B3
 go_wp2_with (refine zaN 28 (.tmp 1) rfl rfl (w.heap.size) rfl P4.b1 Tryz.underlying28 zeg rfl ?_)
 refine (CT _ B4).mono ?_;rintro e w5 ⟨cX,rfl,oX,b5⟩;obtain ⟨x0,x1,x2,x3,x4,x5,x6,x7,x8,xp0,xl0,xq0,xp1,xl1,xq1,xp2,xl2,xq2,x9,x10,xb,rfl⟩:=ziB oX;have z5:W4.heap.size≤w5.heap.size:=b5.size;have B5:=B4.trans (b5.mono (by omega));have S5:=S4.call b5;clear P4 b5 B4 S4
 go_upto_region 7 with (refine zaM 37 5 (.tmp 16) _ _ 15 rfl rfl rfl rfl rfl rfl rfl rfl zjy rfl rfl oX.one ?_)
 have bA:=bAl w5 (.cells (rwV x0 x1 x2 x3 x4 x5 x6 x7 x8 xp0 xl0 xq0 xp1 xl1 xq1 xp2 xl2 xq2 x9 x10 xb).toArray 37);have X6:=zal w5 (rwV x0 x1 x2 x3 x4 x5 x6 x7 x8 xp0 xl0 xq0 xp1 xl1 xq1 xp2 xl2 xq2 x9 x10 xb).toArray 37;obtain ⟨W6,hW6⟩:∃ x,x=w5.alloc (.cells (rwV x0 x1 x2 x3 x4 x5 x6 x7 x8 xp0 xl0 xq0 xp1 xl1 xq1 xp2 xl2 xq2 x9 x10 xb).toArray 37):=⟨_,rfl⟩;rw [← hW6] at bA X6 ⊢;have B6:=B5.trans (bA.mono (by omega));have S6:=S5.call bA;have OX6:=oX.call bA;have z6:w5.heap.size<W6.heap.size:=X6.lt;clear bA hW6 oX B5 S5
 go_wp2_with (refine zaN 37 (.tmp 5) rfl rfl (w5.heap.size) rfl X6 Tryz.underlying37 zeX rfl ?_)
 refine (CI _ _ _ OX6.rd (by omega)).mono ?_;rintro e w7 ⟨rfl,b7⟩;have z7:W6.heap.size≤w7.heap.size:=b7.size;have B7:=B6.trans (b7.mono (by omega));have S7:=S6.call b7;have X7:=X6.call b7;have OX7:=OX6.call b7;clear b7 B6 S6 X6 OX6
 go_upto_region 8 with (refine zaM 31 6 (.tmp 18) _ _ 2 rfl rfl rfl rfl rfl rfl rfl rfl zim rfl rfl (zcH _ _) ?_)
 have bA:=bAl w7 (.cells #[.int .i64 cc,.int .i64 vv] 31);have G8:=zal w7 #[.int .i64 cc,.int .i64 vv] 31;obtain ⟨W8,hW8⟩:∃ x,x=w7.alloc (.cells #[.int .i64 cc,.int .i64 vv] 31):=⟨_,rfl⟩;rw [← hW8] at bA G8 ⊢;have B8:=B7.trans (bA.mono (by omega));have S8:=S7.call bA;have X8:=X7.call bA;have OX8:=OX7.call bA;have z8:w7.heap.size<W8.heap.size:=G8.lt;clear bA hW8 B7 S7 X7 OX7
 go_wp2_with (first | (refine zaN 31 (.tmp 6) rfl rfl (w7.heap.size) rfl G8 Tryz.underlying31 zbu rfl ?_) | (refine zaN 31 (.tmp 4) rfl rfl (w3.heap.size) rfl S8 Tryz.underlying31 zbu rfl ?_))
 refine (CE _).mono ?_;rintro e w9 ⟨rfl,b9⟩;have z9:W8.heap.size≤w9.heap.size:=b9.size;have B9:=B8.trans (b9.mono (by omega));have X9:=hid (X8.call b9);have OX9:=hid (OX8.call b9);have HB9:=hid B9;have P9:=hid (HT1.out.call B9);have CTc:=fun w' (hb:Below w9.heap.size w9 w')=>CT w' (HB9.out.trans (hb.mono (by omega)));clear b9 B8 S8 X8 OX8 G8 B9
 go_upto_region 10 with fail
 go_cut [27] (fun v wx=>v=.bool false∧Below w9.heap.size w9 wx)
 case first=>
  have KS:∀ w',Below w9.heap.size w9 w'→(Box w' (w5.heap.size) (rwV x0 x1 x2 x3 x4 x5 x6 x7 x8 xp0 xl0 xq0 xp1 xl1 xq1 xp2 xl2 xq2 x9 x10 xb).toArray 37∧Box w' (w.heap.size) (rwV v0 v1 v2 v3 v4 v5 v6 v7 v8 vp0 vl0 vq0 vp1 vl1 vq1 vp2 vl2 vq2 v9 v10 vb).toArray 28):=fun w' hb=>⟨(X9.out).call hb,(P9.out.b1).call hb⟩;have B0:Below w9.heap.size w9 w9.drew:=zgL _;refine zdC 4 (fun w'=>Box w' (w5.heap.size) (rwV x0 x1 x2 x3 x4 x5 x6 x7 x8 xp0 xl0 xq0 xp1 xl1 xq1 xp2 xl2 xq2 x9 x10 xb).toArray 37∧Box w' (w.heap.size) (rwV v0 v1 v2 v3 v4 v5 v6 v7 v8 vp0 vl0 vq0 vp1 vl1 vq1 vp2 vl2 vq2 v9 v10 vb).toArray 28) (by kernel_rfl) (KS _ B0) (fun hHeld=>?_);refine zaA (i:=0) (oi:=_) 16 rfl (by kernel_rfl) (fun _ _ _ h=>h) (zd2 37 (.tmp 5) rfl rfl (w5.heap.size) rfl (cs:=(rwV x0 x1 x2 x3 x4 x5 x6 x7 x8 xp0 xl0 xq0 xp1 xl1 xq1 xp2 xl2 xq2 x9 x10 xb)) (fun w' h=>h.1) Tryz.underlying37 zeX rfl) (by assumption) ?_
  try simp only [Act.put,SL]
  refine zaA (i:=1) (oi:=_) 16 rfl (by kernel_rfl) (fun _ _ _ h=>h) (zd2 28 (.tmp 1) rfl rfl (w.heap.size) rfl (cs:=(rwV v0 v1 v2 v3 v4 v5 v6 v7 v8 vp0 vl0 vq0 vp1 vl1 vq1 vp2 vl2 vq2 v9 v10 vb)) (fun w' h=>h.2) Tryz.underlying28 zeg rfl) (by assumption) ?_
  try simp only [Act.put,SL]
  refine zbn (i:=2) (o:=_) rfl (by kernel_rfl) (fun KC hKC=>?_);refine zbZ rfl 6 _ _ rfl #[.agg (rwV v0 v1 v2 v3 v4 v5 v6 v7 v8 vp0 vl0 vq0 vp1 vl1 vq1 vp2 vl2 vq2 v9 v10 vb).toArray] ?_ Tryz.func6 (by kernel_rfl) (by kernel_rfl) (CTc _ B0) ?_
  ·simp [Act.eval,Act.put]
  rintro ee wb ⟨cs',rfl,oR,bb⟩;have bR:Below w9.heap.size w9 wb:=B0.trans (bb.mono B0.size);refine ⟨_,rfl,?_⟩;refine hKC.out _ _ (KS _ bR) (fun hHeld=>?_);clear hKC KC
  try simp only [Act.put,SL]
  refine zbn (i:=3) (o:=_) rfl (by kernel_rfl) (fun KC hKC=>?_);refine zbZ rfl 9 _ _ rfl #[.agg (rwV x0 x1 x2 x3 x4 x5 x6 x7 x8 xp0 xl0 xq0 xp1 xl1 xq1 xp2 xl2 xq2 x9 x10 xb).toArray,.agg cs'.toArray] ?_ Tryz.func9 (by kernel_rfl) (by kernel_rfl) (CW _ _ _ _ _ ((OX9.out).call bR).rd oR.rd (Nat.le_trans (by omega) bR.size) (Nat.le_refl _)) ?_
  ·simp [Act.eval,Act.put]
  rintro ee wc' ⟨rfl,bc⟩;have bC:Below w9.heap.size w9 wc':=bR.trans (bc.mono bR.size);refine ⟨_,rfl,?_⟩;refine hKC.out _ _ (KS _ bC) (fun hHeld=>?_);clear hKC KC
  try simp only [Act.put,SL]
  refine zdA (o:=_) rfl (by kernel_rfl) (fun KC hKC=>?_);go_simp;refine hKC.out _ _ ?_;clear hKC KC
  try simp only [Act.put,SL]
  refine zdB (by kernel_rfl) ?_ _;go_wp2
  go_meet
  exact ⟨rfl,bC⟩
 case rest=>
 obtain ⟨rfl,b10⟩:=hcut;have HB:Hid (Below w.heap.size w wc):=(P9.out.call b10).bel;clear b10 CTc;go_wp2;go_ret;exact ⟨rfl,HB.out⟩
set_option maxRecDepth 100000 in
theorem zbT (os:Os) (started:os.Started) (H:Type) (enc:TypeId×Value→H) :
 ReturnsInHanded {} Tryz.checked os 3 .any (Rows.fnExactWaitingBytesSpec.pre6 enc Tryz.prog Tryz.f3 Rows.fnExactWaitingBytesRow.domain false) (Rows.fnExactWaitingBytesSpec.post enc Tryz.prog Tryz.f3 false true false false):=by
 refine returnsInHanded_of_change (C:=Tryz.checked) zhl started (by kernel_rfl) Tryz.func3
  (ChangeSpec.witness6 (enc:=enc) (C:=Tryz.checked) false ⟨#[],#[.agg (rwV 0 0 0 0 0 0 0 0 0 none 0 0 none 0 0 none 0 0 0 0 false).toArray],[]⟩ 8 (by kernel_rfl) (by kernel_rfl) (by kernel_rfl) (by kernel_rfl)) ?_
 intro W base args ds gs before hval0 hW hcnd _;have hval:∀ (j:Nat) t v,Tryz.f3.params[j]?=some t→args[j]?=some v→Value.okWide Tryz.prog W .any base t v:=hval0;have hW':=hW;obtain ⟨p,q,hA0,hV,rfl,hfz,hnd⟩:=hW;have hA:DataW.TrodAll enc Tryz.prog W 0 (fun _=>true) true Tryz.f3.params.toList args.toList ds p:=hA0;rw [Tryz.params3] at hA hval;obtain ⟨v0,vs0,d0,ds0,p0,q0,hargs,rfl,rfl,h0,r0⟩:=trodAll_cons hA;obtain ⟨rfl,rfl,rfl⟩:=trodAll_nil r0
 obtain rfl:args=#[v0]:=by cases args;simp_all
 obtain ⟨rfl,rfl⟩:=trodVars_none hV;have k0:=h0
 have lt0:∀ x∈p0,x.block<W.heap.size:=by obtain ⟨m,hm⟩:=k0;exact DataW.trod_lt m _ _ _ hm
 obtain ⟨cs0,a0,rfl,rd0⟩:=zdP zgq Tryz.underlying28 (hval 0 28 v0 rfl rfl) h0;clear hA0 hval0;refine (zb6 a0 cs0 W rd0).mono fun e W' ⟨he,bel⟩=>?_;subst he;exact ⟨_,rfl,_,_,_,[],_,[],hW',trodAll_mk1 (shut_bool Tryz.underlying4 _),(trodAll_cons_mk (Below.trod zgl (by kernel_rfl) (of_decide_eq_true (by kernel_rfl)) k0 bel lt0) trodAll_mk0),rfl,bel.frame _,fun h=>by cases h⟩
end Go.Proofs.YtecofihpkcljcaaGreat
