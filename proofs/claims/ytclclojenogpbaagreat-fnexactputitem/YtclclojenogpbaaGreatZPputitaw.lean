/- ItemBytes of the specification. -/
import Derived.Test.YtclclojenogpbaaGreatZPputitav
import Derived.Test.YtclclojenogpbaaGreatZPputitau
set_option linter.unusedVariables false
set_option linter.unusedSimpArgs false
set_option maxHeartbeats 16000000
namespace Go.Proofs.YtclclojenogpbaaGreat
open Go.RowKit F256
section
variable {P:Program} {ops:Array Oper} {Q:Exit→Act→World→Prop} {md:Region.Mode} {S:World→Prop} {L:Nat}
end
theorem zcF {f:Nat} {args:Array Value} {w:World} {R:Ending→World→Prop} (h:Calls Tryz.prog f args w R):Calls Tryz.prog f (args++#[]) w R:=by simpa using h
theorem zmA:Tryz.prog.follows Departure.mixedOrders=true:=by kernel_rfl
def CodO (A:WorldResultD→Prop) (o:Outc):Prop:=A o.final∧∀ c d2,o=.done c d2→c≠9∧(-9223372036854775808≤c∧c≤9223372036854775807)
def CdP (A:WorldResultD→Prop) (B:Nat) (w:World) (K:List Nat) (e:Ending) (w':World):Prop:=∃ o,CodO A o∧NxO o B w K e w'
theorem CodO.code {A:WorldResultD→Prop} {x:Int} {d:WorldD} (h0:x≠0) (h9:x≠9) (hw:-9223372036854775808≤x∧x≤9223372036854775807) (h:A ⟨x,zeB⟩):CodO A (.done x d):=
 ⟨by show A (if x=0 then _ else _);rw [if_neg h0];exact h,fun c d2 e=>by cases e;exact ⟨h9,hw⟩⟩
theorem CodO.next {A:WorldResultD→Prop} {r:RecD} {d:WorldD} (h:A (zbG r d).final):CodO A (zbG r d):=
 ⟨h,fun c d2 e=>by rcases zgw e with rfl | rfl<;>decide⟩
theorem NxO.int {o:Outc} {B:Nat} {w w':World} {K:List Nat} {e:Ending} (h:NxO o B w K e w'):∃ c:Int,e=.returned (.int .i64 c):=by
 cases o with
 | done c d2=>exact ⟨c,h.1⟩
 | cut d2=>exact ⟨9,h.1⟩
set_option maxRecDepth 20000 in
theorem zmB (B:Nat) (d:WorldD) (K:List Nat) (nm:ByteArray) (n cap h2:Nat) (ao:Option Addr) (f:Nat→Nat) (w:World) (hX:SpB w B d K) (hask:AskAns d 0) (hsz:zaT d≤1048576) (hnm:nm.size≤1048576) (hn:n≤1048576) (hb:∀ w',ChgL (B::K) w w'→zaf.rd w' h2 (n,f) [.slice ao n cap]) (hh2:h2≤w.heap.size) :
 Calls Tryz.prog 53 #[.pointer (some ⟨B,0,none⟩),.string nm,.slice ao n cap] w (CdP (PutAns d nm n f) B w K):=by
 obtain ⟨cs0,hBx,hrd⟩:=hX.rd;have hf:=zmq (znp hask) (znr hask);have HCC:Hid (∀ W,Below w.heap.size w W→Calls Tryz.prog 60 #[.pointer (some ⟨B,0,none⟩)] W (fun e w'=>∃ v' l ce lo,e=.returned v'∧Cnt (recT d.tapes.2 2) (lenT d.tapes.2 2) l∧W.heap.size≤lo∧View zab 72 w' lo w.heap.size v' l.length (fun i=>recT d.tapes.2 2 (l.getD i 0)) ce∧Below W.heap.size W w')):=fun W hb=>zen d cs0 w.heap.size B W (zad.rd_below hrd hb (Nat.le_refl _)) hb.size (hBx.call hb) hf.1.two hf.2.1 hf.2.2;have CN0:=zeM nm hnm w;have HF:=hid hf;have HX:=hid hX;have HA:=hid hask;have HOK:=hid (znp hask);have HSZ:=hid hsz;have HNM:=hid hnm;have HRB:=hid hb;have hB:=hX.lt;obtain ⟨v0,v1,v2,v3,v4,v5,v6,v7,v8,vp0,vl0,vq0,vp1,vl1,vq1,vp2,vl2,vq2,v9,v10,vb,rfl⟩:=zfI hrd
 have HSH:Hid (v0=d.shape 0∧v1=d.shape 1∧v2=d.shape 2∧v3=d.shape 3∧v4=d.shape 4∧v5=d.shape 5∧v6=d.shape 6∧v7=d.shape 7∧v8=d.shape 8):=by
  obtain ⟨a1,k1,a2,k2,a3,k3,e,-⟩:=zaP hrd
  simp only [List.cons.injEq,Value.int.injEq,true_and] at e
  exact ⟨e.1,e.2.1,e.2.2.1,e.2.2.2.1,e.2.2.2.2.1,e.2.2.2.2.2.1,e.2.2.2.2.2.2.1,e.2.2.2.2.2.2.2.1,e.2.2.2.2.2.2.2.2.1⟩
 have x_0:w.cell? ⟨B,0,none⟩=some (.int .i64 (d.shape 0)):=by rw [hBx.cell 0];show some (Value.int .i64 v0)=_;rw [HSH.out.1]
 have x_1:w.cell? ⟨B,1,none⟩=some (.int .i64 (d.shape 1)):=by rw [hBx.cell 1];show some (Value.int .i64 v1)=_;rw [HSH.out.2.1]
 have x_2:w.cell? ⟨B,2,none⟩=some (.int .i64 (d.shape 2)):=by rw [hBx.cell 2];show some (Value.int .i64 v2)=_;rw [HSH.out.2.2.1]
 have x_3:w.cell? ⟨B,3,none⟩=some (.int .i64 (d.shape 3)):=by rw [hBx.cell 3];show some (Value.int .i64 v3)=_;rw [HSH.out.2.2.2.1]
 have x_4:w.cell? ⟨B,4,none⟩=some (.int .i64 (d.shape 4)):=by rw [hBx.cell 4];show some (Value.int .i64 v4)=_;rw [HSH.out.2.2.2.2.1]
 have x_5:w.cell? ⟨B,5,none⟩=some (.int .i64 (d.shape 5)):=by rw [hBx.cell 5];show some (Value.int .i64 v5)=_;rw [HSH.out.2.2.2.2.2.1]
 have x_6:w.cell? ⟨B,6,none⟩=some (.int .i64 (d.shape 6)):=by rw [hBx.cell 6];show some (Value.int .i64 v6)=_;rw [HSH.out.2.2.2.2.2.2.1]
 have x_7:w.cell? ⟨B,7,none⟩=some (.int .i64 (d.shape 7)):=by rw [hBx.cell 7];show some (Value.int .i64 v7)=_;rw [HSH.out.2.2.2.2.2.2.2.1]
 have x_8:w.cell? ⟨B,8,none⟩=some (.int .i64 (d.shape 8)):=by rw [hBx.cell 8];show some (Value.int .i64 v8)=_;rw [HSH.out.2.2.2.2.2.2.2.2]
 clear hX hask hf hBx hrd hnm hb hsz
 go_enter Tryz.func53,Tryz.ntmps53
 go_wp2_with fail
 refine CN0.mono ?_;rintro e w1 ⟨x,rfl,hx,e1⟩;have e2:=e1.symm;subst e2;have HN:=hid hx;clear CN0 hx
 by_cases hx0:x=0
 case neg=>
  have hne:(x != 0)=true:=by simp [hx0]
  have HC:Hid (CodO (PutAns d nm n f) (.done x d)):=CodO.code hx0 (by rcases HN.out with ⟨rfl,_⟩ | ⟨rfl,_⟩<;>decide) (by rcases HN.out with ⟨rfl,_⟩ | ⟨rfl,_⟩<;>decide) (.inl ⟨x,hx0,.inr ⟨HA.out,HN.out⟩,rfl⟩);clear hx0 x_0 x_1 x_2 x_3 x_4 x_5 x_6 x_7 x_8;go_wp2;go_ret;exact ⟨_,HC.out,rfl,K,HX.out,fun b hb=>.inl hb,ChgL.refl _ _⟩
 subst hx0;have HNF:Hid (NfC d nm 0):=.inr ⟨HA.out,HN.out⟩;have CL4:=zgf d.shape (by have:=okB HOK.out.shape;omega) (by have:=okB HOK.out.shape;omega) (n:Int) w;unfold zaq at CL4
 go_wp2_with fail
 refine CL4.mono ?_;rintro e w1 ⟨c,rfl,hc,b1⟩;replace hc:LgC d n c:=hc;have HLC:=hid hc;have HB1:=hid b1;have HX1:=hid (HX.out.below b1);clear CL4 hc x_0 x_1 x_2 x_3 x_4 x_5 x_6 x_7
 by_cases hc0:c=0
 case neg=>
  have hne:(c != 0)=true:=by simp [hc0]
  have HC:Hid (CodO (PutAns d nm n f) (.done c d)):=CodO.code hc0 (zhd HLC.out).2 (zhd HLC.out).1 (.inr ⟨HNF.out,.inl ⟨c,hc0,HLC.out,rfl⟩⟩);clear hc0 x_8;go_wp2;go_ret;exact ⟨_,HC.out,rfl,K,HX1.out,fun b hb=>.inl hb,ChgL.of_below HB1.out⟩
 subst hc0;have hn36:=zjp HOK.out.shape HLC.out;have hnm8:=zjq (zg3 HNF.out).2;have HS:Hid (∀ w',Below w.heap.size w w'→w'.cell? ⟨B,8,none⟩=some (.int .i64 (d.shape 8))):=fun w' hb=>(hb.cell (p:=⟨B,8,none⟩) hB).trans x_8;obtain ⟨D,hD⟩:∃ D,D=w1.drew:=⟨_,rfl⟩;have HD:=hid hD
 have HBD:Hid (Below w.heap.size w D):=by rw [hD];exact HB1.out.trans ⟨rfl,rfl,rfl,Nat.le_refl _,fun _ _=>rfl⟩
 have zD:=HBD.out.size;have CC:=HCC.out D HBD.out;clear hD x_8
 go_upto_region 7 with fail
 refine zaC 11 (fun w'=>w'.cell? ⟨B,8,none⟩=some (.int .i64 (d.shape 8))) zmA (by rw [← HD.out];exact HS.out _ HBD.out) (fun hHeld=>?_);rw [← HD.out] at hHeld ⊢;refine zok 0 rfl ?_
 try simp only [Act.put,SL]
 refine zok 3 rfl ?_
 try simp only [Act.put,SL]
 refine zok 4 rfl ?_
 try simp only [Act.put,SL]
 refine zok 6 rfl ?_
 try simp only [Act.put,SL]
 refine zbs (i:=1) (j:=7) (o:=_) (o':=_) rfl rfl (by kernel_rfl) (fun KC hKC=>?_) (fun KC hKC=>?_)
 ·skip
  refine zbb (by kernel_rfl) (.func 60) 60 #[] _ _ rfl (by simp [Act.eval,Act.put]) #[.pointer (some ⟨B,0,none⟩)] (by simp [Act.eval,Act.put]) Tryz.func60 (by kernel_rfl) (by kernel_rfl) (zcF (CC)) ?_;rintro e w2 ⟨v2,l,ce0,lo2,rfl,hCt,hlo2,V,b2⟩;refine ⟨_,rfl,?_⟩;have HL:=hid hCt;have HB2:=hid (HBD.out.trans (b2.mono zD));have z2:D.heap.size≤w2.heap.size:=b2.size
  have hlen:l.length≤800000:=by
   have h1:=(hCt.sum (fun _=>0)).2;have h2:=HF.out.2.1;have h3:=HF.out.2.2
   have e2:lenT d.tapes.2 2=(d.tapes.2 0).recs.1+(d.tapes.2 1).recs.1:=by simp [lenT]
   omega
  have CW:=zex v2 l.length (fun i=>recT d.tapes.2 2 (l.getD i 0)) w2.heap.size w2 (V.rd (by omega)) (Nat.le_refl _) hlen (fun m hm=>zhc HOK.out.form.2.2 HSZ.out hCt hm);obtain ⟨a2,c2,rfl⟩:=V.form;have hH2:w2.cell? ⟨B,8,none⟩=some (.int .i64 (d.shape 8)):=HS.out _ HB2.out;refine hKC _ _ hH2 ?_;clear hKC KC b2 V hCt
  try simp only [Act.put,SL]
  refine zbs (i:=2) (j:=7) (o:=_) (o':=_) rfl rfl (by kernel_rfl) (fun KC hKC=>?_) (fun KC hKC=>?_)
  ·skip
   refine zbb (by kernel_rfl) (.func 92) 92 #[] _ _ rfl (by simp [Act.eval,Act.put]) #[.slice a2 l.length c2] (by simp [Act.eval,Act.put]) Tryz.func92 (by kernel_rfl) (by kernel_rfl) (zcF (CW)) ?_;rintro e w3 ⟨m,rfl,hLM,b3⟩;refine ⟨_,rfl,?_⟩;have HWT:Hid (WtbAns d 0 (wsum (fun i=>recT d.tapes.2 2 (l.getD i 0)) m m.length:Int)):=.inr ⟨zd0 HA.out,rfl,l,m,HL.out,hLM,rfl⟩;have HB3:=hid (HB2.out.trans (b3.mono HB2.out.size));obtain ⟨v,hv⟩:∃ v:Int,v=(wsum (fun i=>recT d.tapes.2 2 (l.getD i 0)) m m.length:Int):=⟨_,rfl⟩;rw [← hv]
   have HWV:Hid (WtbAns d 0 v):=by
    rw [hv];exact HWT.out
   have hvs:=zfd HOK.out HSZ.out HWV.out
   have wz:IntKind.i64.wrap (v+(n:Int))=v+(n:Int):=by rw [IntKind.wrap_i64];omega
   have hH3:w3.cell? ⟨B,8,none⟩=some (.int .i64 (d.shape 8)):=HS.out _ HB3.out;refine hKC _ _ hH3 ?_;clear hKC KC b3 hLM hv CW HWT
   try simp only [Act.put,SL]
   refine zok 5 rfl ?_
   try simp only [Act.put,SL]
   refine zaH (i:=7) (o:=_) rfl (by kernel_rfl) (fun KC hKC=>?_);go_simp;refine hKC _ _ hH3 ?_;clear hKC KC
   try simp only [Act.put,SL]
   refine zok 8 rfl ?_
   try simp only [Act.put,SL]
   refine zok 9 rfl ?_
   try simp only [Act.put,SL]
   refine zol 10 rfl ?_
   try simp only [Act.put,SL]
   refine zam (i:=11) (o:=_) rfl (by kernel_rfl) (by kernel_rfl) (fun KC hKC=>?_);go_simp;refine hKC _ _ ?_;clear hKC KC
   try simp only [Act.put,SL]
   refine zan (by kernel_rfl) ?_ _;have HX3:=hid (HX.out.below HB3.out);clear hHeld hH2 hH3
   by_cases hbz:d.shape 8<v+(n:Int)
   ·have HC:Hid (CodO (PutAns d nm n f) (.done 11 d)):=CodO.code (by decide) (by decide) (by decide) (.inr ⟨HNF.out,.inr ⟨HLC.out,v,HWV.out,.inl ⟨hbz,rfl⟩⟩⟩)
    go_wp2;go_ret;exact ⟨_,HC.out,rfl,K,HX3.out,fun b hb=>.inl hb,ChgL.of_below HB3.out⟩
   ·have hdz:decide (d.shape 8<v+(n:Int))=false:=decide_eq_false hbz
    have HC:Hid (CodO (PutAns d nm n f) (zbG (putR nm n f) d)):=CodO.next (.inr ⟨HNF.out,.inr ⟨HLC.out,v,HWV.out,.inr ⟨hbz,rfl⟩⟩⟩);have CL:=zeJ B d K (putR nm n f) none ao none 0 cap 0 h2 w3 HX3.out HF.out (fun x hx w' hc=>zj5 nm HNM.out hn (HRB.out w' ((ChgL.of_below HB3.out).trans hc)) x hx) (Nat.le_trans hh2 HB3.out.size) (zik hnm8 hn36);have CL':Calls Tryz.prog 81 #[.pointer (some ⟨B,0,none⟩),.agg #[.int .i64 1,.int .i64 0,.string nm,.int .i64 (n:Int),.int .i64 0,.int .i64 0,.slice none 0 0,.slice ao n cap,.slice none 0 0]] w3 (NxO (zbG (putR nm n f) d) B w3 K):=CL;clear CL
    go_wp2_with fail
    refine CL'.mono ?_;rintro e w6 h6;clear hbz;have HH:Hid (CdP (PutAns d nm n f) B w K e w6):=⟨_,HC.out,NxO.after (fun b hb=>.inl hb) (ChgL.of_below HB3.out) h6⟩;obtain ⟨c,rfl⟩:=h6.int;clear h6 CL';go_wp2;go_ret;exact HH.out
  ·skip
   go_simp;refine hKC _ _ hH2 ?_;clear hKC KC
   try simp only [Act.put,SL]
   refine zok 8 rfl ?_
   try simp only [Act.put,SL]
   refine zok 9 rfl ?_
   try simp only [Act.put,SL]
   refine zol 10 rfl ?_
   try simp only [Act.put,SL]
   refine zaH (i:=2) (o:=_) rfl (by kernel_rfl) (fun KC hKC=>?_);refine zbb (by kernel_rfl) (.func 92) 92 #[] _ _ rfl (by simp [Act.eval,Act.put]) #[.slice a2 l.length c2] (by simp [Act.eval,Act.put]) Tryz.func92 (by kernel_rfl) (by kernel_rfl) (zcF (CW)) ?_;rintro e w3 ⟨m,rfl,hLM,b3⟩;refine ⟨_,rfl,?_⟩;have HWT:Hid (WtbAns d 0 (wsum (fun i=>recT d.tapes.2 2 (l.getD i 0)) m m.length:Int)):=.inr ⟨zd0 HA.out,rfl,l,m,HL.out,hLM,rfl⟩;have HB3:=hid (HB2.out.trans (b3.mono HB2.out.size));obtain ⟨v,hv⟩:∃ v:Int,v=(wsum (fun i=>recT d.tapes.2 2 (l.getD i 0)) m m.length:Int):=⟨_,rfl⟩;rw [← hv]
   have HWV:Hid (WtbAns d 0 v):=by
    rw [hv];exact HWT.out
   have hvs:=zfd HOK.out HSZ.out HWV.out
   have wz:IntKind.i64.wrap (v+(n:Int))=v+(n:Int):=by rw [IntKind.wrap_i64];omega
   have hH3:w3.cell? ⟨B,8,none⟩=some (.int .i64 (d.shape 8)):=HS.out _ HB3.out;refine hKC _ _ hH3 ?_;clear hKC KC b3 hLM hv CW HWT
   try simp only [Act.put,SL]
   refine zok 5 rfl ?_
   try simp only [Act.put,SL]
   refine zam (i:=11) (o:=_) rfl (by kernel_rfl) (by kernel_rfl) (fun KC hKC=>?_);go_simp;refine hKC _ _ ?_;clear hKC KC
   try simp only [Act.put,SL]
   refine zan (by kernel_rfl) ?_ _;have HX3:=hid (HX.out.below HB3.out);clear hHeld hH2 hH3
   by_cases hbz:d.shape 8<v+(n:Int)
   ·have HC:Hid (CodO (PutAns d nm n f) (.done 11 d)):=CodO.code (by decide) (by decide) (by decide) (.inr ⟨HNF.out,.inr ⟨HLC.out,v,HWV.out,.inl ⟨hbz,rfl⟩⟩⟩)
    go_wp2;go_ret;exact ⟨_,HC.out,rfl,K,HX3.out,fun b hb=>.inl hb,ChgL.of_below HB3.out⟩
   ·have hdz:decide (d.shape 8<v+(n:Int))=false:=decide_eq_false hbz
    have HC:Hid (CodO (PutAns d nm n f) (zbG (putR nm n f) d)):=CodO.next (.inr ⟨HNF.out,.inr ⟨HLC.out,v,HWV.out,.inr ⟨hbz,rfl⟩⟩⟩);have CL:=zeJ B d K (putR nm n f) none ao none 0 cap 0 h2 w3 HX3.out HF.out (fun x hx w' hc=>zj5 nm HNM.out hn (HRB.out w' ((ChgL.of_below HB3.out).trans hc)) x hx) (Nat.le_trans hh2 HB3.out.size) (zik hnm8 hn36);have CL':Calls Tryz.prog 81 #[.pointer (some ⟨B,0,none⟩),.agg #[.int .i64 1,.int .i64 0,.string nm,.int .i64 (n:Int),.int .i64 0,.int .i64 0,.slice none 0 0,.slice ao n cap,.slice none 0 0]] w3 (NxO (zbG (putR nm n f) d) B w3 K):=CL;clear CL
    go_wp2_with fail
    refine CL'.mono ?_;rintro e w6 h6;clear hbz;have HH:Hid (CdP (PutAns d nm n f) B w K e w6):=⟨_,HC.out,NxO.after (fun b hb=>.inl hb) (ChgL.of_below HB3.out) h6⟩;obtain ⟨c,rfl⟩:=h6.int;clear h6 CL';go_wp2;go_ret;exact HH.out
 ·skip
  go_simp;refine hKC _ _ hHeld ?_;clear hKC KC
  try simp only [Act.put,SL]
  refine zok 8 rfl ?_
  try simp only [Act.put,SL]
  refine zok 9 rfl ?_
  try simp only [Act.put,SL]
  refine zol 10 rfl ?_
  try simp only [Act.put,SL]
  refine zaH (i:=1) (o:=_) rfl (by kernel_rfl) (fun KC hKC=>?_);refine zbb (by kernel_rfl) (.func 60) 60 #[] _ _ rfl (by simp [Act.eval,Act.put]) #[.pointer (some ⟨B,0,none⟩)] (by simp [Act.eval,Act.put]) Tryz.func60 (by kernel_rfl) (by kernel_rfl) (zcF (CC)) ?_;rintro e w2 ⟨v2,l,ce0,lo2,rfl,hCt,hlo2,V,b2⟩;refine ⟨_,rfl,?_⟩;have HL:=hid hCt;have HB2:=hid (HBD.out.trans (b2.mono zD));have z2:D.heap.size≤w2.heap.size:=b2.size
  have hlen:l.length≤800000:=by
   have h1:=(hCt.sum (fun _=>0)).2;have h2:=HF.out.2.1;have h3:=HF.out.2.2
   have e2:lenT d.tapes.2 2=(d.tapes.2 0).recs.1+(d.tapes.2 1).recs.1:=by simp [lenT]
   omega
  have CW:=zex v2 l.length (fun i=>recT d.tapes.2 2 (l.getD i 0)) w2.heap.size w2 (V.rd (by omega)) (Nat.le_refl _) hlen (fun m hm=>zhc HOK.out.form.2.2 HSZ.out hCt hm);obtain ⟨a2,c2,rfl⟩:=V.form;have hH2:w2.cell? ⟨B,8,none⟩=some (.int .i64 (d.shape 8)):=HS.out _ HB2.out;refine hKC _ _ hH2 ?_;clear hKC KC b2 V hCt
  try simp only [Act.put,SL]
  refine zaH (i:=2) (o:=_) rfl (by kernel_rfl) (fun KC hKC=>?_);refine zbb (by kernel_rfl) (.func 92) 92 #[] _ _ rfl (by simp [Act.eval,Act.put]) #[.slice a2 l.length c2] (by simp [Act.eval,Act.put]) Tryz.func92 (by kernel_rfl) (by kernel_rfl) (zcF (CW)) ?_;rintro e w3 ⟨m,rfl,hLM,b3⟩;refine ⟨_,rfl,?_⟩;have HWT:Hid (WtbAns d 0 (wsum (fun i=>recT d.tapes.2 2 (l.getD i 0)) m m.length:Int)):=.inr ⟨zd0 HA.out,rfl,l,m,HL.out,hLM,rfl⟩;have HB3:=hid (HB2.out.trans (b3.mono HB2.out.size));obtain ⟨v,hv⟩:∃ v:Int,v=(wsum (fun i=>recT d.tapes.2 2 (l.getD i 0)) m m.length:Int):=⟨_,rfl⟩;rw [← hv]
  have HWV:Hid (WtbAns d 0 v):=by
   rw [hv];exact HWT.out
  have hvs:=zfd HOK.out HSZ.out HWV.out
  have wz:IntKind.i64.wrap (v+(n:Int))=v+(n:Int):=by rw [IntKind.wrap_i64];omega
  have hH3:w3.cell? ⟨B,8,none⟩=some (.int .i64 (d.shape 8)):=HS.out _ HB3.out;refine hKC _ _ hH3 ?_;clear hKC KC b3 hLM hv CW HWT
  try simp only [Act.put,SL]
  refine zok 5 rfl ?_
  try simp only [Act.put,SL]
  refine zam (i:=11) (o:=_) rfl (by kernel_rfl) (by kernel_rfl) (fun KC hKC=>?_);go_simp;refine hKC _ _ ?_;clear hKC KC
  try simp only [Act.put,SL]
  refine zan (by kernel_rfl) ?_ _;have HX3:=hid (HX.out.below HB3.out);clear hHeld hH2 hH3
  by_cases hbz:d.shape 8<v+(n:Int)
  ·have HC:Hid (CodO (PutAns d nm n f) (.done 11 d)):=CodO.code (by decide) (by decide) (by decide) (.inr ⟨HNF.out,.inr ⟨HLC.out,v,HWV.out,.inl ⟨hbz,rfl⟩⟩⟩)
   go_wp2;go_ret;exact ⟨_,HC.out,rfl,K,HX3.out,fun b hb=>.inl hb,ChgL.of_below HB3.out⟩
  ·have hdz:decide (d.shape 8<v+(n:Int))=false:=decide_eq_false hbz
   have HC:Hid (CodO (PutAns d nm n f) (zbG (putR nm n f) d)):=CodO.next (.inr ⟨HNF.out,.inr ⟨HLC.out,v,HWV.out,.inr ⟨hbz,rfl⟩⟩⟩);have CL:=zeJ B d K (putR nm n f) none ao none 0 cap 0 h2 w3 HX3.out HF.out (fun x hx w' hc=>zj5 nm HNM.out hn (HRB.out w' ((ChgL.of_below HB3.out).trans hc)) x hx) (Nat.le_trans hh2 HB3.out.size) (zik hnm8 hn36);have CL':Calls Tryz.prog 81 #[.pointer (some ⟨B,0,none⟩),.agg #[.int .i64 1,.int .i64 0,.string nm,.int .i64 (n:Int),.int .i64 0,.int .i64 0,.slice none 0 0,.slice ao n cap,.slice none 0 0]] w3 (NxO (zbG (putR nm n f) d) B w3 K):=CL;clear CL
   go_wp2_with fail
   refine CL'.mono ?_;rintro e w6 h6;clear hbz;have HH:Hid (CdP (PutAns d nm n f) B w K e w6):=⟨_,HC.out,NxO.after (fun b hb=>.inl hb) (ChgL.of_below HB3.out) h6⟩;obtain ⟨c,rfl⟩:=h6.int;clear h6 CL';go_wp2;go_ret;exact HH.out
set_option maxRecDepth 20000 in
theorem zjr (d:WorldD) (nm:ByteArray) (n cap:Nat) (ao:Option Addr) (f:Nat→Nat) (cs:List Value) (hi h2:Nat) (w:World) (h:zad.rd w hi d cs) (hhi:hi≤w.heap.size) (hb:zaf.rd w h2 (n,f) [.slice ao n cap]) (hh2:h2≤w.heap.size) (hsz:zaT d≤1048576) (hnm:nm.size≤1048576) (hn:n≤1048576) :
 Calls Tryz.prog 20 #[.agg cs.toArray,.string nm,.slice ao n cap] w (zft (PutAns d nm n f) w):=by
 have h':=h;obtain ⟨ao1,cap1,ao2,cap2,ao3,cap3,rfl,g1,g2,g3,k0,k4,k5⟩:=zaP h';have HRD:=hid h;have HSZ:=hid hsz;have HNM:=hid hnm;have HRB:=hid hb;clear h h' hsz hnm hb g1 g2 g3 k0 k4 k5;have T0:=zaE w (rwW d ao1 cap1 ao2 cap2 ao3 cap3).toArray rwZ.toArray 38 46
 go_enter Tryz.func20,Tryz.ntmps20
 go_wp2_with (refine zai 38 (.tmp 3) rfl rfl (w.heap.size) rfl (T0.b1) Tryz.underlying38 zbq rfl ?_)
 refine (zjb d _ hi _ (zad.rd_below HRD.out T0.bel hhi) (Nat.le_trans hhi T0.bel.size) HSZ.out).mono ?_;rintro e w1 ⟨x,rfl,hx,b1⟩;have HT1:=hid (T0.call b1);have HX:=hid hx;have z1:w.heap.size+1<w1.heap.size:=HT1.out.b2.lt;clear b1 T0 hx
 by_cases hx0:x=0
 case neg=>
  have hne:(x != 0)=true:=by simp [hx0]
  go_wp2_with (refine zaR 46 _ _ rfl rfl (w.heap.size+1) rfl (cs:=(.int .i64 x::rwY)) rfl (HT1.out.b2) zaS rfl rfl (zcQ _ (zfK HX.out) w) ?_;intro w9 X9 C9 z9)
  refine zbE Tryz.results20 rfl X9 Tryz.underlying46 zaS rfl rfl ?_;exact zdD (zfK HX.out) HT1.out.bel C9 (.inl ⟨x,hx0,.inl ⟨hx0,HX.out⟩,rfl⟩)
 subst hx0
 go_wp2_with (refine zai 38 (.tmp 3) rfl rfl (w.heap.size) rfl (HT1.out.b1) Tryz.underlying38 zbq rfl ?_)
 refine (zmu _ d hi _ (zad.rd_below HRD.out HT1.out.bel hhi) (Nat.le_trans hhi HT1.out.bel.size) HSZ.out).mono ?_;rintro e w2 ⟨c2,rfl,o2,b2⟩;obtain ⟨p1,c1,p2,c2,p3,c3,K1,K2,K3,rfl,WO2⟩:=zkS o2;have z2:w1.heap.size≤w2.heap.size:=b2.size
 go_upto_region 5 with (refine zaQ 38 8 (.tmp 17) _ _ 15 rfl rfl rfl rfl rfl rfl rfl rfl znl rfl rfl o2.one ?_)
 have bA:=bAl w2 (.cells (rwW d p1 c1 p2 c2 p3 c3).toArray 38);have X3:=zap w2 (rwW d p1 c1 p2 c2 p3 c3).toArray 38;obtain ⟨W3,hW3⟩:∃ x,x=w2.alloc (.cells (rwW d p1 c1 p2 c2 p3 c3).toArray 38):=⟨_,rfl⟩;rw [← hW3] at bA X3 ⊢;have T3:=(HT1.out.call b2).call bA;have WO:=WO2.below bA (Nat.le_refl _);have z3:w2.heap.size<W3.heap.size:=X3.lt;clear bA hW3 o2 b2 WO2;have hin:∀ b,b∈K1++(K2++(K3++[]))→w1.heap.size≤b∧b<w2.heap.size:=fun b hb=>WO.inn b (by simpa using hb);have S3:SpB W3 w2.heap.size d (K1++(K2++(K3++[]))):=⟨_,X3,WO.encO (fun hm=>by have:=WO.inn _ hm;omega)⟩
 have CS:=zmB w2.heap.size d _ nm n cap h2 ao f W3 S3 HX.out HSZ.out HNM.out hn (fun w' hc=>zaf.rd_below HRB.out ((T3.bel.mono hh2).trans (hc.bel (fun b hb=>by
  rcases List.mem_cons.1 hb with h | h
  ·omega
  ·have:=hin b h;omega) (Nat.le_trans hh2 T3.bel.size))) (Nat.le_refl _)) (Nat.le_trans hh2 T3.bel.size)
 clear S3 X3 WO
 go_wp2_with fail
 refine CS.mono ?_;rintro e w5 ⟨oc,hco,h5⟩;have HCO:=hid hco;clear CS hco
 cases oc with
 | cut d2=>
  obtain ⟨rfl,K5,S5,s5,C5⟩:=h5;have HQ:=hid HCO.out.1;clear HCO;obtain ⟨cs5,X5,O5⟩:=S5;obtain ⟨y0,y1,y2,y3,y4,y5,y6,y7,y8,yp0,yl0,yq0,yp1,yl1,yq1,yp2,yl2,yq2,y9,y10,yb,rfl⟩:=zbW O5.own;have z5:=C5.size
  have T5:=T3.chgK C5 (fun b hb=>by
   rcases List.mem_cons.1 hb with h | h
   ·omega
   ·have:=hin b h;omega)
  have OO:OwnT zad w5 w1.heap.size w5.heap.size (cutW d2) (rwV y0 y1 y2 y3 y4 y5 y6 y7 y8 yp0 yl0 yq0 yp1 yl1 yq1 yp2 yl2 yq2 y9 y10 yb):=⟨K5,O5.own,O5.nd,fun b hb=>⟨by
   rcases s5 b hb with h | h
   ·exact (hin b h).1
   ·omega,zad.own_lt O5.own b hb⟩⟩
  have CL:=ze0 y0 y1 y2 y3 y4 y5 y6 y7 y8 yp0 yl0 yq0 yp1 yl1 yq1 yp2 yl2 yq2 y9 y10 yb 9 (by decide) w5 OO.one;clear T3 C5 s5 O5
  go_wp2_with (first | (refine zai 38 (.tmp 8) rfl rfl (w2.heap.size) rfl (X5) Tryz.underlying38 zbq rfl ?_) | (go_at_call 49;refine CL.mono ?_;rintro e w6 ⟨rfl,b6⟩;have T6:=T5.call b6;have O6:=OO.below b6 (Nat.le_refl _)) | (refine zaR 46 _ _ rfl rfl (w.heap.size+1) rfl (cs:=(.int .i64 9::rwV y0 y1 y2 y3 y4 y5 y6 y7 y8 yp0 yl0 yq0 yp1 yl1 yq1 yp2 yl2 yq2 y9 y10 yb)) rfl T6.b2 zaS rfl rfl (zcV 9 (by decide) O6).one ?_;intro w9 X9 C9 z9))
  refine zbE Tryz.results20 rfl X9 Tryz.underlying46 zaS rfl rfl ?_;exact zgq (by decide) T6.bel C9 O6 (by omega) b6.size (HQ.out)
 | done c d2=>
  obtain ⟨rfl,K5,S5,s5,C5⟩:=h5
  by_cases hc0:c=0
  ·subst hc0
   have HQ:=hid HCO.out.1;clear HCO;obtain ⟨cs5,X5,O5⟩:=S5;obtain ⟨y0,y1,y2,y3,y4,y5,y6,y7,y8,yp0,yl0,yq0,yp1,yl1,yq1,yp2,yl2,yq2,y9,y10,yb,rfl⟩:=zbW O5.own;have z5:=C5.size
   have T5:=T3.chgK C5 (fun b hb=>by
    rcases List.mem_cons.1 hb with h | h
    ·omega
    ·have:=hin b h;omega)
   have OO:OwnT zad w5 w1.heap.size w5.heap.size d2 (rwV y0 y1 y2 y3 y4 y5 y6 y7 y8 yp0 yl0 yq0 yp1 yl1 yq1 yp2 yl2 yq2 y9 y10 yb):=⟨K5,O5.own,O5.nd,fun b hb=>⟨by
    rcases s5 b hb with h | h
    ·exact (hin b h).1
    ·omega,zad.own_lt O5.own b hb⟩⟩
   have CL:=ze0 y0 y1 y2 y3 y4 y5 y6 y7 y8 yp0 yl0 yq0 yp1 yl1 yq1 yp2 yl2 yq2 y9 y10 yb 0 (by decide) w5 OO.one;clear T3 C5 s5 O5
   go_wp2_with (first | (refine zai 38 (.tmp 8) rfl rfl (w2.heap.size) rfl (X5) Tryz.underlying38 zbq rfl ?_) | (go_at_call 49;refine CL.mono ?_;rintro e w6 ⟨rfl,b6⟩;have T6:=T5.call b6;have O6:=OO.below b6 (Nat.le_refl _)) | (refine zaR 46 _ _ rfl rfl (w.heap.size+1) rfl (cs:=(.int .i64 0::rwV y0 y1 y2 y3 y4 y5 y6 y7 y8 yp0 yl0 yq0 yp1 yl1 yq1 yp2 yl2 yq2 y9 y10 yb)) rfl T6.b2 zaS rfl rfl (zcV 0 (by decide) O6).one ?_;intro w9 X9 C9 z9))
   refine zbE Tryz.results20 rfl X9 Tryz.underlying46 zaS rfl rfl ?_;exact zgq (by decide) T6.bel C9 O6 (by omega) b6.size (HQ.out)
  ·have HC0:=hid hc0
   have HQ:Hid ((PutAns d nm n f) ⟨c,zeB⟩):=by
    have h:(PutAns d nm n f) (if c=0 then _ else _):=HCO.out.1;rw [if_neg hc0] at h;exact h
   have HC9:Hid (c≠9):=(HCO.out.2 c d2 rfl).1;have HCB:Hid (-9223372036854775808≤c∧c≤9223372036854775807):=(HCO.out.2 c d2 rfl).2;clear HCO hc0;obtain ⟨cs5,X5,O5⟩:=S5;obtain ⟨y0,y1,y2,y3,y4,y5,y6,y7,y8,yp0,yl0,yq0,yp1,yl1,yq1,yp2,yl2,yq2,y9,y10,yb,rfl⟩:=zbW O5.own;have z5:=C5.size
   have T5:=T3.chgK C5 (fun b hb=>by
    rcases List.mem_cons.1 hb with h | h
    ·omega
    ·have:=hin b h;omega)
   have CL:=zij y0 y1 y2 y3 y4 y5 y6 y7 y8 yp0 yl0 yq0 yp1 yl1 yq1 yp2 yl2 yq2 y9 y10 yb c HCB.out HC0.out HC9.out w5;clear T3 C5 s5 O5
   go_wp2_with (first | (refine zai 38 (.tmp 8) rfl rfl (w2.heap.size) rfl (X5) Tryz.underlying38 zbq rfl ?_) | (go_at_call 49;refine CL.mono ?_;rintro e w6 ⟨rfl,b6⟩;have T6:=T5.call b6) | (refine zaR 46 _ _ rfl rfl (w.heap.size+1) rfl (cs:=(.int .i64 c::rwY)) rfl (T6.b2) zaS rfl rfl (zcQ _ HCB.out w) ?_;intro w9 X9 C9 z9))
   refine zbE Tryz.results20 rfl X9 Tryz.underlying46 zaS rfl rfl ?_;exact zdD HCB.out T6.bel C9 (HQ.out)
def PowN (C:List Nat) (o:Outc) (cb:Nat) (w:World) (e:Ending) (w':World):Prop:=∃ cs,e=.returned (.agg cs.toArray)∧OwnT zas w' w.heap.size w'.heap.size o.told cs∧Box w' cb #[.int .i64 o.code] 2∧ChgL (cb::C) w w'
set_option maxRecDepth 100000 in
theorem zil (C:List Nat) (d:WorldD) (cs:List Value) (hi tb cb:Nat) (w:World) (h:zad.rd w hi d cs) (hhi:hi≤w.heap.size) (hsz:zaT d≤1048576) (o:Outc) (hcb:Box w cb #[.int .i64 0] 2) (hCC:∀ x,x∈C→x<w.heap.size∧x≠cb)
 (HW:∀ (W3:World) (E:Nat) (K:List Nat),Below w.heap.size w W3→w.heap.size≤E→(∀ b,b∈K→w.heap.size≤b)→EncB W3 E d K→Calls Tryz.prog 83 #[.pointer (some ⟨E,0,none⟩),.pointer (some ⟨tb,0,none⟩),.pointer (some ⟨cb,0,none⟩)] W3 (CarN C o E cb W3 K)) :
 Calls Tryz.prog 82 #[.agg cs.toArray,.func (.func 83) #[] #[.pointer (some ⟨tb,0,none⟩),.pointer (some ⟨cb,0,none⟩)]] w (PowN C o cb w):=by
 obtain ⟨v0,v1,v2,v3,v4,v5,v6,v7,v8,vp0,vl0,vq0,vp1,vl1,vq1,vp2,vl2,vq2,v9,v10,vb,rfl⟩:=zfI h;have hmf:∀ (fn:Fn) (first cap:Array Value) (w:World),(Instr.makeFunc fn first cap).run Tryz.prog w=.ok (.func fn first cap) w:=fun _ _ _ _=>rfl;have hcl:=hcb.lt;have T0:=zaE w #[.int .i64 v0,.int .i64 v1,.int .i64 v2,.int .i64 v3,.int .i64 v4,.int .i64 v5,.int .i64 v6,.int .i64 v7,.int .i64 v8,.slice vp0 vl0 vq0,.slice vp1 vl1 vq1,.slice vp2 vl2 vq2,.int .i64 v9,.int .i64 v10,.bool vb] #[.int .i64 0,.int .i64 0,.int .i64 0,.int .i64 0,.int .i64 0,.int .i64 0,.int .i64 0,.int .i64 0,.int .i64 0,.int .i64 0,.slice none 0 0,.slice none 0 0,.slice none 0 0,.int .i64 0,.int .i64 0,.bool false] 38 46;have CC:=fun w' (hb:Below w.heap.size w w')=>zh9 [.int .i64 v0,.int .i64 v1,.int .i64 v2,.int .i64 v3,.int .i64 v4,.int .i64 v5,.int .i64 v6,.int .i64 v7,.int .i64 v8,.slice vp0 vl0 vq0,.slice vp1 vl1 vq1,.slice vp2 vl2 vq2,.int .i64 v9,.int .i64 v10,.bool vb] d hi w' (zad.rd_below h hb hhi) (Nat.le_trans hhi hb.size) hsz;clear h
 go_enter_defers Tryz.func82,Tryz.ntmps82
 go_wp2_with (refine zai 38 (.tmp 2) rfl rfl (w.heap.size) rfl (T0.b1) Tryz.underlying38 zbq rfl ?_)
 refine (CC _ T0.bel).mono ?_;rintro e w2 ⟨c2,rfl,o2,b2⟩;obtain ⟨u0,u1,u2,u3,u4,u5,u6,u7,u8,up0,ul0,uq0,up1,ul1,uq1,up2,ul2,uq2,u9,u10,ub,rfl⟩:=zjU o2;have T2:=T0.call b2;have z2:w.heap.size+1<w2.heap.size:=T2.b2.lt;have TB:=zaE w2 #[.int .i32 0,.int .u32 0,.int .u32 0,.int .i32 0,.int .u32 0,.int .i64 u0,.int .i64 u1,.int .i64 u2,.int .i64 u3,.int .i64 u4,.int .i64 u5,.int .i64 u6,.int .i64 u7,.int .i64 u8,.slice up0 ul0 uq0,.slice up1 ul1 uq1,.slice up2 ul2 uq2,.int .i64 u9,.int .i64 u10,.bool ub] #[.pointer (some ⟨w2.heap.size,0,none⟩)] 149 132;obtain ⟨K,hk1,hk2,hk3⟩:=o2;have hkz:∀ b,b∈K→w.heap.size≤b∧b<w2.heap.size:=fun b hb=>⟨by have:=hk3 b hb;simp at this;omega,(hk3 b hb).2⟩
 go_upto_region 2 with fail
 obtain ⟨W3,hW3⟩:∃ x,x=(w2.alloc (.cells #[.int .i32 0,.int .u32 0,.int .u32 0,.int .i32 0,.int .u32 0,.int .i64 u0,.int .i64 u1,.int .i64 u2,.int .i64 u3,.int .i64 u4,.int .i64 u5,.int .i64 u6,.int .i64 u7,.int .i64 u8,.slice up0 ul0 uq0,.slice up1 ul1 uq1,.slice up2 ul2 uq2,.int .i64 u9,.int .i64 u10,.bool ub] 149)).alloc (.cells #[.pointer (some ⟨w2.heap.size,0,none⟩)] 132):=⟨_,rfl⟩;rw [← hW3] at TB ⊢;clear hW3;have T3:=T2.call TB.bel;have O3:EncB W3 w2.heap.size d K:=⟨[.int .i64 u0,.int .i64 u1,.int .i64 u2,.int .i64 u3,.int .i64 u4,.int .i64 u5,.int .i64 u6,.int .i64 u7,.int .i64 u8,.slice up0 ul0 uq0,.slice up1 ul1 uq1,.slice up2 ul2 uq2,.int .i64 u9,.int .i64 u10,.bool ub],TB.b1,Lay.own_kept _ hk1 (fun b hb=>TB.bel.block b (hkz b hb).2),hk2,fun hb=>by have:=hkz _ hb;omega⟩;have z3:w2.heap.size+1<W3.heap.size:=TB.b2.lt;have x5:W3.cell? ⟨w2.heap.size+1,0,none⟩=some (.pointer (some ⟨w2.heap.size,0,none⟩)):=TB.b2.cell 0;have CB3:=hcb.below T3.bel hcl;have CF0:=HW W3 w2.heap.size K T3.bel (by omega) (fun b hb=>(hkz b hb).1) O3
 have hRn:w.heap.size+1∉K:=fun hm=>by have:=hk3 _ hm;have:=T0.b2.lt;omega
 clear HW hcb CC
 cases o with
 | cut d2=>
  have CF:=CF0.mono (R':=fun e w'=>e=.panicked [{ v:=.iface 275 (.agg #[]),recovered:=false }]∧∃ y0 y1 y2 y3 y4 y5 y6 y7 y8 yp0 yl0 yq0 yp1 yl1 yq1 yp2 yl2 yq2 y9 y10 yb K',Box w' w2.heap.size #[.int .i32 0,.int .u32 0,.int .u32 1,.int .i32 0,.int .u32 0,.int .i64 y0,.int .i64 y1,.int .i64 y2,.int .i64 y3,.int .i64 y4,.int .i64 y5,.int .i64 y6,.int .i64 y7,.int .i64 y8,.slice yp0 yl0 yq0,.slice yp1 yl1 yq1,.slice yp2 yl2 yq2,.int .i64 y9,.int .i64 y10,.bool yb] 149∧EncO w' w2.heap.size (cutW d2) [.int .i64 y0,.int .i64 y1,.int .i64 y2,.int .i64 y3,.int .i64 y4,.int .i64 y5,.int .i64 y6,.int .i64 y7,.int .i64 y8,.slice yp0 yl0 yq0,.slice yp1 yl1 yq1,.slice yp2 yl2 yq2,.int .i64 y9,.int .i64 y10,.bool yb] K'∧(∀ b,b∈K'→b∈K∨W3.heap.size≤b)∧ChgL (w2.heap.size::(C++K)) W3 w') (fun e w' ⟨he,K',⟨cs',hX',hO'⟩,hs',hC'⟩=>by
   obtain ⟨y0,y1,y2,y3,y4,y5,y6,y7,y8,yp0,yl0,yq0,yp1,yl1,yq1,yp2,yl2,yq2,y9,y10,yb,rfl⟩:=zbW hO'.own
   exact ⟨he,y0,y1,y2,y3,y4,y5,y6,y7,y8,yp0,yl0,yq0,yp1,yl1,yq1,yp2,yl2,yq2,y9,y10,yb,K',hX',hO',hs',hC'⟩)
  clear CF0
  go_wp2_with (go_at_call 83;refine CF.mono ?_;rintro e w5 ⟨rfl,y0,y1,y2,y3,y4,y5,y6,y7,y8,yp0,yl0,yq0,yp1,yl1,yq1,yp2,yl2,yq2,y9,y10,yb,K5,X5,O5,s5,C5⟩)
  have nin:∀ x,x<w2.heap.size→x∉C→x∉K→x∉w2.heap.size::(C++K):=fun x h1 h0 h2 hm=>by
   rcases List.mem_cons.1 hm with h | h
   ·omega
   ·exact (List.mem_append.1 h).elim h0 h2
  have hR5:=T3.b2.chgl C5 (nin _ z2 (fun hm=>by have:=(hCC _ hm).1;omega) hRn)
  have P5:=TB.b2.chgl C5 (fun hm=>by
   rcases List.mem_cons.1 hm with h | h
   ·omega
   ·rcases List.mem_append.1 h with h | h
    ·have:=(hCC _ h).1;omega
    ·have:=hkz _ h;omega)
  have CB5:=CB3.chgl C5 (nin _ (by omega) (fun hm=>(hCC _ hm).2 rfl) (fun hm=>by have:=hkz _ hm;omega));refine leaves_cons (f:=130) (args:=#[.pointer (some ⟨w.heap.size+1,0,none⟩),.pointer (some ⟨w2.heap.size+1,0,none⟩)]) (by simp) (by simp [go_sem]) ?_;refine (zkX _ _ (w.heap.size+1) (w2.heap.size+1) w2.heap.size 0 1 0 _ _ _ _ _ _ _ _ _ _ _ _ _ _ _ _ _ _ _ _ _ _ hR5 (P5.cell 0) X5 (by omega) (by omega)).mono ?_;rintro e u' w7 ⟨rfl,rfl,R7,C7⟩
  simp only [settle,Leaves,List.dropWhile]
  have z5:=C5.size;have z7:=C7.size;have h5:=fun b hb=>zad.own_lt O5.own b hb
  have hK5:∀ b,b∈K5→w.heap.size≤b∧b≠w.heap.size+1:=fun b hb=>by
   rcases s5 b hb with h | h
   ·exact ⟨(hkz b h).1,fun e=>hRn (e ▸ h)⟩
   ·omega
  have C5w:ChgL (cb::C) w w5:=⟨C5.os.trans T3.bel.os,C5.tape.trans T3.bel.tape,C5.output.trans T3.bel.output,Nat.le_trans T3.bel.size z5,fun b hb hm=>by
   refine (C5.block b (Nat.lt_of_lt_of_le hb T3.bel.size) (nin b (by omega) (fun h=>hm (by simp [h])) (fun h=>by have:=hkz b h;omega))).trans (T3.bel.block b hb)⟩
  have CB7:=CB5.chgl C7 (by simp;omega);have C7w:ChgL (cb::C) w w7:=⟨C7.os.trans C5w.os,C7.tape.trans C5w.tape,C7.output.trans C5w.output,Nat.le_trans C5w.size C7.size,fun b hb hm=>(C7.block b (Nat.lt_of_lt_of_le hb C5w.size) (by simp;omega)).trans (C5w.block b hb hm)⟩;have O7:OwnT zad w7 w.heap.size w7.heap.size (cutW d2) [.int .i64 y0,.int .i64 y1,.int .i64 y2,.int .i64 y3,.int .i64 y4,.int .i64 y5,.int .i64 y6,.int .i64 y7,.int .i64 y8,.slice yp0 yl0 yq0,.slice yp1 yl1 yq1,.slice yp2 yl2 yq2,.int .i64 y9,.int .i64 y10,.bool yb]:=⟨K5,Lay.own_chgL _ O5.own C7 (fun b hb hm=>by simp at hm;exact (hK5 b hb).2 hm),O5.nd,fun b hb=>⟨(hK5 b hb).1,by have:=h5 b hb;omega⟩⟩;refine ⟨_,results_cell_row Tryz.results82 _ w7 (w.heap.size+1) 46 #[.int .i64 9,.int .i64 y0,.int .i64 y1,.int .i64 y2,.int .i64 y3,.int .i64 y4,.int .i64 y5,.int .i64 y6,.int .i64 y7,.int .i64 y8,.slice yp0 yl0 yq0,.slice yp1 yl1 yq1,.slice yp2 yl2 yq2,.int .i64 y9,.int .i64 y10,.bool yb] (0,0) (.struct _) rfl R7 Tryz.underlying46 rfl (by rw [zaS];rfl),?_⟩;exact ⟨[.int .i64 9,.int .i64 y0,.int .i64 y1,.int .i64 y2,.int .i64 y3,.int .i64 y4,.int .i64 y5,.int .i64 y6,.int .i64 y7,.int .i64 y8,.slice yp0 yl0 yq0,.slice yp1 yl1 yq1,.slice yp2 yl2 yq2,.int .i64 y9,.int .i64 y10,.bool yb],rfl,zcV 9 (by decide) O7,CB7,C7w⟩
 | done c d2=>
  have CF:=CF0.mono (R':=fun e w'=>e=.returned (.tuple #[])∧∃ y0 y1 y2 y3 y4 y5 y6 y7 y8 yp0 yl0 yq0 yp1 yl1 yq1 yp2 yl2 yq2 y9 y10 yb K',Box w' w2.heap.size #[.int .i32 0,.int .u32 0,.int .u32 0,.int .i32 0,.int .u32 0,.int .i64 y0,.int .i64 y1,.int .i64 y2,.int .i64 y3,.int .i64 y4,.int .i64 y5,.int .i64 y6,.int .i64 y7,.int .i64 y8,.slice yp0 yl0 yq0,.slice yp1 yl1 yq1,.slice yp2 yl2 yq2,.int .i64 y9,.int .i64 y10,.bool yb] 149∧EncO w' w2.heap.size d2 [.int .i64 y0,.int .i64 y1,.int .i64 y2,.int .i64 y3,.int .i64 y4,.int .i64 y5,.int .i64 y6,.int .i64 y7,.int .i64 y8,.slice yp0 yl0 yq0,.slice yp1 yl1 yq1,.slice yp2 yl2 yq2,.int .i64 y9,.int .i64 y10,.bool yb] K'∧(∀ b,b∈K'→b∈K∨W3.heap.size≤b)∧Box w' cb #[.int .i64 c] 2∧ChgL (w2.heap.size::cb::(C++K)) W3 w') (fun e w' ⟨he,K',⟨cs',hX',hO'⟩,hs',hb',hC'⟩=>by
   obtain ⟨y0,y1,y2,y3,y4,y5,y6,y7,y8,yp0,yl0,yq0,yp1,yl1,yq1,yp2,yl2,yq2,y9,y10,yb,rfl⟩:=zbW hO'.own
   exact ⟨he,y0,y1,y2,y3,y4,y5,y6,y7,y8,yp0,yl0,yq0,yp1,yl1,yq1,yp2,yl2,yq2,y9,y10,yb,K',hX',hO',hs',hb',hC'⟩)
  have nin:∀ x,x≠w2.heap.size→x≠cb→x∉C→x∉K→x∉w2.heap.size::cb::(C++K):=fun x h1 h2 h0 h3 hm=>by
   rcases List.mem_cons.1 hm with h | h
   ·exact h1 h
   ·rcases List.mem_cons.1 h with h | h
    ·exact h2 h
    ·exact (List.mem_append.1 h).elim h0 h3
  have hRK:=nin (w.heap.size+1) (by omega) (by omega) (fun hm=>by have:=(hCC _ hm).1;omega) hRn;clear CF0
  go_wp2_with (first | (go_at_call 83;refine CF.mono ?_;rintro e w5 ⟨rfl,y0,y1,y2,y3,y4,y5,y6,y7,y8,yp0,yl0,yq0,yp1,yl1,yq1,yp2,yl2,yq2,y9,y10,yb,K5,X5,O5,s5,CB5,C5⟩;have hR5:=T3.b2.chgl C5 hRK) | (refine zai 46 (.tmp 4) rfl rfl (w.heap.size+1) rfl (hR5) Tryz.underlying46 zaS rfl ?_) | (refine zaR 46 _ _ rfl rfl (w.heap.size+1) rfl (cs:=[.int .i64 0,.int .i64 0,.int .i64 0,.int .i64 0,.int .i64 0,.int .i64 0,.int .i64 0,.int .i64 0,.int .i64 0,.int .i64 0,.slice none 0 0,.slice none 0 0,.slice none 0 0,.int .i64 0,.int .i64 0,.bool false]) rfl hR5 zaS rfl rfl (zcQ 0 (by decide) w) ?_;intro w6 R6 C6 z6))
  have z5:=C5.size;have P5:=TB.b2.chgl C5 (nin _ (by omega) (by omega) (fun hm=>by have:=(hCC _ hm).1;omega) (fun hm=>by have:=hkz _ hm;omega));have P6:=P5.chgl C6 (by simp;omega);have X6:=X5.chgl C6 (by simp;omega);refine leaves_cons (f:=130) (args:=#[.pointer (some ⟨w.heap.size+1,0,none⟩),.pointer (some ⟨w2.heap.size+1,0,none⟩)]) (by simp) (by simp [go_sem]) ?_;refine (zme (w.heap.size+1) (w2.heap.size+1) w2.heap.size 0 0 0 _ _ _ _ _ _ _ _ _ _ _ _ _ _ _ _ _ _ _ _ _ _ R6 (P6.cell 0) X6 (by omega) (by omega)).mono ?_;rintro e u' w7 ⟨rfl,rfl,R7,C7⟩
  simp only [settle,Leaves]
  have z7:=C7.size;have h5:=fun b hb=>zad.own_lt O5.own b hb
  have hK5:∀ b,b∈K5→w.heap.size≤b∧b≠w.heap.size+1:=fun b hb=>by
   rcases s5 b hb with h | h
   ·exact ⟨(hkz b h).1,fun e=>hRn (e ▸ h)⟩
   ·omega
  have C5w:ChgL (cb::C) w w5:=⟨C5.os.trans T3.bel.os,C5.tape.trans T3.bel.tape,C5.output.trans T3.bel.output,Nat.le_trans T3.bel.size z5,fun b hb hm=>by
   refine (C5.block b (Nat.lt_of_lt_of_le hb T3.bel.size) (nin b (by omega) (fun h=>hm (by simp [h])) (fun h=>hm (by simp [h])) (fun h=>by have:=hkz b h;omega))).trans (T3.bel.block b hb)⟩
  have C67:ChgL [w.heap.size+1] w5 w7:=C6.trans C7;have C7w:ChgL (cb::C) w w7:=⟨C67.os.trans C5w.os,C67.tape.trans C5w.tape,C67.output.trans C5w.output,Nat.le_trans C5w.size C67.size,fun b hb hm=>(C67.block b (Nat.lt_of_lt_of_le hb C5w.size) (by simp;omega)).trans (C5w.block b hb hm)⟩;have CB7:=CB5.chgl C67 (by simp;omega);have O7:OwnT zad w7 w.heap.size w7.heap.size d2 [.int .i64 y0,.int .i64 y1,.int .i64 y2,.int .i64 y3,.int .i64 y4,.int .i64 y5,.int .i64 y6,.int .i64 y7,.int .i64 y8,.slice yp0 yl0 yq0,.slice yp1 yl1 yq1,.slice yp2 yl2 yq2,.int .i64 y9,.int .i64 y10,.bool yb]:=⟨K5,Lay.own_chgL _ O5.own C67 (fun b hb hm=>by simp at hm;exact (hK5 b hb).2 hm),O5.nd,fun b hb=>⟨(hK5 b hb).1,by have:=h5 b hb;have:=C67.size;omega⟩⟩;refine ⟨_,results_cell_row Tryz.results82 _ w7 (w.heap.size+1) 46 #[.int .i64 0,.int .i64 y0,.int .i64 y1,.int .i64 y2,.int .i64 y3,.int .i64 y4,.int .i64 y5,.int .i64 y6,.int .i64 y7,.int .i64 y8,.slice yp0 yl0 yq0,.slice yp1 yl1 yq1,.slice yp2 yl2 yq2,.int .i64 y9,.int .i64 y10,.bool yb] (0,0) (.struct _) rfl R7 Tryz.underlying46 rfl (by rw [zaS];rfl),?_⟩;exact ⟨[.int .i64 0,.int .i64 y0,.int .i64 y1,.int .i64 y2,.int .i64 y3,.int .i64 y4,.int .i64 y5,.int .i64 y6,.int .i64 y7,.int .i64 y8,.slice yp0 yl0 yq0,.slice yp1 yl1 yq1,.slice yp2 yl2 yq2,.int .i64 y9,.int .i64 y10,.bool yb],rfl,zcV 0 (by decide) O7,CB7,C7w⟩
set_option maxRecDepth 100000 in
theorem zhe (C:List Nat) (d:WorldD) (cs:List Value) (hi:Nat) (F:Nat) (caps:Array Value) (f:WorldD→Outc) (fit:WorldD→Prop) (b off cap:Nat) (w:World) (h:zad.rd w hi d cs) (hhi:hi≤w.heap.size) (hsz:zaT d≤1048576)
 (hT:TaskX F caps f fit w.heap.size C w) (hCC:∀ x,x∈C→x<w.heap.size) (hc:w.cell? ⟨b,off,none⟩=some (.func (.func F) #[] caps)) (hb:b<w.heap.size) (hf:fit d) (hco:-9223372036854775808≤(f d).code∧(f d).code≤9223372036854775807) :
 Calls Tryz.prog 50 #[.agg cs.toArray,.slice (some ⟨b,off,none⟩) 1 cap] w fun e w'=>∃ cs',e=.returned (.agg cs'.toArray)∧OwnT zas w' w.heap.size w'.heap.size (f d).final cs'∧ChgL C w w':=by
 obtain ⟨v0,v1,v2,v3,v4,v5,v6,v7,v8,vp0,vl0,vq0,vp1,vl1,vq1,vp2,vl2,vq2,v9,v10,vb,rfl⟩:=zfI h;have hmf:∀ (fn:Fn) (first cap:Array Value) (w:World),(Instr.makeFunc fn first cap).run Tryz.prog w=.ok (.func fn first cap) w:=fun _ _ _ _=>rfl;have T0:=zci w (rwV v0 v1 v2 v3 v4 v5 v6 v7 v8 vp0 vl0 vq0 vp1 vl1 vq1 vp2 vl2 vq2 v9 v10 vb).toArray #[.slice (some ⟨b,off,none⟩) 1 cap] rwZ.toArray 38 130 46;have HRD:=hid h;clear h;obtain ⟨oc,hoc⟩:∃ x,x=f d:=⟨_,rfl⟩;rw [← hoc] at hco ⊢
 go_enter Tryz.func50,Tryz.ntmps50
 go_upto_region 1 with fail
 obtain ⟨W1,hW1⟩:∃ x,x=(((w.alloc (.cells (rwV v0 v1 v2 v3 v4 v5 v6 v7 v8 vp0 vl0 vq0 vp1 vl1 vq1 vp2 vl2 vq2 v9 v10 vb).toArray 38)).alloc (.cells #[.slice (some ⟨b,off,none⟩) 1 cap] 130)).alloc (.cells rwZ.toArray 46)):=⟨_,rfl⟩;rw [← hW1] at T0 ⊢
 have z1:W1.heap.size=w.heap.size+1+1+1:=by rw [hW1];simp
 clear hW1;have XC:=zap W1 #[.int .i64 0] 2;have bC:=bAl W1 (.cells #[.int .i64 0] 2);have T1:=T0.call bC
 go_upto_region 2 with fail
 obtain ⟨W2,hW2⟩:∃ x,x=W1.alloc (.cells #[.int .i64 0] 2):=⟨_,rfl⟩;rw [← hW2] at XC bC T1 ⊢
 have z2:W2.heap.size=w.heap.size+1+1+1+1:=by rw [hW2];simp [z1]
 clear hW2 T0 bC;rw [z1] at XC;have bW:Below w.heap.size w W2:=T1.bel
 have CP:=zil C d (rwV v0 v1 v2 v3 v4 v5 v6 v7 v8 vp0 vl0 vq0 vp1 vl1 vq1 vp2 vl2 vq2 v9 v10 vb) hi (w.heap.size+1) (w.heap.size+1+1+1) W2 (zad.rd_below HRD.out bW hhi) (by omega) hsz (f d) XC (fun x hx=>by have:=hCC x hx;omega) (fun W3 E K hB hE hK hX=>by
  have b3:Below w.heap.size w W3:=bW.trans (hB.mono (by omega))
  exact zf7 F caps f fit w.heap.size b off cap (w.heap.size+1) (w.heap.size+1+1+1) C W3 E d K (hT.later b3 (Nat.le_refl _)) ((b3.cell (p:=⟨b,off,none⟩) hb).trans hc) (by have:=b3.size;omega) (by omega) (fun x hx=>by have:=hK x hx;omega) hX hf
   ((hB.cell (p:=⟨w.heap.size+1,0,none⟩) (by show w.heap.size+1<_;omega)).trans (T1.b2.cell 0)) (XC.below hB (by omega)) ⟨by omega,fun hm=>by rcases List.mem_append.1 hm with h | h;(have:=hCC _ h;omega);(have:=hK _ h;omega)⟩)
 rw [← hoc] at CP;have HCO:=hid hco;clear hT hc hf hoc hco
 have CQ:=CP.mono (R':=fun e w'=>∃ r0 y0 y1 y2 y3 y4 y5 y6 y7 y8 yp0 yl0 yq0 yp1 yl1 yq1 yp2 yl2 yq2 y9 y10 yb,e=.returned (.agg (.int .i64 r0::rwV y0 y1 y2 y3 y4 y5 y6 y7 y8 yp0 yl0 yq0 yp1 yl1 yq1 yp2 yl2 yq2 y9 y10 yb).toArray)∧OwnT zas w' W2.heap.size w'.heap.size oc.told (.int .i64 r0::rwV y0 y1 y2 y3 y4 y5 y6 y7 y8 yp0 yl0 yq0 yp1 yl1 yq1 yp2 yl2 yq2 y9 y10 yb)∧Box w' (w.heap.size+1+1+1) #[.int .i64 oc.code] 2∧ChgL ((w.heap.size+1+1+1)::C) W2 w') (fun e w' ⟨cs',he,ho,hb',hc'⟩=>by
  obtain ⟨r0,y0,y1,y2,y3,y4,y5,y6,y7,y8,yp0,yl0,yq0,yp1,yl1,yq1,yp2,yl2,yq2,y9,y10,yb,rfl⟩:=znS ho
  exact ⟨r0,y0,y1,y2,y3,y4,y5,y6,y7,y8,yp0,yl0,yq0,yp1,yl1,yq1,yp2,yl2,yq2,y9,y10,yb,he,ho,hb',hc'⟩)
 clear CP;obtain ⟨c,hcc⟩:∃ x,x=oc.code:=⟨_,rfl⟩;have HCC:=hid hcc;rw [← hcc] at CQ;clear hcc
 by_cases hc0:c=0
 ·subst hc0
  have HT1:=hid T1
  go_wp2_with (first | (refine zai 38 (.tmp 2) rfl rfl (w.heap.size) rfl (T1.b1) Tryz.underlying38 zbq rfl ?_) | (go_at_call 82;refine CQ.mono ?_;rintro e w5 ⟨r0,y0,y1,y2,y3,y4,y5,y6,y7,y8,yp0,yl0,yq0,yp1,yl1,yq1,yp2,yl2,yq2,y9,y10,yb,rfl,O5,CB5,C5⟩;have R5:=HT1.out.b3.chgl C5 (by simp;exact fun hm=>by have:=hCC _ hm;omega)) | (refine zaQ 46 6 (.tmp 9) _ _ 16 rfl rfl rfl rfl rfl rfl rfl rfl zjY rfl rfl O5.one ?_;have bN:=bAl w5 (.cells (.int .i64 r0::rwV y0 y1 y2 y3 y4 y5 y6 y7 y8 yp0 yl0 yq0 yp1 yl1 yq1 yp2 yl2 yq2 y9 y10 yb).toArray 46);have XN:=zap w5 (.int .i64 r0::rwV y0 y1 y2 y3 y4 y5 y6 y7 y8 yp0 yl0 yq0 yp1 yl1 yq1 yp2 yl2 yq2 y9 y10 yb).toArray 46;have cx:=(CB5.below bN CB5.lt).cell 0;have R6:=R5.below bN R5.lt) | (refine zai 46 (.tmp 6) rfl rfl (w5.heap.size) rfl (XN) Tryz.underlying46 zaS rfl ?_) | (refine zaR 46 _ _ rfl rfl (w.heap.size+1+1) rfl (cs:=(.int .i64 r0::rwV y0 y1 y2 y3 y4 y5 y6 y7 y8 yp0 yl0 yq0 yp1 yl1 yq1 yp2 yl2 yq2 y9 y10 yb)) rfl R6 zaS rfl rfl O5.one ?_;intro w9 X9 C9 z9))
  refine zbE Tryz.results50 rfl X9 Tryz.underlying46 zaS rfl rfl ?_;have z5:=C5.size;have zz:=C9.size
  have e:oc.final=oc.told:=by
   cases oc with
   | cut d2=>rfl
   | done c2 d2=>show (if c2=0 then _ else _)=_;rw [if_pos (show c2=0 from HCC.out.symm)];rfl
  rw [e];have B5:ChgL C w w5:=⟨C5.os.trans bW.os,C5.tape.trans bW.tape,C5.output.trans bW.output,Nat.le_trans bW.size C5.size,fun b hb hm=>(C5.block b (Nat.lt_of_lt_of_le hb bW.size) (by simp;exact ⟨by omega,hm⟩)).trans (bW.block b hb)⟩;have BN:ChgL C w (w5.alloc (.cells (.int .i64 r0::rwV y0 y1 y2 y3 y4 y5 y6 y7 y8 yp0 yl0 yq0 yp1 yl1 yq1 yp2 yl2 yq2 y9 y10 yb).toArray 46)):=⟨bN.os.trans B5.os,bN.tape.trans B5.tape,bN.output.trans B5.output,Nat.le_trans B5.size bN.size,fun b hb hm=>(bN.block b (Nat.lt_of_lt_of_le hb B5.size)).trans (B5.block b hb hm)⟩
  have sN:(w5.alloc (.cells (.int .i64 r0::rwV y0 y1 y2 y3 y4 y5 y6 y7 y8 yp0 yl0 yq0 yp1 yl1 yq1 yp2 yl2 yq2 y9 y10 yb).toArray 46)).heap.size=w5.heap.size+1:=by simp
  refine ⟨_,rfl,?_,⟨C9.os.trans BN.os,C9.tape.trans BN.tape,C9.output.trans BN.output,Nat.le_trans BN.size C9.size,fun b hb hm=>(C9.block b (Nat.lt_of_lt_of_le hb BN.size) (by simp;omega)).trans (BN.block b hb hm)⟩⟩;exact (((O5.below bN (Nat.le_refl _)).chgk C9 (fun x hx=>by simp at hx;omega)).weaken (by omega) (by omega))
 ·have hne:(c != 0)=true:=by simpa using hc0
  have HNE:=hid hc0;clear hc0;have HT1:=hid T1
  go_wp2_with (first | (refine zai 38 (.tmp 2) rfl rfl (w.heap.size) rfl (T1.b1) Tryz.underlying38 zbq rfl ?_) | (go_at_call 82;refine CQ.mono ?_;rintro e w5 ⟨r0,y0,y1,y2,y3,y4,y5,y6,y7,y8,yp0,yl0,yq0,yp1,yl1,yq1,yp2,yl2,yq2,y9,y10,yb,rfl,O5,CB5,C5⟩;have R5:=HT1.out.b3.chgl C5 (by simp;exact fun hm=>by have:=hCC _ hm;omega)) | (refine zaQ 46 6 (.tmp 9) _ _ 16 rfl rfl rfl rfl rfl rfl rfl rfl zjY rfl rfl O5.one ?_;have bN:=bAl w5 (.cells (.int .i64 r0::rwV y0 y1 y2 y3 y4 y5 y6 y7 y8 yp0 yl0 yq0 yp1 yl1 yq1 yp2 yl2 yq2 y9 y10 yb).toArray 46);have cx:=(CB5.below bN CB5.lt).cell 0;have R6:=R5.below bN R5.lt) | (refine zaR 46 _ _ rfl rfl (w.heap.size+1+1) rfl (cs:=(.int .i64 c::rwY)) rfl R6 zaS rfl rfl (zcQ c (by rw [HCC.out];exact HCO.out) w) ?_;intro w9 X9 C9 z9))
  refine zbE Tryz.results50 rfl X9 Tryz.underlying46 zaS rfl rfl ?_;have z5:=C5.size;have zz:=C9.size
  have e:oc.final=⟨c,zeB⟩:=by
   cases oc with
   | cut d2=>exact absurd HCC.out HNE.out
   | done c2 d2=>
    have e2:c=c2:=HCC.out
    show (if c2=0 then _ else _)=_
    rw [← e2,if_neg HNE.out]
  rw [e];have B5:ChgL C w w5:=⟨C5.os.trans bW.os,C5.tape.trans bW.tape,C5.output.trans bW.output,Nat.le_trans bW.size C5.size,fun b hb hm=>(C5.block b (Nat.lt_of_lt_of_le hb bW.size) (by simp;exact ⟨by omega,hm⟩)).trans (bW.block b hb)⟩;have BN:ChgL C w (w5.alloc (.cells (.int .i64 r0::rwV y0 y1 y2 y3 y4 y5 y6 y7 y8 yp0 yl0 yq0 yp1 yl1 yq1 yp2 yl2 yq2 y9 y10 yb).toArray 46)):=⟨bN.os.trans B5.os,bN.tape.trans B5.tape,bN.output.trans B5.output,Nat.le_trans B5.size bN.size,fun b hb hm=>(bN.block b (Nat.lt_of_lt_of_le hb B5.size)).trans (B5.block b hb hm)⟩
  have sN:(w5.alloc (.cells (.int .i64 r0::rwV y0 y1 y2 y3 y4 y5 y6 y7 y8 yp0 yl0 yq0 yp1 yl1 yq1 yp2 yl2 yq2 y9 y10 yb).toArray 46)).heap.size=w5.heap.size+1:=by simp
  refine ⟨_,rfl,?_,⟨C9.os.trans BN.os,C9.tape.trans BN.tape,C9.output.trans BN.output,Nat.le_trans BN.size C9.size,fun b hb hm=>(C9.block b (Nat.lt_of_lt_of_le hb BN.size) (by simp;omega)).trans (BN.block b hb hm)⟩⟩;exact zdV w9 c (by rw [HCC.out];exact HCO.out) _ _
theorem zhf (c0 c1 c2 c3 c4 c5 c6 c7 c8:Value) (w:World):Calls Tryz.prog 51 #[.agg #[c0,c1,c2,c3,c4,c5,c6,c7,c8]] w fun e w'=>e=.returned (.func (.func 85) #[] #[.pointer (some ⟨w.heap.size,0,none⟩)])∧Box w' w.heap.size #[c0,c1,c2,c3,c4,c5,c6,c7,c8] 72∧Below w.heap.size w w':=by
 have hmf:∀ (fn:Fn) (first cap:Array Value) (w:World),(Instr.makeFunc fn first cap).run Tryz.prog w=.ok (.func fn first cap) w:=fun _ _ _ _=>rfl;have T0:=zaL w #[c0,c1,c2,c3,c4,c5,c6,c7,c8] 72
 go_enter Tryz.func51,Tryz.ntmps51
 go_wp2;go_ret;exact ⟨rfl,T0.b1,T0.bel⟩
theorem znf:(Tryz.prog.info? 74).map (fun i=>(i.zero.map (·.cells),i.size))=some (some #[.int .i64 0,.int .i64 0],2):=by kernel_rfl
set_option maxRecDepth 20000 in
theorem zjs (d:WorldD) (nm:ByteArray) (n cap:Nat) (ao:Option Addr) (f:Nat→Nat) (cs:List Value) (hi h2:Nat) (w:World) (h:zad.rd w hi d cs) (hhi:hi≤w.heap.size) (hb:zaf.rd w h2 (n,f) [.slice ao n cap]) (hh2:h2≤w.heap.size) (hsz:zaT d≤1048576) (hnm:nm.size≤1048576) (hn:n≤1048576) :
 Calls Tryz.prog 22 #[.agg cs.toArray,.string nm,.slice ao n cap] w (zft (PutAns d nm n f) w):=by
 have h':=h;obtain ⟨ao1,cap1,ao2,cap2,ao3,cap3,rfl,g1,g2,g3,k0,k4,k5⟩:=zaP h';have HRD:=hid h;have HSZ:=hid hsz;have HNM:=hid hnm;have HRB:=hid hb;clear h h' hsz hnm hb g1 g2 g3 k0 k4 k5;have T0:=zaE w (rwW d ao1 cap1 ao2 cap2 ao3 cap3).toArray rwZ.toArray 38 46
 go_enter Tryz.func22,Tryz.ntmps22
 go_wp2_with (refine zai 38 (.tmp 3) rfl rfl (w.heap.size) rfl (T0.b1) Tryz.underlying38 zbq rfl ?_)
 refine (zfL d nm _ hi _ (zad.rd_below HRD.out T0.bel hhi) (Nat.le_trans hhi T0.bel.size) HSZ.out HNM.out).mono ?_;rintro e w1 ⟨x,rfl,hx,b1⟩;have HT1:=hid (T0.call b1);have HX:=hid hx;have z1:w.heap.size+1<w1.heap.size:=HT1.out.b2.lt;clear b1 T0 hx
 by_cases hx0:x=0
 case neg=>
  have hne:(x != 0)=true:=by simp [hx0]
  go_wp2_with (refine zaR 46 _ _ rfl rfl (w.heap.size+1) rfl (cs:=(.int .i64 x::rwY)) rfl (HT1.out.b2) zaS rfl rfl (zcQ _ (zjV HX.out) w) ?_;intro w9 X9 C9 z9)
  refine zbE Tryz.results22 rfl X9 Tryz.underlying46 zaS rfl rfl ?_;exact zdD (zjV HX.out) HT1.out.bel C9 (.inl ⟨x,hx0,HX.out,rfl⟩)
 subst hx0;have HASK:=zg3 HX.out;have HOK:Hid (OkWorld d):=(zd0 HASK.1).ok;have HUP:=hid (znr HASK.1);have HWL:=hid (zd0 HASK.1);have HON:=hid HASK.2;clear HASK;have CP:=zep d.shape (n:Int) w1;unfold zaq intR at CP;have x_0:w1.cell? ⟨w.heap.size,0,none⟩=some (.int .i64 (d.shape 0)):=HT1.out.b1.cell 0;have x_1:w1.cell? ⟨w.heap.size,1,none⟩=some (.int .i64 (d.shape 1)):=HT1.out.b1.cell 1;have x_2:w1.cell? ⟨w.heap.size,2,none⟩=some (.int .i64 (d.shape 2)):=HT1.out.b1.cell 2;have x_3:w1.cell? ⟨w.heap.size,3,none⟩=some (.int .i64 (d.shape 3)):=HT1.out.b1.cell 3;have x_4:w1.cell? ⟨w.heap.size,4,none⟩=some (.int .i64 (d.shape 4)):=HT1.out.b1.cell 4;have x_5:w1.cell? ⟨w.heap.size,5,none⟩=some (.int .i64 (d.shape 5)):=HT1.out.b1.cell 5;have x_6:w1.cell? ⟨w.heap.size,6,none⟩=some (.int .i64 (d.shape 6)):=HT1.out.b1.cell 6;have x_7:w1.cell? ⟨w.heap.size,7,none⟩=some (.int .i64 (d.shape 7)):=HT1.out.b1.cell 7;have x_8:w1.cell? ⟨w.heap.size,8,none⟩=some (.int .i64 (d.shape 8)):=HT1.out.b1.cell 8
 go_wp2_with fail
 refine CP.mono ?_;rintro e w2 ⟨pv,c,rfl,hp,b2⟩
 have HLC:Hid (LgC d n c):=by
  rcases hp with ⟨h,_⟩ | ⟨_,h1,h2,_⟩ | ⟨_,h1,h2,h3,_⟩ | ⟨_,h1,h2,h3,_⟩
  ·exact absurd HOK.out.shape h
  ·exact .inl ⟨h1,h2⟩
  ·exact .inr (.inl ⟨h1,h2,h3⟩)
  ·exact .inr (.inr ⟨h1,h2,h3⟩)
 have HT2:=hid (HT1.out.call b2);have z2:w1.heap.size≤w2.heap.size:=b2.size;clear CP hp b2 HT1 x_0 x_1 x_2 x_3 x_4 x_5 x_6 x_7 x_8
 go_upto_region 6 with (refine zaQ 74 9 (.tmp 22) _ _ 2 rfl rfl rfl rfl rfl rfl rfl rfl znf rfl rfl (zji _ _) ?_)
 have bA:=bAl w2 (.cells #[.int .i64 c,.int .i64 pv] 74);have bx:=zap w2 #[.int .i64 c,.int .i64 pv] 74;obtain ⟨w3,hw3⟩:∃ y,y=w2.alloc (.cells #[.int .i64 c,.int .i64 pv] 74):=⟨_,rfl⟩;rw [← hw3] at bA bx ⊢;have HT3:=hid (HT2.out.call bA);have n_0:w3.cell? ⟨w2.heap.size,0,none⟩=some (.int .i64 c):=bx.cell 0;have z3:w2.heap.size<w3.heap.size:=bx.lt;clear bA bx hw3 HT2
 by_cases hc0:c=0
 case neg=>
  have hne:(c != 0)=true:=by simp [hc0]
  go_wp2_with (refine zaR 46 _ _ rfl rfl (w.heap.size+1) rfl (cs:=(.int .i64 c::rwY)) rfl (HT3.out.b2) zaS rfl rfl (zcQ _ ((zhd HLC.out).1) w) ?_;intro w9 X9 C9 z9)
  refine zbE Tryz.results22 rfl X9 Tryz.underlying46 zaS rfl rfl ?_;exact zdD ((zhd HLC.out).1) HT3.out.bel C9 (.inr ⟨HX.out,.inl ⟨c,hc0,HLC.out,rfl⟩⟩)
 subst hc0;have hn36:=zjp HOK.out.shape HLC.out;have hnm8:=zjq HON.out
 have fV:∀ (x y:Value) (w':World),(Instr.field 74 (.agg #[x,y]) 1).run Tryz.prog w'=.ok y w':=fun x y w'=>by kernel_rfl
 obtain ⟨D,hD⟩:∃ D,D=w3.drew:=⟨_,rfl⟩;have HD:=hid hD
 have HTD:Hid (Two w D (rwW d ao1 cap1 ao2 cap2 ao3 cap3).toArray rwZ.toArray 38 46):=by rw [hD];exact HT3.out.call ⟨rfl,rfl,rfl,Nat.le_refl _,fun _ _=>rfl⟩
 have HKS:Hid (∀ w',Below D.heap.size D w'→(Box w' w.heap.size (rwW d ao1 cap1 ao2 cap2 ao3 cap3).toArray 38∧w'.cell? ⟨w.heap.size,8,none⟩=some (.int .i64 (d.shape 8)))):=fun w' hb=>⟨HTD.out.b1.call hb,(HTD.out.b1.call hb).cell 8⟩;have CW:=zld d (rwW d ao1 cap1 ao2 cap2 ao3 cap3) hi D (zad.rd_below HRD.out HTD.out.bel hhi) (Nat.le_trans hhi HTD.out.bel.size) HSZ.out
 have zD:D.heap.size=w3.heap.size:=by rw [hD];rfl
 clear hD
 go_upto_region 8 with fail
 clear n_0;refine zaC 8 (fun w'=>Box w' w.heap.size (rwW d ao1 cap1 ao2 cap2 ao3 cap3).toArray 38∧w'.cell? ⟨w.heap.size,8,none⟩=some (.int .i64 (d.shape 8))) zmA (by rw [← HD.out];exact HKS.out _ (Below.refl _ _)) (fun hHeld=>?_);rw [← HD.out] at hHeld ⊢;refine zaj (i:=0) (oi:=_) 16 rfl (by kernel_rfl) (fun _ _ _ h=>h) (zcE 38 (.tmp 3) rfl rfl (w.heap.size) rfl (cs:=(rwW d ao1 cap1 ao2 cap2 ao3 cap3)) (fun w' h=>h.1) Tryz.underlying38 zbq rfl) (by assumption) ?_
 try simp only [Act.put,SL]
 refine zok 3 rfl ?_
 try simp only [Act.put,SL]
 refine zok 5 rfl ?_
 try simp only [Act.put,SL]
 refine zok 6 rfl ?_
 try simp only [Act.put,SL]
 refine zol 7 rfl ?_
 try simp only [Act.put,SL]
 refine zaH (i:=1) (o:=_) rfl (by kernel_rfl) (fun KC hKC=>?_);refine zbb (by kernel_rfl) (.func 56) 56 #[] _ _ rfl (by simp [Act.eval,Act.put]) #[.agg (rwW d ao1 cap1 ao2 cap2 ao3 cap3).toArray] (by simp [Act.eval,Act.put]) Tryz.func56 (by kernel_rfl) (by kernel_rfl) (zcF (CW)) ?_;rintro e w4 ⟨cw,v,rfl,hw,b4⟩;refine ⟨_,rfl,?_⟩
 obtain rfl:cw=0:=by
  rcases hw with ⟨h1,h2,_⟩ | ⟨_,h,_⟩
  ·exact absurd (h2.one HWL.out) h1
  ·exact h
 have HWV:=hid hw;have hvs:=zfd HOK.out HSZ.out hw
 have wz:IntKind.i64.wrap (v+(n:Int))=v+(n:Int):=by rw [IntKind.wrap_i64];omega
 have HT4:=hid (HTD.out.call b4);have z4:D.heap.size≤w4.heap.size:=b4.size;have hH4:=HKS.out w4 b4;refine hKC _ _ hH4 ?_;clear hKC KC b4 hw CW
 try simp only [Act.put,SL]
 refine zok 2 rfl ?_
 try simp only [Act.put,SL]
 refine zok 4 rfl ?_
 try simp only [Act.put,SL]
 refine zam (i:=8) (o:=_) rfl (by kernel_rfl) (by kernel_rfl) (fun KC hKC=>?_);go_simp;refine hKC _ _ ?_;clear hKC KC
 try simp only [Act.put,SL]
 refine zan (by kernel_rfl) ?_ _;clear hHeld hH4 HKS HTD
 by_cases hbz:d.shape 8<v+(n:Int)
 ·have HQ:Hid ((PutAns d nm n f) ⟨11,zeB⟩):=.inr ⟨HX.out,.inr ⟨HLC.out,v,HWV.out,.inl ⟨hbz,rfl⟩⟩⟩
  go_wp2_with (refine zaR 46 _ _ rfl rfl (w.heap.size+1) rfl (cs:=(.int .i64 11::rwY)) rfl (HT4.out.b2) zaS rfl rfl (zcQ _ (by decide) w) ?_;intro w9 X9 C9 z9)
  refine zbE Tryz.results22 rfl X9 Tryz.underlying46 zaS rfl rfl ?_;exact zdD (by decide) HT4.out.bel C9 (HQ.out)
 have hdz:decide (d.shape 8<v+(n:Int))=false:=decide_eq_false hbz;have HQ:Hid ((PutAns d nm n f) (zbG (putR nm n f) d).final):=.inr ⟨HX.out,.inr ⟨HLC.out,v,HWV.out,.inr ⟨hbz,rfl⟩⟩⟩;have CK:=zhf (.int .i64 1) (.int .i64 0) (.string nm) (.int .i64 (n:Int)) (.int .i64 0) (.int .i64 0) (.slice none 0 0) (.slice ao n cap) (.slice none 0 0) w4.drew;have B0:Below w4.heap.size w4 w4.drew:=zeI _;have KS:∀ w',Below w4.heap.size w4 w'→(Box w' w.heap.size (rwW d ao1 cap1 ao2 cap2 ao3 cap3).toArray 38):=fun w' hb=>HT4.out.b1.call hb
 go_upto_region 10 with fail
 refine zbC 8 (fun w'=>Box w' w.heap.size (rwW d ao1 cap1 ao2 cap2 ao3 cap3).toArray 38) (by kernel_rfl) (KS _ B0) (fun hHeld=>?_);refine zac (i:=0) (oi:=_) 16 rfl (by kernel_rfl) (fun _ _ _ h=>h) (zcE 38 (.tmp 3) rfl rfl (w.heap.size) rfl (cs:=(rwW d ao1 cap1 ao2 cap2 ao3 cap3)) (fun w' h=>h) Tryz.underlying38 zbq rfl) (by assumption) ?_
 try simp only [Act.put,SL]
 refine zog 1 (v:=?_) rfl ?_ ?_
 rotate_left
 ·intro w' hSw;go_simp;try with_reducible rfl
 try simp only [Act.put,SL]
 refine zog 2 (v:=?_) rfl ?_ ?_
 rotate_left
 ·intro w' hSw;go_simp;try with_reducible rfl
 try simp only [Act.put,SL]
 refine zog 3 (v:=?_) rfl ?_ ?_
 rotate_left
 ·intro w' hSw;go_simp;try with_reducible rfl
 try simp only [Act.put,SL]
 refine zog 4 (v:=?_) rfl ?_ ?_
 rotate_left
 ·intro w' hSw;go_simp;try with_reducible rfl
 try simp only [Act.put,SL]
 refine zaA (i:=5) (o:=_) rfl (by kernel_rfl) (fun KC hKC=>?_);refine zbe rfl 51 _ _ rfl #[.agg #[.int .i64 1,.int .i64 0,.string nm,.int .i64 (n:Int),.int .i64 0,.int .i64 0,.slice none 0 0,.slice ao n cap,.slice none 0 0]] ?_ Tryz.func51 (by kernel_rfl) (by kernel_rfl) CK ?_
 ·simp [Act.eval,Act.put]
 rintro ee w5 ⟨rfl,q1,b5'⟩;have b5:Below w4.heap.size w4 w5:=B0.trans b5';have q1:Box w5 w4.heap.size #[.int .i64 1,.int .i64 0,.string nm,.int .i64 (n:Int),.int .i64 0,.int .i64 0,.slice none 0 0,.slice ao n cap,.slice none 0 0] 72:=q1;refine ⟨_,rfl,?_⟩;refine hKC.out _ _ (KS _ b5) (fun hHeld=>?_);clear hKC KC CK b5'
 try simp only [Act.put,SL]
 refine zaA (i:=6) (o:=_) rfl (by kernel_rfl) (fun KC hKC=>?_);have bN:Below w5.heap.size w5 (w5.alloc (.cells #[.func (.func 85) #[] #[.pointer (some ⟨w4.heap.size,0,none⟩)]] 89)):=(Below.refl _ _).alloc (Nat.le_refl _) _;have XN:Box (w5.alloc (.cells #[.func (.func 85) #[] #[.pointer (some ⟨w4.heap.size,0,none⟩)]] 89)) w5.heap.size #[.func (.func 85) #[] #[.pointer (some ⟨w4.heap.size,0,none⟩)]] 89:=zap _ _ _;go_simp;refine hKC.out _ _ (KS _ (b5.trans (bN.mono b5.size))) (fun hHeld=>?_);clear hKC KC
 try simp only [Act.put,SL]
 obtain ⟨w6,hw6⟩:∃ x,x=(w5.alloc (.cells #[.func (.func 85) #[] #[.pointer (some ⟨w4.heap.size,0,none⟩)]] 89)):=⟨_,rfl⟩
 have b6:Below w4.heap.size w4 w6:=by rw [hw6];exact b5.trans (bN.mono b5.size)
 have z56:w5.heap.size<w6.heap.size:=by rw [hw6];exact XN.lt
 have T6:=HT4.out.call b6
 have b56:Below w5.heap.size w5 w6:=by rw [hw6];exact bN
 have xN:w6.cell? ⟨w5.heap.size,0,none⟩=some (.func (.func 85) #[] #[.pointer (some ⟨w4.heap.size,0,none⟩)]):=by rw [hw6];exact XN.cell 0
 have q1':=q1.below b56 q1.lt;have hza:w.heap.size+1<w4.heap.size:=HT4.out.b2.lt
 have CV:=zhe [w4.heap.size] d (rwW d ao1 cap1 ao2 cap2 ao3 cap3) hi 85 #[.pointer (some ⟨w4.heap.size,0,none⟩)] (zbG (putR nm n f)) FitX w5.heap.size 0 1 w6 (zad.rd_below HRD.out T6.bel hhi) (Nat.le_trans hhi T6.bel.size) HSZ.out
  (zie (putR nm n f) none ao none 0 cap 0 h2 (zik hnm8 hn36) w4.heap.size w6.heap.size w6 q1' (zj5 nm HNM.out hn (zaf.rd_below HRB.out T6.bel hh2) 0 (by decide)) q1'.lt (by omega)) (fun x hx=>by
   simp at hx
   subst hx
   exact q1'.lt) xN z56 (zmq HOK.out HUP.out) zk4
 have CW:=CV.mono (R':=fun e w'=>∃ sc s0 s1 s2 s3 s4 s5 s6 s7 s8 sp0 sl0 sq0 sp1 sl1 sq1 sp2 sl2 sq2 s9 s10 sb,e=.returned (.agg (.int .i64 sc::rwV s0 s1 s2 s3 s4 s5 s6 s7 s8 sp0 sl0 sq0 sp1 sl1 sq1 sp2 sl2 sq2 s9 s10 sb).toArray)∧OwnT zas w' w6.heap.size w'.heap.size (zbG (putR nm n f) d).final (.int .i64 sc::rwV s0 s1 s2 s3 s4 s5 s6 s7 s8 sp0 sl0 sq0 sp1 sl1 sq1 sp2 sl2 sq2 s9 s10 sb)∧ChgL [w4.heap.size] w6 w') (fun e w' ⟨cs',he,ho,hb⟩=>by
  obtain ⟨sc,s0,s1,s2,s3,s4,s5,s6,s7,s8,sp0,sl0,sq0,sp1,sl1,sq1,sp2,sl2,sq2,s9,s10,sb,rfl⟩:=zjT ho.rd
  exact ⟨sc,s0,s1,s2,s3,s4,s5,s6,s7,s8,sp0,sl0,sq0,sp1,sl1,sq1,sp2,sl2,sq2,s9,s10,sb,he,ho,hb⟩)
 clear CV;rw [← hw6];refine zaA (i:=7) (o:=_) rfl (by kernel_rfl) (fun KC hKC=>?_);refine zbe rfl 50 _ _ rfl #[.agg (rwW d ao1 cap1 ao2 cap2 ao3 cap3).toArray,.slice (some ⟨w5.heap.size,0,none⟩) 1 1] ?_ Tryz.func50 (by kernel_rfl) (by kernel_rfl) CW ?_
 ·simp [Act.eval,Act.put]
 rintro ee w7 ⟨sc,s0,s1,s2,s3,s4,s5,s6,s7,s8,sp0,sl0,sq0,sp1,sl1,sq1,sp2,sl2,sq2,s9,s10,sb,rfl,o7,c7⟩;have T7:=T6.chgK c7 (fun b hb=>by simp at hb;omega);have z7:w6.heap.size≤w7.heap.size:=c7.size;refine ⟨_,rfl,?_⟩;refine hKC.out _ _ T7.b1 (fun hHeld=>?_);clear hKC KC
 try simp only [Act.put,SL]
 refine zid rfl (by kernel_rfl) (by kernel_rfl) rfl rfl 46 (.tmp 6) (.tmp 46) rfl (w.heap.size+1) rfl (cs:=(.int .i64 sc::rwV s0 s1 s2 s3 s4 s5 s6 s7 s8 sp0 sl0 sq0 sp1 sl1 sq1 sp2 sl2 sq2 s9 s10 sb)) (old:=rwZ) rfl T7.b2 zaS rfl rfl o7.one (fun w9 X9 C9 z9=>?_);have z6:=b6.size;go_wp2;refine zbE Tryz.results22 rfl X9 Tryz.underlying46 zaS rfl rfl ?_;exact ⟨_,(.int .i64 sc::rwV s0 s1 s2 s3 s4 s5 s6 s7 s8 sp0 sl0 sq0 sp1 sl1 sq1 sp2 sl2 sq2 s9 s10 sb),rfl,HQ.out,(o7.chgk C9 (fun b hb=>by simp at hb;omega)).weaken (by omega) C9.size,T7.bel.trans (C9.bel (fun b hb=>by simp at hb;omega) T7.bel.size)⟩
theorem zoy (d:WorldD):∃ x,AskAns d x:=by
 obtain ⟨x,hx⟩:=zmK d
 by_cases h:x=0
 ·subst h
  cases hd:d.down with
  | true=>exact ⟨9,.inr ⟨hx,.inl ⟨hd,rfl⟩⟩⟩
  | false=>exact ⟨0,.inr ⟨hx,.inr ⟨hd,rfl⟩⟩⟩
 ·exact ⟨x,.inl ⟨h,hx⟩⟩
end Go.Proofs.YtclclojenogpbaaGreat
