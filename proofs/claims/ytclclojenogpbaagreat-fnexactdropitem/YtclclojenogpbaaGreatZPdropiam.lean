/- NewestItem of both sides. -/
import Derived.BigRegion
import Derived.Test.YtclclojenogpbaaGreatZPdropial
set_option linter.unusedVariables false
set_option linter.unusedSimpArgs false
set_option maxHeartbeats 16000000
namespace Go.Proofs.YtclclojenogpbaaGreat
open Go.RowKit F256
def NwP (x:Nat→RecD) (n:Nat) (nm:ByteArray) (q:RecsResultD):Prop:=(zdG (itm x nm) n=-1∧q=⟨4,(0,fun _=>rec0)⟩)∨∃ i:Nat,i<n∧zdG (itm x nm) n=(i:Int)∧(((x i).length<0∧q=⟨4,(0,fun _=>rec0)⟩)∨(¬ (x i).length<0∧q=⟨0,(1,fun _=>x i)⟩))
theorem NwP.one {x:Nat→RecD} {n:Nat} {nm:ByteArray} {p q:RecsResultD} (h:NwP x n nm p) (k:NwP x n nm q):p=q:=by
 rcases h with ⟨h1,h2⟩ | ⟨i,hi,h1,h2⟩<;>rcases k with ⟨k1,k2⟩ | ⟨j,hj,k1,k2⟩
 ·rw [h2,k2]
 ·omega
 ·omega
 ·obtain rfl:i=j:=by omega
  rcases h2 with ⟨a,h2⟩ | ⟨a,h2⟩<;>rcases k2 with ⟨b,k2⟩ | ⟨b,k2⟩
  ·rw [h2,k2]
  ·exact absurd a b
  ·exact absurd b a
  ·rw [h2,k2]
theorem zny (x:Nat→RecD) (n:Nat) (nm:ByteArray):∃ q,NwP x n nm q:=by
 rcases zcD (itm x nm) n with e | ⟨i,h1,h2,h3⟩
 ·exact ⟨_,.inl ⟨e,rfl⟩⟩
 ·by_cases c:(x i).length<0
  ·exact ⟨_,.inr ⟨i,h1,h2,.inl ⟨c,rfl⟩⟩⟩
  ·exact ⟨_,.inr ⟨i,h1,h2,.inr ⟨c,rfl⟩⟩⟩
def NwAns (d:WorldD) (nm:ByteArray) (q:RecsResultD):Prop:=(∃ x,x≠0∧WldAns d x∧q=⟨x,(0,fun _=>rec0)⟩)∨(WldAns d 0∧∃ l,Cnt (recT d.tapes.2 2) (lenT d.tapes.2 2) l∧NwP (fun i=>recT d.tapes.2 2 (l.getD i 0)) l.length nm q)
theorem NwAns.one {d:WorldD} {nm:ByteArray} {p q:RecsResultD} (h:NwAns d nm p) (k:NwAns d nm q):p=q:=by
 rcases h with ⟨x,h1,h2,rfl⟩ | ⟨h1,l,hl,hp⟩<;>rcases k with ⟨y,k1,k2,rfl⟩ | ⟨k1,m,hm,kp⟩
 ·rw [h2.one k2]
 ·exact absurd (h2.one k1) h1
 ·exact absurd (k2.one h1) k1
 ·obtain rfl:=hl.uniq hm
  exact hp.one kp
theorem zmn {s:Nat→Int} {r:RecD} (h:RecAns s r 0):zbn s r:=by
 rcases h with ⟨_,h⟩ | ⟨_,h⟩
 ·cases h
 rcases h with ⟨_,h⟩ | ⟨_,h⟩
 ·cases h
 rcases h with ⟨_,h⟩ | ⟨_,h⟩
 ·cases h
 rcases h with ⟨_,h⟩ | ⟨_,h⟩
 ·cases h
 rcases h with ⟨_,h⟩ | ⟨h,_⟩
 ·cases h
 ·exact h
theorem zlz {d:WorldD} (hok:OkWorld d) {i:Nat} (hi:i<lenT d.tapes.2 2):zbn d.shape (recT d.tapes.2 2 i):=by
 have h2:d.tapes.1=2:=hok.form.2.2;have key:∀ t j,t<2→j<(d.tapes.2 t).recs.1→zbn d.shape ((d.tapes.2 t).recs.2 j):=fun t j ht hj=>zmn (hok.recs t (by omega) j hj)
 have e1:lenT d.tapes.2 1=(d.tapes.2 0).recs.1:=by simp [lenT]
 have e2:lenT d.tapes.2 2=(d.tapes.2 0).recs.1+(d.tapes.2 1).recs.1:=by simp [lenT]
 rw [e2] at hi
 show zbn d.shape (cat2 (recT d.tapes.2 1) (lenT d.tapes.2 1) (d.tapes.2 1).recs.2 i)
 unfold cat2
 split
 ·rename_i c
  rw [e1] at c
  show zbn d.shape (cat2 (recT d.tapes.2 0) (lenT d.tapes.2 0) (d.tapes.2 0).recs.2 i)
  unfold cat2;rw [if_neg (by show ¬ i<0;omega)];exact key 0 (i-0) (by omega) (by omega)
 ·rename_i c
  rw [e1] at c ⊢;exact key 1 _ (by omega) (by omega)
theorem zmo {s:Nat→Int} {r:RecD} (h:zbn s r) (hk:r.kind=1):r.length<0↔r.length=-1:=by
 rcases h with ⟨_,h⟩ | ⟨h,_⟩ | ⟨h,_⟩ | ⟨h,_⟩
 ·rcases h with ⟨h,_⟩ | ⟨_,h,_⟩<;>omega
 ·omega
 ·omega
 ·omega
theorem zlA {W:World} {g hi hi2:Nat} {r:RecD} {cs:List Value} (hB:Box W g cs.toArray 72) (hr:zab.rd W hi r cs) (hg:g<hi2) (hh:hi≤hi2):(zab.slice 72).rd W hi2 (1,fun _=>r) [.slice (some ⟨g,0,none⟩) 1 1]:=by
 refine ⟨_,1,rfl,by unfold maxLen;simp,fun _=>⟨g,0,rfl,hg,fun i hi'=>⟨cs,zab.rd_mono hr hh,fun j hj=>?_⟩⟩⟩
 obtain rfl:i=0:=by simp only at hi';omega
 simp only [Nat.zero_mul,Nat.zero_add]
 rw [hB.cell j]
 simp
theorem zmp {d:WorldD} (h2:d.tapes.1=2) (hsz:zaS d≤1048576) {l:List Nat} (h:Cnt (recT d.tapes.2 2) (lenT d.tapes.2 2) l) {i:Nat} (hi:i<l.length):(szSl zaG) (1,fun _=>recT d.tapes.2 2 (l.getD i 0))≤1048576∧zaG (recT d.tapes.2 2 (l.getD i 0))≤1048576:=by
 have h1:=zmh h2 hsz h;have e1:(szSl zaG) (l.length,(fun i=>recT d.tapes.2 2 (l.getD i 0)))=l.length+sumN (fun i=>zaG (recT d.tapes.2 2 (l.getD i 0))) l.length:=rfl;have e2:(szSl zaG) (1,fun _=>recT d.tapes.2 2 (l.getD i 0))=1+(0+zaG (recT d.tapes.2 2 (l.getD i 0))):=rfl;have h3:=zbC (s:=zaG) (p:=(l.length,(fun i=>recT d.tapes.2 2 (l.getD i 0)))) h1 hi
 have h4:zaG (recT d.tapes.2 2 (l.getD i 0))≤sumN (fun i=>zaG (recT d.tapes.2 2 (l.getD i 0))) l.length:=by
  have h5:=zbs (fun i=>zaG (recT d.tapes.2 2 (l.getD i 0))) (show i+1≤l.length from hi);rw [zaC] at h5;omega
 rw [e1] at h1;rw [e2];exact ⟨by omega,h3⟩
theorem znz {d:WorldD} (hok:OkWorld d) {l:List Nat} (hCt:Cnt (recT d.tapes.2 2) (lenT d.tapes.2 2) l) {i:Nat} (hi:i<l.length):zbn d.shape (recT d.tapes.2 2 (l.getD i 0)):=
 zlz hok ((hCt.mem _).1 (by rw [zdO hi];exact List.getElem_mem hi)).1
set_option maxRecDepth 20000 in
theorem zkr (d:WorldD) (nm:ByteArray) (cs:List Value) (hi:Nat) (w:World) (h:zad.rd w hi d cs) (hhi:hi≤w.heap.size) (hsz:zaS d≤1048576) (hnm:nm.size≤1048576) :
 Calls Tryz.prog 68 #[.agg cs.toArray,.string nm] w (zmH (NwAns d nm) w):=by
 have h':=h;obtain ⟨ao1,cap1,ao2,cap2,ao3,cap3,rfl,g1,g2,g3,k0,k4,k5⟩:=zaM h';have HRD:=hid h;have HG3:=hid g3;have HSZ:=hid hsz;clear h h' hsz g1 g2 g3 k0 k4 k5;have T0:=zax w (rwW d ao1 cap1 ao2 cap2 ao3 cap3).toArray #[.int .i64 0,.slice none 0 0] 38 69
 go_enter Tryz.func68,Tryz.ntmps68
 go_wp2_with (refine zai 38 (.tmp 2) rfl rfl (w.heap.size) rfl (T0.b1) Tryz.underlying38 zbk rfl ?_)
 refine (zee d _ hi _ (zad.rd_below HRD.out T0.bel hhi) (Nat.le_trans hhi T0.bel.size) (zdv HSZ.out)).mono ?_;rintro e w1 ⟨x,rfl,hx,b1⟩;have HT1:=hid (T0.call b1);have HX:=hid hx;have z1:w.heap.size+1<w1.heap.size:=HT1.out.b2.lt;clear b1 T0 hx
 by_cases hx0:x=0
 case neg=>
  have hne:(x != 0)=true:=by simp [hx0]
  go_wp2_with (refine zaF 69 _ _ rfl rfl (w.heap.size+1) rfl (cs:=[.int .i64 x,.slice none 0 0]) rfl (HT1.out.b2) zb5 rfl rfl ((zcn w1 x (zfx HX.out) 0 0).one) ?_;intro w9 X9 C9 z9)
  refine zbl Tryz.results68 rfl X9 Tryz.underlying69 zb5 rfl rfl ?_;have zz:=C9.size;exact ⟨⟨x,(0,fun _=>rec0)⟩,[.int .i64 x,.slice none 0 0],rfl,.inl ⟨x,hx0,HX.out,rfl⟩,zcn w9 x (zfx HX.out) _ _,HT1.out.bel.trans (C9.bel (fun b hb=>by simp at hb;omega) HT1.out.bel.size)⟩
 subst hx0;have HOK:=hid (WldAns.ok HX.out);have h2:d.tapes.1=2:=HOK.out.form.2.2;have hn0:(d.tapes.2 0).recs.1≤400000:=Nat.le_trans (HOK.out.few 0 (by omega)) (by decide);have hn1:(d.tapes.2 1).recs.1≤400000:=Nat.le_trans (HOK.out.few 1 (by omega)) (by decide);have HH2:=hid h2;clear h2;have CR:=zgW d (rwW d ao1 cap1 ao2 cap2 ao3 cap3) hi w1 (zad.rd_below HRD.out HT1.out.bel hhi) (Nat.le_trans hhi HT1.out.bel.size) HOK.out
 go_wp2_with (refine zai 38 (.tmp 2) rfl rfl (w.heap.size) rfl (HT1.out.b1) Tryz.underlying38 zbk rfl ?_)
 refine CR.mono ?_;rintro e w2 ⟨B,l,ce,v,b1,b2,b3,b4,b5,rfl,hCt,hLd,hRd,bb2⟩;have HL:=hid hCt;have HT2:=hid (HT1.out.call bb2);have z2:w1.heap.size≤w2.heap.size:=bb2.size
 have hlen:l.length≤1000000:=by
  have h1:=(hCt.sum (fun _=>0)).2
  have e2:lenT d.tapes.2 2=(d.tapes.2 0).recs.1+(d.tapes.2 1).recs.1:=by simp [lenT]
  omega
 have CU:=zmb hLd hRd nm (by unfold maxLen;omega);have HRd:=hid hRd;clear hLd hRd bb2 CR HT1
 go_wp2_with fail
 refine CU.mono ?_;rintro e w5 ⟨he,b5'⟩;have HT5:=hid (HT2.out.call b5');have z5:w2.heap.size≤w5.heap.size:=b5'.size;have HB5:=hid b5';clear b5' CU
 rcases he with ⟨hlast,rfl⟩ | ⟨i,hiN,hlast,rfl⟩
 ·have HLA:=hid hlast
  have bA:Below w5.heap.size w5 (w5.alloc (.cells #[.int .i64 0,.int .i64 0,.string ⟨#[]⟩,.int .i64 0,.int .i64 0,.int .i64 0,.slice none 0 0,.slice none 0 0,.slice none 0 0] 72)):=(Below.refl _ _).alloc (Nat.le_refl _) _;have HTZ:=hid (HT5.out.call bA);have zl:([.int .i64 0,.int .i64 0,.string ⟨#[]⟩,.int .i64 0,.int .i64 0,.int .i64 0,.slice none 0 0,.slice none 0 0,.slice none 0 0]:List Value).length=9:=rfl
  have zo:∀ v,v∈([.int .i64 0,.int .i64 0,.string ⟨#[]⟩,.int .i64 0,.int .i64 0,.int .i64 0,.slice none 0 0,.slice none 0 0,.slice none 0 0]:List Value)→v.oneCell'=true:=by decide
  clear hlast hCt HRd
  go_upto_region 5 with (refine zaN 72 6 (.tmp 19) [.int .i64 0,.int .i64 0,.string ⟨#[]⟩,.int .i64 0,.int .i64 0,.int .i64 0,.slice none 0 0,.slice none 0 0,.slice none 0 0] _ 9 rfl rfl rfl rfl rfl rfl (by simp [Act.eval,Act.put]) (by simp [Act.eval,Act.put]) zdu rfl (by assumption) (by assumption) ?_)
  obtain ⟨w6,hw6⟩:∃ y,y=w5.alloc (.cells #[.int .i64 0,.int .i64 0,.string ⟨#[]⟩,.int .i64 0,.int .i64 0,.int .i64 0,.slice none 0 0,.slice none 0 0,.slice none 0 0] 72):=⟨_,rfl⟩;rw [← hw6] at HTZ bA ⊢;clear hw6
  go_wp2_with (refine zaF 69 _ _ rfl rfl (w.heap.size+1) rfl (cs:=[.int .i64 4,.slice none 0 0]) rfl (HTZ.out.b2) zb5 rfl rfl ((zcn w1 4 (by decide) 0 0).one) ?_;intro w9 X9 C9 z9)
  refine zbl Tryz.results68 rfl X9 Tryz.underlying69 zb5 rfl rfl ?_;exact ⟨⟨4,(0,fun _=>rec0)⟩,[.int .i64 4,.slice none 0 0],rfl,.inr ⟨HX.out,l,HL.out,.inl ⟨HLA.out,rfl⟩⟩,zcn w9 4 (by decide) _ _,HTZ.out.bel.trans (C9.bel (fun b hb=>by simp at hb;omega) HTZ.out.bel.size)⟩
 ·have HLA:=hid hlast
  obtain ⟨r,hr⟩:∃ r,r=recT d.tapes.2 2 (l.getD i 0):=⟨_,rfl⟩;have HRR:=hid hr
  have hk1:r.kind=1:=by
   rcases zcD (itm (fun i=>recT d.tapes.2 2 (l.getD i 0)) nm) l.length with e | ⟨j,_,h2,h3⟩
   ·rw [hlast] at e;omega
   ·rw [hlast] at h2
    obtain rfl:i=j:=by omega
    rw [hr];exact h3.1
  have hneg:r.length<0↔r.length=-1:=zmo (by rw [hr];exact znz HOK.out hCt hiN) hk1
  have rd5:zab.rd w5 hi r (ce i):=by rw [hr];exact zab.rd_below (HRd.out i hiN) HB5.out (by omega)
  have zl:(ce i).length=9:=zab.rd_len rd5;have zo:=zgc rd5;have hsz1:=zmp HH2.out HSZ.out hCt hiN;rw [← hr] at hsz1;rw [show (recT d.tapes.2 2 (l.getD i 0))=r from hr.symm];have HIN:=hid hiN;have bA:Below w5.heap.size w5 (w5.alloc (.cells (ce i).toArray 72)):=(Below.refl _ _).alloc (Nat.le_refl _) _;have HTZ:=hid (HT5.out.call bA);have X6:Box (w5.alloc (.cells (ce i).toArray 72)) w5.heap.size (ce i).toArray 72:=zaq _ _ _;have rd6:=zab.rd_below rd5 bA (by omega);have z6:w5.heap.size<(w5.alloc (.cells (ce i).toArray 72)).heap.size:=X6.lt;clear hlast hCt HRd hr hk1 hiN
  by_cases hm:r.length=-1
  ·have dm:decide (r.length≠-1)=false:=by simp [hm]
   have HM:=hid (hneg.2 hm);rw [dm];clear hm dm hneg
   go_upto_region 5 with (refine zaN 72 6 (.tmp 19) (ce i) _ 9 rfl rfl rfl rfl rfl rfl (by simp [Act.eval,Act.put]) (by simp [Act.eval,Act.put]) zdu rfl (by assumption) (by assumption) ?_)
   obtain ⟨w6,hw6⟩:∃ y,y=w5.alloc (.cells (ce i).toArray 72):=⟨_,rfl⟩;rw [← hw6] at HTZ ⊢;clear hw6
   go_wp2_with (refine zaF 69 _ _ rfl rfl (w.heap.size+1) rfl (cs:=[.int .i64 4,.slice none 0 0]) rfl (HTZ.out.b2) zb5 rfl rfl ((zcn w1 4 (by decide) 0 0).one) ?_;intro w9 X9 C9 z9)
   refine zbl Tryz.results68 rfl X9 Tryz.underlying69 zb5 rfl rfl ?_;exact ⟨⟨4,(0,fun _=>rec0)⟩,[.int .i64 4,.slice none 0 0],rfl,.inr ⟨HX.out,l,HL.out,.inr ⟨i,HIN.out,HLA.out,.inl ⟨(show (recT d.tapes.2 2 (l.getD i 0)).length<0 by rw [← HRR.out];exact HM.out),rfl⟩⟩⟩,zcn w9 4 (by decide) _ _,HTZ.out.bel.trans (C9.bel (fun b hb=>by simp at hb;omega) HTZ.out.bel.size)⟩
  ·have dm:decide (r.length≠-1)=true:=by simp [hm]
   have HM:Hid (¬ r.length<0):=fun h=>hm (hneg.1 h);rw [dm];clear hm dm hneg
   go_upto_region 5 with (refine zaN 72 6 (.tmp 19) (ce i) _ 9 rfl rfl rfl rfl rfl rfl (by simp [Act.eval,Act.put]) (by simp [Act.eval,Act.put]) zdu rfl (by assumption) (by assumption) ?_)
   obtain ⟨w6,hw6⟩:∃ y,y=w5.alloc (.cells (ce i).toArray 72):=⟨_,rfl⟩;rw [← hw6] at HTZ X6 rd6 z6 ⊢;clear hw6;have bS:Below w6.heap.size w6 (w6.alloc (.cells (ce i).toArray 72)):=(Below.refl _ _).alloc (Nat.le_refl _) _;have XS:Box (w6.alloc (.cells (ce i).toArray 72)) w6.heap.size (ce i).toArray 72:=zaq _ _ _;have zS:w6.heap.size<(w6.alloc (.cells (ce i).toArray 72)).heap.size:=XS.lt;have HT7:=hid (HTZ.out.call bS);have sl:=zlA XS (zab.rd_below rd6 bS (by omega)) zS (by omega);have CT:=zhW _ (1,fun _=>r) _ _ sl (Nat.le_refl _) hsz1.1
   go_wp2_with (first | (refine zai 72 (.tmp 6) rfl rfl (w5.heap.size) rfl X6 Tryz.underlying72 zfi zl ?_) | (refine zkq rfl (.tmp 24) rfl rd6 (by simp [Act.eval,Act.put]) ?_))
   obtain ⟨w7,hw7⟩:∃ y,y=w6.alloc (.cells (ce i).toArray 72):=⟨_,rfl⟩;rw [← hw7] at HT7 CT zS ⊢;clear hw7 bS XS sl;refine CT.mono ?_;rintro e w3 ⟨cs3,rfl,O3,bb3⟩;have HT3:=hid (HT7.out.call bb3);obtain ⟨a3,c3,rfl⟩:=zeP O3;have HO3:=hid O3;clear O3 bb3 CT HT5 HT7 HTZ
   go_wp2_with (refine zaF 69 _ _ rfl rfl (w.heap.size+1) rfl (cs:=[.int .i64 0,.slice a3 1 c3]) rfl (HT3.out.b2) zb5 rfl rfl (HO3.out.one) ?_;intro w9 X9 C9 z9)
   refine zbl Tryz.results68 rfl X9 Tryz.underlying69 zb5 rfl rfl ?_;have zz:=C9.size;have O9:=(HO3.out.chgk C9 (fun b hb=>by simp at hb;omega)).weaken (lo':=w.heap.size) (hi':=w9.heap.size) (by omega) zz;exact ⟨_,_,rfl,.inr ⟨HX.out,l,HL.out,.inr ⟨i,HIN.out,HLA.out,.inr ⟨(show ¬ (recT d.tapes.2 2 (l.getD i 0)).length<0 by rw [← HRR.out];have:=HM.out;omega),(show (⟨0,(1,fun _=>r)⟩:RecsResultD)=⟨0,(1,fun _=>recT d.tapes.2 2 (l.getD i 0))⟩ by rw [← HRR.out])⟩⟩⟩,O9,HT3.out.bel.trans (C9.bel (fun b hb=>by simp at hb;omega) HT3.out.bel.size)⟩
end Go.Proofs.YtclclojenogpbaaGreat
