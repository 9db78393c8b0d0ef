/- Walk of slices.symMergeCmpFunc over records: one element in the second part. -/
import Derived.Test.YthcmdnlkohdeaaaGreatZPmissiag
set_option linter.unusedVariables false
set_option linter.unusedSimpArgs false
set_option maxHeartbeats 16000000
namespace Go.Proofs.YthcmdnlkohdeaaaGreat
open Go.RowKit F256
theorem ziR (m k x:Nat) (h:k+1≤m):Sym.rot (k+1) m (m+1) (Sym.swp (k+1) k x)=Sym.rot k m (m+1) x:=by
 unfold Sym.rot Sym.swp
 repeat' split
 all_goals omega
theorem ziS (m x:Nat):Sym.rot m m (m+1) x=x:=by
 unfold Sym.rot
 repeat' split
 all_goals omega
theorem zkk {lt:Nat→Nat→Prop} {p:Nat→Nat} {a m i:Nat} (hai:a≤i) (
 him:i≤m) (h1:Sym.Srt lt p a m) (hl:∀ k,a≤k→k<i→lt (p k) (p m)) (hr:∀ k,i≤k→k<m→lt (p m) (p k)) :
 Sym.Srt lt (fun k=>p (Sym.rot i m (m+1) k)) a (m+1)∧Sym.Re a (m+1) p (fun k=>p (Sym.rot i m (m+1) k)):=by
 have r1:∀ k,i<k→k≤m→Sym.rot i m (m+1) k=k-1:=fun k h3 h4=>by
  unfold Sym.rot;repeat' split
  all_goals omega
 have r2:Sym.rot i m (m+1) i=m:=by
  unfold Sym.rot;repeat' split
  all_goals omega
 have r3:∀ k,k<i→Sym.rot i m (m+1) k=k:=fun k h3=>by
  unfold Sym.rot;repeat' split
  all_goals omega
 refine ⟨fun x y h3 h4 h5=>?_,(Sym.Re.rots p him (by omega)).mono hai (Nat.le_refl _)⟩
 show lt (p (Sym.rot i m (m+1) x)) (p (Sym.rot i m (m+1) y))
 by_cases c1:x<i
 ·rw [r3 x c1]
  by_cases c2:y<i
  ·rw [r3 y c2];exact h1 _ _ (by omega) (by omega) (by omega)
  ·by_cases c3:y=i
   ·rw [c3,r2];exact hl _ h3 c1
   ·rw [r1 y (by omega) (by omega)];exact h1 _ _ (by omega) (by omega) (by omega)
 ·by_cases c3:x=i
  ·rw [c3,r2,r1 y (by omega) (by omega)];exact hr _ (by omega) (by omega)
  ·rw [r1 x (by omega) (by omega),r1 y (by omega) (by omega)];exact h1 _ _ (by omega) (by omega) (by omega)
set_option maxRecDepth 1000000 in
theorem zh4 (x0:Nat→RecD) (enc:Nat→List Value) (p:Nat→Nat) (N blk cap lo hi:Nat) (w:World) (V:RowsV x0 enc N blk cap lo hi w p) (hlo:hi≤lo) (hN:N<1000000000) (a m b:Nat) (ham:a<m) (hmb:m<b) (hb:b≤N) (htag:∀ i j,a≤i→i<m→m≤j→j<b→p i<p j) (hs1:Sym.Srt (numL x0) p a m) (hs2:Sym.Srt (numL x0) p m b) (h0:m≠a+1) (h1:b=m+1) :
 Calls Tryz.prog 135 #[.slice (some ⟨blk,0,none⟩) N cap,.int .i64 a,.int .i64 m,.int .i64 b,.func (.func 72) #[] #[]] w (fun e w'=>e=.returned (.tuple #[])∧∃ q,RowsV x0 enc N blk cap lo hi w' q∧Sym.Re a b p q∧Sym.Srt (numL x0) q a b∧ChgL [blk] w w'):=by
 have HV0:=hid V;have HT:=hid htag;have HS1:=hid hs1;have HM:=hid h1;obtain ⟨D,hD⟩:∃ D,D=m-a:=⟨_,rfl⟩
 have w0:IntKind.i64.wrap ((m:Int)-(a:Int))=(D:Int):=by rw [IntKind.wrap_i64];omega
 have d0:((D:Int)==1)=false:=by simp;omega
 have w9:IntKind.i64.wrap ((b:Int)-(m:Int))=1:=by rw [IntKind.wrap_i64];omega
 clear V htag hs1 hs2 h0 h1 hD
 go_enter Tryz.func135,Tryz.ntmps135
 go_wp2
 go_loopw [14,15] (fun vi vj wr=>∃ (i j:Nat),a≤i∧i≤j∧j≤m∧vi=.int .i64 i∧vj=.int .i64 j∧RowsV x0 enc N blk cap lo hi wr p∧(∀ k,a≤k→k<i→numL x0 (p k) (p m))∧(∀ k,j≤k→k<m→numL x0 (p m) (p k))∧ChgL [blk] w wr) (fun vi vj _=>(intOf vj).toNat-(intOf vi).toNat)
 case atStart=>exact ⟨a,m,Nat.le_refl _,by omega,Nat.le_refl _,by go_num,by go_num,HV0.out,fun k h1 h2=>by omega,fun k h1 h2=>by omega,ChgL.refl _ _⟩
 case round=>
  obtain ⟨i,j,hmi,hij,hjb,rfl,rfl,V,hL,hR,C⟩:=hrel;have HC:=hid C;have HL:=hid hL;have HR:=hid hR;have HV:=hid V;clear C hL hR w0 w9 d0
  by_cases hlt:i<j
  ·have t1:(i:Int)<(j:Int):=by omega
   obtain ⟨B,hB⟩:∃ B,B=(i+j)/2:=⟨_,rfl⟩
   have w1:IntKind.i64.wrap ((i:Int)+(j:Int))=((i+j:Nat):Int):=by rw [IntKind.wrap_i64];omega
   have e1:((i:Int)+(j:Int))/2=(B:Int):=by omega
   have hBi:i≤B:=by omega
   have hBj:B<j:=by omega
   have hAN:m<N:=by omega
   have hBN:B<N:=by omega
   have i1:(m:Int)<(N:Int):=by omega
   have i2:(B:Int)<(N:Int):=by omega
   have i3:(0:Int)≤(m:Int):=by omega
   have i4:(0:Int)≤(B:Int):=by omega
   have hsz:=(V.row.lt blk rfl);have VD:=View.drew V;have rgA:wr.drew.rangeAt blk (m*9) (enc (p m)):=VD.range hAN;have rgB:wr.drew.rangeAt blk (B*9) (enc (p B)):=VD.range hBN;have hsA:(enc (p m)).length=9:=VD.lens m hAN;have hsB:(enc (p B)).length=9:=VD.lens B hBN;have rdA:=VD.each m hAN;have rdB:=VD.each B hBN;obtain ⟨cA,hcA⟩:∃ c,c=enc (p m):=⟨_,rfl⟩;obtain ⟨cB,hcB⟩:∃ c,c=enc (p B):=⟨_,rfl⟩;rw [← hcA] at rgA hsA;rw [← hcB] at rgB hsB;have CC0:=zbZ _ _ _ _ hi hi wr.drew rdA rdB;rw [← hcA,← hcB] at CC0;obtain ⟨c,hc⟩:∃ c:Int,c=numC (x0 (p m)) (x0 (p B)):=⟨_,rfl⟩;rw [← hc] at CC0;have HCN:=hid hc
   have CC:Calls Tryz.prog 72 (#[.agg cA.toArray,.agg cB.toArray]++#[]) wr.drew fun e w'=>e=.returned (.int .i64 c)∧Below wr.drew.heap.size wr.drew w':=by rw [Array.append_empty];exact CC0
   have HVD:=hid VD;clear CC0 hc hcA hcB rdA rdB hB VD V HV
   go_upto_region 17 with fail
   try rw [e1]
   refine zax 9 (fun w'=>w'.rangeAt blk (m*9) cA∧w'.rangeAt blk (B*9) cB) zbx ⟨rgA,rgB⟩ (fun hHeld=>?_);refine zkf 0 rfl ?_
   try simp only [Act.put,SL]
   refine zkf 1 rfl ?_
   try simp only [Act.put,SL]
   refine zkf 2 rfl ?_
   try simp only [Act.put,SL]
   refine zkf 3 rfl ?_
   try simp only [Act.put,SL]
   refine zae (i:=4) (oi:=_) 16 rfl (by kernel_rfl) (fun _ _ _ h=>h) (yieldsIf_load_mid (by kernel_rfl) 92 (.tmp 95) rfl blk (m*9) (by simp [Act.eval,Act.put]) cA _ (fun w h=>h.1) Tryz.underlying92 rfl (zah hsA)) (by assumption) ?_
   try simp only [Act.put,SL]
   refine zkf 5 rfl ?_
   try simp only [Act.put,SL]
   refine zkf 6 rfl ?_
   try simp only [Act.put,SL]
   refine zkf 7 rfl ?_
   try simp only [Act.put,SL]
   refine zae (i:=8) (oi:=_) 16 rfl (by kernel_rfl) (fun _ _ _ h=>h) (yieldsIf_load_mid (by kernel_rfl) 92 (.tmp 99) rfl blk (B*9) (by simp [Act.eval,Act.put]) cB _ (fun w h=>h.2) Tryz.underlying92 rfl (zah hsB)) (by assumption) ?_
   try simp only [Act.put,SL]
   refine zat (i:=9) (o:=_) rfl (by kernel_rfl) (by kernel_rfl) (fun KC hKC=>?_);refine za4 (by kernel_rfl) (.tmp 92) 72 #[] _ _ rfl (by simp [Act.eval,Act.put]) #[.agg cA.toArray,.agg cB.toArray] (by simp [Act.eval,Act.put]) Tryz.func72 (by kernel_rfl) (by kernel_rfl) CC ?_;rintro ee w5 ⟨rfl,b5⟩;refine ⟨_,rfl,?_⟩;refine hKC _ _ ?_;clear hKC KC
   try simp only [Act.put,SL]
   refine zj1 10 (v:=?_) rfl ?_ ?_
   rotate_left
   ·intro w' hSw;go_simp;try with_reducible rfl
   try simp only [Act.put,SL]
   obtain ⟨dd,hdd⟩:∃ d:Bool,d=decide (c<0):=⟨_,rfl⟩;have HDD:=hid hdd;rw [← hdd];clear hdd;refine zj1 11 (v:=?_) rfl ?_ ?_
   rotate_left
   ·intro w' hSw;go_simp;try with_reducible rfl
   try simp only [Act.put,SL]
   refine zas (by kernel_rfl) ?_ _;have HV5:Hid (RowsV x0 enc N blk cap lo hi w5 p):=View.below HVD.out b5 (by show hi≤wr.heap.size;omega);have HC5:Hid (ChgL [blk] w w5):=HC.out.trans ((ChgL.of_below ⟨rfl,rfl,rfl,Nat.le_refl _,fun _ _=>rfl⟩:ChgL [blk] wr wr.drew).trans (ChgL.of_below b5));clear HVD HC rgA rgB hsA hsB b5 hHeld CC hsz
   cases dd
   ·go_wp2
    go_roundw
    case rel=>
     refine ⟨B+1,j,by omega,by omega,by omega,by go_num,rfl,HV5.out,fun k k1 k2=>?_,HR.out,HC5.out⟩
     have h2:¬ c<0:=by simpa using HDD.out
     rw [HCN.out] at h2;have h3:=zf6 (HT.out B m (by omega) (by omega) (Nat.le_refl _) (by omega)) h2
     by_cases ck:k=B
     ·rw [ck];exact h3
     ·exact (zbl x0).trans (HS1.out k B k1 (by omega) (by omega)) h3
    case measure=>simp [intOf];omega
   ·go_wp2
    go_roundw
    case rel=>
     refine ⟨i,B,hmi,hBi,by omega,rfl,by go_num,HV5.out,HL.out,fun k k1 k2=>?_,HC5.out⟩
     have h2:c<0:=by simpa using HDD.out
     rw [HCN.out] at h2;have h3:=zep h2
     by_cases ck:k=B
     ·rw [ck];exact h3
     ·exact (zbl x0).trans h3 (HS1.out B k (by omega) (by omega) k2)
    case measure=>simp [intOf];omega
  ·obtain rfl:i=j:=by omega
   clear V hij;go_wp2
   go_loopw [17] (fun vk wr=>∃ k:Nat,i≤k∧k≤m∧vk=.int .i64 k∧RowsV x0 enc N blk cap lo hi wr (fun x=>p (Sym.rot k m (m+1) x))∧ChgL [blk] w wr) (fun vk _=>(intOf vk).toNat)
   case atStart=>exact ⟨m,hjb,Nat.le_refl _,by go_num,HV.out.same (fun x _=>by rw [ziS]),HC.out⟩
   case round=>
    obtain ⟨A,haA,hAe,rfl,V,C⟩:=hrel;have HCr:=hid C;clear C
    by_cases hlt:i<A
    ·have t2:(i:Int)<(A:Int):=by omega
     obtain ⟨q,hq⟩:∃ q:Nat→Nat,q=fun x=>p (Sym.rot A m (m+1) x):=⟨_,rfl⟩;have HQ:=hid hq
     have VQ:RowsV x0 enc N blk cap lo hi wr q:=by rw [hq];exact V
     obtain ⟨B,hB⟩:∃ B,A=B+1:=⟨A-1,by omega⟩;have HAB:=hid hB
     have hAN:A<N:=by omega
     have hBN:B<N:=by omega
     have w4:IntKind.i64.wrap ((A:Int)-1)=(B:Int):=by rw [IntKind.wrap_i64];omega
     have i1:(A:Int)<(N:Int):=by omega
     have i2:(B:Int)<(N:Int):=by omega
     have i3:(0:Int)≤(A:Int):=by omega
     have i4:(0:Int)≤(B:Int):=by omega
     have VD:=View.drew VQ;have rgA:wr.drew.rangeAt blk (A*9) (enc (q A)):=VD.range hAN;have rgB:wr.drew.rangeAt blk (B*9) (enc (q B)):=VD.range hBN;have hsA:(enc (q A)).length=9:=VD.lens A hAN;have hsB:(enc (q B)).length=9:=VD.lens B hBN
     have th1:wr.drew.there blk (A*9) (enc (q B)).length:=by rw [hsB];exact VD.there hAN
     have th2:(wr.drew.setCells blk (A*9) (enc (q B))).there blk (B*9) (enc (q A)).length:=by rw [hsA];exact (VD.put (by decide) hlo hAN (VD.each B hBN)).there hBN
     have oneA:=zaL _ _ _ _ (VD.each A hAN);have oneB:=zaL _ _ _ _ (VD.each B hBN);have SW:=zdr VD hlo hAN hBN;have HSW:=hid SW.1;have HSC:Hid (ChgL [blk] wr ((wr.drew.setCells blk (A*9) (enc (q B))).setCells blk (B*9) (enc (q A)))):=(ChgL.of_below ⟨rfl,rfl,rfl,Nat.le_refl _,fun _ _=>rfl⟩:ChgL [blk] wr wr.drew).trans SW.2;obtain ⟨cA,hcA⟩:∃ c,c=enc (q A):=⟨_,rfl⟩;obtain ⟨cB,hcB⟩:∃ c,c=enc (q B):=⟨_,rfl⟩;rw [← hcA] at rgA th2 hsA oneA HSW HSC;rw [← hcB] at rgB th1 th2 hsB oneB HSW HSC;clear hcA hcB VD SW;clear hq hB V VQ
     go_upto_region 23 with fail
     refine zax 15 (fun w'=>w'.rangeAt blk (A*9) cA∧w'.rangeAt blk (B*9) cB) zbx ⟨rgA,rgB⟩ (fun hHeld=>?_);refine zaa (i:=0) (oi:=_) (v:=?_) rfl (by kernel_rfl) (fun _ _ _ h=>h) (Or.inl ⟨by rfl,?_⟩) (by assumption) ?_
     rotate_left
     ·intro w' hSw;go_simp;try with_reducible rfl
     try simp only [Act.put,SL]
     refine zaa (i:=1) (oi:=_) (v:=?_) rfl (by kernel_rfl) (fun _ _ _ h=>h) (Or.inl ⟨by rfl,?_⟩) (by assumption) ?_
     rotate_left
     ·intro w' hSw;go_simp;try with_reducible rfl
     try simp only [Act.put,SL]
     refine zaa (i:=2) (oi:=_) (v:=?_) rfl (by kernel_rfl) (fun _ _ _ h=>h) (Or.inl ⟨by rfl,?_⟩) (by assumption) ?_
     rotate_left
     ·intro w' hSw;go_simp;try with_reducible rfl
     try simp only [Act.put,SL]
     refine zaa (i:=3) (oi:=_) (v:=?_) rfl (by kernel_rfl) (fun _ _ _ h=>h) (Or.inl ⟨by rfl,?_⟩) (by assumption) ?_
     rotate_left
     ·intro w' hSw;go_simp;try with_reducible rfl
     try simp only [Act.put,SL]
     refine zaa (i:=4) (oi:=_) (v:=?_) rfl (by kernel_rfl) (fun _ _ _ h=>h) (Or.inl ⟨by rfl,?_⟩) (by assumption) ?_
     rotate_left
     ·intro w' hSw;go_simp;try with_reducible rfl
     try simp only [Act.put,SL]
     refine zaa (i:=5) (oi:=_) (v:=?_) rfl (by kernel_rfl) (fun _ _ _ h=>h) (Or.inl ⟨by rfl,?_⟩) (by assumption) ?_
     rotate_left
     ·intro w' hSw;go_simp;try with_reducible rfl
     try simp only [Act.put,SL]
     refine zaa (i:=6) (oi:=_) (v:=?_) rfl (by kernel_rfl) (fun _ _ _ h=>h) (Or.inl ⟨by rfl,?_⟩) (by assumption) ?_
     rotate_left
     ·intro w' hSw;go_simp;try with_reducible rfl
     try simp only [Act.put,SL]
     refine zaa (i:=7) (oi:=_) (v:=?_) rfl (by kernel_rfl) (fun _ _ _ h=>h) (Or.inl ⟨by rfl,?_⟩) (by assumption) ?_
     rotate_left
     ·intro w' hSw;go_simp;try with_reducible rfl
     try simp only [Act.put,SL]
     refine zaa (i:=8) (oi:=_) (v:=?_) rfl (by kernel_rfl) (fun _ _ _ h=>h) (Or.inl ⟨by rfl,?_⟩) (by assumption) ?_
     rotate_left
     ·intro w' hSw;go_simp;try with_reducible rfl
     try simp only [Act.put,SL]
     refine zae (i:=9) (oi:=_) 16 rfl (by kernel_rfl) (fun _ _ _ h=>h) (yieldsIf_load_mid (by rfl) 92 (.tmp 121) rfl blk (B*9) (by simp [Act.eval,Act.put]) cB _ (fun w h=>h.2) Tryz.underlying92 rfl (zah hsB)) (by assumption) ?_
     try simp only [Act.put,SL]
     refine zaa (i:=10) (oi:=_) (v:=?_) rfl (by kernel_rfl) (fun _ _ _ h=>h) (Or.inl ⟨by rfl,?_⟩) (by assumption) ?_
     rotate_left
     ·intro w' hSw;go_simp;try with_reducible rfl
     try simp only [Act.put,SL]
     refine zaa (i:=11) (oi:=_) (v:=?_) rfl (by kernel_rfl) (fun _ _ _ h=>h) (Or.inl ⟨by rfl,?_⟩) (by assumption) ?_
     rotate_left
     ·intro w' hSw;go_simp;try with_reducible rfl
     try simp only [Act.put,SL]
     refine zaa (i:=12) (oi:=_) (v:=?_) rfl (by kernel_rfl) (fun _ _ _ h=>h) (Or.inl ⟨by rfl,?_⟩) (by assumption) ?_
     rotate_left
     ·intro w' hSw;go_simp;try with_reducible rfl
     try simp only [Act.put,SL]
     refine zae (i:=13) (oi:=_) 16 rfl (by kernel_rfl) (fun _ _ _ h=>h) (yieldsIf_load_mid (by rfl) 92 (.tmp 125) rfl blk (A*9) (by simp [Act.eval,Act.put]) cA _ (fun w h=>h.1) Tryz.underlying92 rfl (zah hsA)) (by assumption) ?_
     try simp only [Act.put,SL]
     refine zaa (i:=14) (oi:=_) (v:=?_) rfl (by kernel_rfl) (fun _ _ _ h=>h) (Or.inl ⟨by rfl,?_⟩) (by assumption) ?_
     rotate_left
     ·intro w' hSw;go_simp;try with_reducible rfl
     try simp only [Act.put,SL]
     refine zba (i:=15) rfl (by kernel_rfl) (by kernel_rfl) rfl rfl 92 (.tmp 127) (.tmp 122) rfl blk (A*9) cB (by simp [Act.eval]) (by simp [Act.eval]) th1 (zah hsB) oneB ?_;refine zaf (i:=16) (oi:=_) (v:=?_) rfl (by kernel_rfl) (fun _ _ _ h=>h) (Or.inl ⟨by rfl,?_⟩) ?_
     rotate_left
     ·intro w' hSw;go_simp;try with_reducible rfl
     try simp only [Act.put,SL]
     refine zba (i:=17) rfl (by kernel_rfl) (by kernel_rfl) rfl rfl 92 (.tmp 128) (.tmp 126) rfl blk (B*9) cA (by simp [Act.eval]) (by simp [Act.eval]) th2 (zah hsA) oneA ?_;refine zas (by kernel_rfl) ?_ _;go_wp2
     go_roundw
     case rel=>
      have hAB:=HAB.out
      have e9:∀ x,q (Sym.swp A B x)=p (Sym.rot B m (m+1) x):=fun x=>by
       rw [HQ.out,hAB]
       show p (Sym.rot (B+1) m (m+1) (Sym.swp (B+1) B x))=_
       rw [ziR m B x (by omega)]
      exact ⟨B,by omega,by omega,by go_num,HSW.out.same (fun x _=>e9 x),HCr.out.trans HSC.out⟩
     case measure=>have hAB:=HAB.out;simp [intOf];omega
    ·obtain rfl:A=i:=by omega
     have HVA:=hid V;clear V;go_wp2;refine bodyPost_ret (results_none rfl _ _ _) rfl ?_;have M:=zkk (p:=p) (a:=a) (m:=m) (i:=A) hmi (by omega) HS1.out (fun k h3 h4=>HL.out k h3 h4) (fun k h3 h4=>HR.out k h3 h4);rw [← HM.out] at M;exact ⟨rfl,_,by rw [← HM.out] at HVA;exact HVA.out,M.2,M.1,HCr.out⟩
theorem zjT (p q:Prop) [Decidable p] [Decidable q]:(p∧q)∨(p∧¬ q)∨¬ p:=by
 by_cases h:p
 ·by_cases k:q
  ·exact .inl ⟨h,k⟩
  ·exact .inr (.inl ⟨h,k⟩)
 ·exact .inr (.inr h)
theorem dT {x y:Nat} (h:x<y):decide ((x:Int)<(y:Int))=true:=decide_eq_true (by omega)
theorem dN {x y:Nat} (h:x<y):decide (x<y)=true:=decide_eq_true h
theorem dF {x y:Nat} (h:¬ x<y):decide ((x:Int)<(y:Int))=false:=decide_eq_false (by omega)
theorem dM {x y:Nat} (h:¬ x<y):decide (x<y)=false:=decide_eq_false h
theorem zjU (m e x:Nat):Sym.rot m m e x=x:=by
 unfold Sym.rot
 repeat' split
 all_goals omega
theorem zjV (s m x:Nat):Sym.rot s m m x=x:=by
 unfold Sym.rot
 repeat' split
 all_goals omega
theorem rot_a {s m e x:Nat} (h:x<s):Sym.rot s m e x=x:=by
 unfold Sym.rot
 repeat' split
 all_goals omega
theorem rot_b {s m e x:Nat} (h:e≤x):Sym.rot s m e x=x:=by
 unfold Sym.rot
 repeat' split
 all_goals omega
theorem rot_c {s m e mid x:Nat} (hm:mid+m=s+e) (h1:s≤m) (h2:m≤e) (h3:s≤x) (h4:x<mid):m≤Sym.rot s m e x∧Sym.rot s m e x<e:=by
 unfold Sym.rot
 repeat' split
 all_goals omega
theorem rot_d {s m e mid x:Nat} (hm:mid+m=s+e) (h1:s≤m) (h2:m≤e) (h3:mid≤x) (h4:x<e):s≤Sym.rot s m e x∧Sym.rot s m e x<m:=by
 unfold Sym.rot
 repeat' split
 all_goals omega
set_option maxRecDepth 1000000 in
theorem zeW (x0:Nat→RecD) (enc:Nat→List Value) (p:Nat→Nat) (N blk cap lo hi:Nat) (w:World) (V:RowsV x0 enc N blk cap lo hi w p) (hlo:hi≤lo) (hN:N<1000000000) (a m b mid:Nat) (ham:a<m) (hmb:m<b) (hb:b≤N) (htag:∀ i j,a≤i→i<m→m≤j→j<b→p i<p j) (hs1:Sym.Srt (numL x0) p a m) (hs2:Sym.Srt (numL x0) p m b) (h0:m≠a+1) (h1:b≠m+1) (hmid:mid=(a+b)/2) (hx:mid<m∨m≤mid) (IH:∀ (p':Nat→Nat) (w':World) (a' m' b':Nat),b'-a'<b-a→RowsV x0 enc N blk cap lo hi w' p'→a'<m'→m'<b'→b'≤N→(∀ i j,a'≤i→i<m'→m'≤j→j<b'→p' i<p' j)→Sym.Srt (numL x0) p' a' m'→Sym.Srt (numL x0) p' m' b'→Calls Tryz.prog 135 #[.slice (some ⟨blk,0,none⟩) N cap,.int .i64 a',.int .i64 m',.int .i64 b',.func (.func 72) #[] #[]] w' (fun e w''=>e=.returned (.tuple #[])∧∃ q,RowsV x0 enc N blk cap lo hi w'' q∧Sym.Re a' b' p' q∧Sym.Srt (numL x0) q a' b'∧ChgL [blk] w' w'')) :
 Calls Tryz.prog 135 #[.slice (some ⟨blk,0,none⟩) N cap,.int .i64 a,.int .i64 m,.int .i64 b,.func (.func 72) #[] #[]] w (fun e w'=>e=.returned (.tuple #[])∧∃ q,RowsV x0 enc N blk cap lo hi w' q∧Sym.Re a b p q∧Sym.Srt (numL x0) q a b∧ChgL [blk] w w'):=by
 have HV0:=hid V;have HT:=hid htag;have HS1:=hid hs1;have HS2:=hid hs2;have HIH:=hid IH;have HMID:=hid hmid;obtain ⟨D,hD⟩:∃ D,D=m-a:=⟨_,rfl⟩
 have w0:IntKind.i64.wrap ((m:Int)-(a:Int))=(D:Int):=by rw [IntKind.wrap_i64];omega
 have d0:((D:Int)==1)=false:=by simp;omega
 obtain ⟨E,hE⟩:∃ E,E=b-m:=⟨_,rfl⟩
 have w9:IntKind.i64.wrap ((b:Int)-(m:Int))=(E:Int):=by rw [IntKind.wrap_i64];omega
 have d9:((E:Int)==1)=false:=by simp;omega
 have w1:IntKind.i64.wrap ((a:Int)+(b:Int))=((a+b:Nat):Int):=by rw [IntKind.wrap_i64];omega
 have e1:((a:Int)+(b:Int))/2=(mid:Int):=by omega
 obtain ⟨n,hn⟩:∃ n,n=mid+m:=⟨_,rfl⟩
 have w2:IntKind.i64.wrap ((mid:Int)+(m:Int))=(n:Int):=by rw [IntKind.wrap_i64];omega
 obtain ⟨P,hP⟩:∃ P,n=P+1:=⟨n-1,by omega⟩
 have w3:IntKind.i64.wrap ((n:Int)-1)=(P:Int):=by rw [IntKind.wrap_i64];omega
 obtain ⟨S0,R0,hSR⟩:∃ S0 R0:Nat,(mid<m∧S0=n-b∧R0=mid)∨(¬ mid<m∧S0=a∧R0=m):=by
  rcases hx with h | h
  ·exact ⟨_,_,.inl ⟨h,rfl,rfl⟩⟩
  ·exact ⟨_,_,.inr ⟨by omega,rfl,rfl⟩⟩
 have F:a≤S0∧n≤S0+b∧(S0=a∨n=S0+b)∧S0≤R0∧R0≤m∧R0≤mid∧(R0=m∨R0=mid):=by omega
 have HF:=hid F;have HN:Hid (n=mid+m∧n=P+1):=⟨hn,hP⟩;have HSR:=hid hSR;clear V htag hs1 hs2 h0 h1 hD hE IH hmid hn hP F
 rcases hSR with ⟨hx1,hS0,hR0⟩ | ⟨hx1,hS0,hR0⟩
 all_goals
  first
  | (
   have x4:(mid:Int)<(m:Int):=by exact Int.ofNat_lt.mpr (hx1:mid<m)
   have x5:IntKind.i64.wrap ((n:Int)-(b:Int))=(S0:Int):=by rw [IntKind.wrap_i64];have:=HN.out;have:=HF.out;omega
   have HSX:Hid (S0=n-b∧R0=mid):=⟨hS0,hR0⟩)
  | (
   have x4:=dF (hx1:¬ mid<m);have x5:=dM (hx1:¬ mid<m)
   have HSX:Hid (S0=a∧R0=m):=⟨hS0,hR0⟩)
  clear hx1 hS0 hR0
  go_enter Tryz.func135,Tryz.ntmps135
  go_wp2
  go_loopw [20,21] (fun vi vj wr=>∃ (i j:Nat),S0≤i∧i≤j∧j≤R0∧vi=.int .i64 i∧vj=.int .i64 j∧RowsV x0 enc N blk cap lo hi wr p∧(i=S0∨numL x0 (p (i-1)) (p (n-i)))∧(j=R0∨numL x0 (p (P-j)) (p j))∧ChgL [blk] w wr) (fun vi vj _=>(intOf vj).toNat-(intOf vi).toNat)
  case atStart=>exact ⟨S0,R0,Nat.le_refl _,HF.out.2.2.2.1,Nat.le_refl _,by have:=HSX.out;go_num,by have:=HSX.out;go_num,HV0.out,.inl rfl,.inl rfl,ChgL.refl _ _⟩
  case round=>
   obtain ⟨i,j,hmi,hij,hjb,rfl,rfl,V,hL,hR,C⟩:=hrel;have HC:=hid C;have HL:=hid hL;have HR:=hid hR;have HV:=hid V;clear C hL hR w0 w9 d0 d9 w1 e1 w2 w3
   by_cases hlt:i<j
   ·have t1:(i:Int)<(j:Int):=by omega
    obtain ⟨B,hB⟩:∃ B,B=(i+j)/2:=⟨_,rfl⟩
    have w1:IntKind.i64.wrap ((i:Int)+(j:Int))=((i+j:Nat):Int):=by rw [IntKind.wrap_i64];have:=HF.out;omega
    have e1:((i:Int)+(j:Int))/2=(B:Int):=by omega
    have hBi:i≤B:=by omega
    have hBj:B<j:=by omega
    obtain ⟨A,hA⟩:∃ A,A=P-B:=⟨_,rfl⟩;have hF:=HF.out;have hNN:=HN.out;have hMID:=HMID.out
    have hAm:m≤A∧A<b:=by omega
    have HAP:Hid (A+B=P):=(by omega:A+B=P)
    have w4:IntKind.i64.wrap ((P:Int)-(B:Int))=(A:Int):=by rw [IntKind.wrap_i64];omega
    have hAN:A<N:=by omega
    have hBN:B<N:=by omega
    have i1:(A:Int)<(N:Int):=by omega
    have i2:(B:Int)<(N:Int):=by omega
    have i3:(0:Int)≤(A:Int):=by omega
    have i4:(0:Int)≤(B:Int):=by omega
    have hsz:=(V.row.lt blk rfl);have HTG:Hid (p B<p A):=HT.out B A (by omega) (by omega) (by omega) (by omega);have VD:=View.drew V;have rgA:wr.drew.rangeAt blk (A*9) (enc (p A)):=VD.range hAN;have rgB:wr.drew.rangeAt blk (B*9) (enc (p B)):=VD.range hBN;have hsA:(enc (p A)).length=9:=VD.lens A hAN;have hsB:(enc (p B)).length=9:=VD.lens B hBN;have rdA:=VD.each A hAN;have rdB:=VD.each B hBN;obtain ⟨cA,hcA⟩:∃ c,c=enc (p A):=⟨_,rfl⟩;obtain ⟨cB,hcB⟩:∃ c,c=enc (p B):=⟨_,rfl⟩;rw [← hcA] at rgA hsA;rw [← hcB] at rgB hsB;have CC0:=zbZ _ _ _ _ hi hi wr.drew rdA rdB;rw [← hcA,← hcB] at CC0;obtain ⟨c,hc⟩:∃ c:Int,c=numC (x0 (p A)) (x0 (p B)):=⟨_,rfl⟩;rw [← hc] at CC0;have HCN:=hid hc
    have CC:Calls Tryz.prog 72 (#[.agg cA.toArray,.agg cB.toArray]++#[]) wr.drew fun e w'=>e=.returned (.int .i64 c)∧Below wr.drew.heap.size wr.drew w':=by rw [Array.append_empty];exact CC0
    have HVD:=hid VD;clear CC0 hc hcA hcB rdA rdB hB hA hF hNN hMID VD V HV
    go_upto_region 35 with fail
    try rw [e1]
    refine zax 11 (fun w'=>w'.rangeAt blk (A*9) cA∧w'.rangeAt blk (B*9) cB) zbx ⟨rgA,rgB⟩ (fun hHeld=>?_);refine zkf 0 rfl ?_
    try simp only [Act.put,SL]
    refine zkf 1 rfl ?_
    try simp only [Act.put,SL]
    refine zkf 2 rfl ?_
    try simp only [Act.put,SL]
    refine zkf 3 rfl ?_
    try simp only [Act.put,SL]
    refine zkf 4 rfl ?_
    try simp only [Act.put,SL]
    refine zkf 5 rfl ?_
    try simp only [Act.put,SL]
    refine zae (i:=6) (oi:=_) 16 rfl (by kernel_rfl) (fun _ _ _ h=>h) (yieldsIf_load_mid (by kernel_rfl) 92 (.tmp 163) rfl blk (A*9) (by simp [Act.eval,Act.put]) cA _ (fun w h=>h.1) Tryz.underlying92 rfl (zah hsA)) (by assumption) ?_
    try simp only [Act.put,SL]
    refine zkf 7 rfl ?_
    try simp only [Act.put,SL]
    refine zkf 8 rfl ?_
    try simp only [Act.put,SL]
    refine zkf 9 rfl ?_
    try simp only [Act.put,SL]
    refine zae (i:=10) (oi:=_) 16 rfl (by kernel_rfl) (fun _ _ _ h=>h) (yieldsIf_load_mid (by kernel_rfl) 92 (.tmp 167) rfl blk (B*9) (by simp [Act.eval,Act.put]) cB _ (fun w h=>h.2) Tryz.underlying92 rfl (zah hsB)) (by assumption) ?_
    try simp only [Act.put,SL]
    refine zat (i:=11) (o:=_) rfl (by kernel_rfl) (by kernel_rfl) (fun KC hKC=>?_);refine za4 (by kernel_rfl) (.tmp 158) 72 #[] _ _ rfl (by simp [Act.eval,Act.put]) #[.agg cA.toArray,.agg cB.toArray] (by simp [Act.eval,Act.put]) Tryz.func72 (by kernel_rfl) (by kernel_rfl) CC ?_;rintro ee w5 ⟨rfl,b5⟩;refine ⟨_,rfl,?_⟩;refine hKC _ _ ?_;clear hKC KC
    try simp only [Act.put,SL]
    refine zj1 12 (v:=?_) rfl ?_ ?_
    rotate_left
    ·intro w' hSw;go_simp;try with_reducible rfl
    try simp only [Act.put,SL]
    obtain ⟨dd,hdd⟩:∃ d:Bool,d=decide (c<0):=⟨_,rfl⟩;have HDD:=hid hdd;rw [← hdd];clear hdd;refine zj1 13 (v:=?_) rfl ?_ ?_
    rotate_left
    ·intro w' hSw;go_simp;try with_reducible rfl
    try simp only [Act.put,SL]
    refine zas (by kernel_rfl) ?_ _;have HV5:Hid (RowsV x0 enc N blk cap lo hi w5 p):=View.below HVD.out b5 (by show hi≤wr.heap.size;omega);have HC5:Hid (ChgL [blk] w w5):=HC.out.trans ((ChgL.of_below ⟨rfl,rfl,rfl,Nat.le_refl _,fun _ _=>rfl⟩:ChgL [blk] wr wr.drew).trans (ChgL.of_below b5));clear HVD HC rgA rgB hsA hsB b5 hHeld CC hsz
    cases dd
    ·go_wp2
     go_roundw
     case rel=>
      refine ⟨B+1,j,by omega,by omega,by omega,by go_num,rfl,HV5.out,.inr ?_,HR.out,HC5.out⟩
      have h2:¬ c<0:=by simpa using HDD.out
      rw [HCN.out] at h2;rw [show B+1-1=B by omega,show n-(B+1)=A by have h8:=HN.out;have h9:=HAP.out;omega];exact zf6 HTG.out h2
     case measure=>simp [intOf];omega
    ·go_wp2
     go_roundw
     case rel=>
      refine ⟨i,B,hmi,hBi,by omega,rfl,by go_num,HV5.out,HL.out,.inr ?_,HC5.out⟩
      have h2:c<0:=by simpa using HDD.out
      rw [HCN.out] at h2;rw [show P-B=A by have h9:=HAP.out;omega];exact zep h2
     case measure=>simp [intOf];omega
   ·obtain rfl:i=j:=by omega
    clear V hij;obtain ⟨e,he⟩:∃ e,e=n-i:=⟨_,rfl⟩;have hF:=HF.out;have hNN:=HN.out;have hMID:=HMID.out
    have hie:mid+m=i+e:=by omega
    have hae:a≤i∧i≤m∧m≤e∧e≤b∧i≤mid∧mid≤e:=by omega
    have w5:IntKind.i64.wrap ((n:Int)-(i:Int))=(e:Int):=by rw [IntKind.wrap_i64];omega
    have SP:=Sym.split (zbl x0) (p:=p) (a:=a) (m:=m) (b:=b) (s:=i) (e:=e) (mid:=mid) HS1.out HS2.out hie hae.1 hae.2.1 hae.2.2.1 hae.2.2.2.1 (fun h3 h4=>by
     rcases HL.out with h5 | h5
     ·omega
     ·rw [← he] at h5;exact h5) (fun h3 h4=>by
     rcases HR.out with h5 | h5
     ·omega
     ·rw [show P-i=e-1 by omega] at h5;exact h5)
    obtain ⟨q0,hq0⟩:∃ q0:Nat→Nat,q0=fun k=>p (Sym.rot i m e k):=⟨_,rfl⟩;have HQ0:=hid hq0;rw [← hq0] at SP;have HSa:=hid SP.1;have HSb:=hid SP.2.1;have HSc:=hid SP.2.2.1;have HSd:=hid SP.2.2.2.1;have HX:Hid (∀ x y,a≤x→x<mid→mid≤y→y<b→numL x0 (q0 x) (q0 y)):=(fun x y h3 h4 h5 h6=>by rw [hq0];exact SP.2.2.2.2 x y h3 h4 h5 h6:∀ x y,a≤x→x<mid→mid≤y→y<b→numL x0 (q0 x) (q0 y));have HRe0:Hid (Sym.Re a b p q0):=(by rw [hq0];exact (Sym.Re.rots p hae.2.1 hae.2.2.1).mono hae.1 hae.2.2.2.1:Sym.Re a b p q0);have HO:Hid (a≤mid∧mid≤b∧b≤N∧mid≤N∧a<mid∧mid<b∧e≤N):=⟨by omega,by omega,by omega,by omega,by omega,by omega,by omega⟩
    have HT2:Hid (∀ x y,a≤x→x<i→i≤y→y<mid→q0 x<q0 y):=(fun x y h3 h4 h5 h6=>by
     have h7:=rot_c (e:=e) hie hae.2.1 hae.2.2.1 h5 h6;rw [hq0]
     show p (Sym.rot i m e x)<p (Sym.rot i m e y)
     rw [rot_a h4]
     exact HT.out x _ h3 (by omega) h7.1 (by omega):∀ x y,a≤x→x<i→i≤y→y<mid→q0 x<q0 y)
    have HT3':Hid (∀ q1,Sym.Re a mid q0 q1→∀ x y,mid≤x→x<e→e≤y→y<b→q1 x<q1 y):=(fun q1 k x y h3 h4 h5 h6=>by
     have h7:=rot_d (e:=e) hie hae.2.1 hae.2.2.1 h3 h4;rw [k.out (.inr h3),k.out (.inr (by omega)),hq0]
     show p (Sym.rot i m e x)<p (Sym.rot i m e y)
     rw [rot_b h5]
     exact HT.out _ y (by omega) h7.2 (by omega) h6:∀ q1,Sym.Re a mid q0 q1→∀ x y,mid≤x→x<e→e≤y→y<b→q1 x<q1 y)
    have HT3:∀ {q1},Sym.Re a mid q0 q1→∀ x y,mid≤x→x<e→e≤y→y<b→q1 x<q1 y:=fun k=>HT3'.out _ k;have HL3:∀ {q1},Sym.Re a mid q0 q1→Sym.Srt (numL x0) q1 mid e:=fun k=>HSc.out.congr (fun x h3 h4=>k.out (.inr h3));have HL4:∀ {q1},Sym.Re a mid q0 q1→Sym.Srt (numL x0) q1 e b:=fun k=>HSd.out.congr (fun x h3 h4=>k.out (.inr (by omega)))
    have HN1:¬ (i<m∧m<e)→∀ x,p (Sym.rot i m e x)=p x:=fun h x=>by
     by_cases h3:i=m
     ·rw [h3,zjU]
     ·have h4:e=m:=by omega
      rw [h4,zjV]
    have HN2:¬ (a<i∧i<mid)→Sym.Srt (numL x0) q0 a mid:=fun h=>by
     by_cases h3:a=i
     ·rw [h3];exact HSb.out
     ·have h4:mid=i:=by omega
      rw [h4];exact HSa.out
    have HN3:∀ {q1},Sym.Re a mid q0 q1→¬ (mid<e∧e<b)→Sym.Srt (numL x0) q1 mid b:=fun k h=>by
     by_cases h3:mid=e
     ·rw [h3];rw [h3] at k;exact HSd.out.congr (fun x h3 h4=>k.out (.inr h3))
     ·have h4:b=e:=by omega
      rw [h4];exact HL3 k
    clear hF hNN hMID SP hq0 he
    rcases zjT (i<m) (m<e) with h | h | h
    all_goals first
     | (
      have HK1:=hid h;have f1:=dT h.1;have g1:=dN h.1;have u1:(i:Int)<(m:Int):=Int.ofNat_lt.mpr h.1;have f1b:=dT h.2;have g1b:=dN h.2;have u1b:(m:Int)<(e:Int):=Int.ofNat_lt.mpr h.2;clear h;have CS:=zhV x0 enc p N blk cap lo hi wr HV.out hlo hN i m e (.func (.func 72) #[] #[]) HK1.out.1 HK1.out.2 (by have h9:=HO.out;omega)
      go_wp2_with fail
      refine CS.mono ?_;rintro ee wv ⟨rfl,V6,C6⟩;have HV1:Hid (RowsV x0 enc N blk cap lo hi wv q0):=(by rw [HQ0.out];exact V6:RowsV x0 enc N blk cap lo hi wv q0);have HC1:=hid (HC.out.trans C6)
      clear V6 C6 CS)
     | (
      have HK1:Hid (¬ (i<m∧m<e)):=fun k=>h.2 k.2;have f1:=dT h.1;have g1:=dN h.1;have u1:(i:Int)<(m:Int):=Int.ofNat_lt.mpr h.1;have f1b:=dF h.2;have g1b:=dM h.2;clear h;obtain ⟨wv,rfl⟩:∃ y,y=wr:=⟨_,rfl⟩;have HV1:Hid (RowsV x0 enc N blk cap lo hi wv q0):=(HV.out.same (fun x _=>by rw [HQ0.out];exact (HN1 HK1.out x).symm):RowsV x0 enc N blk cap lo hi wv q0)
      have HC1:Hid (ChgL [blk] w wv):=HC.out)
     | (
      have HK1:Hid (¬ (i<m∧m<e)):=fun k=>h k.1;have f1:=dF h;have g1:=dM h;clear h;obtain ⟨wv,rfl⟩:∃ y,y=wr:=⟨_,rfl⟩;have HV1:Hid (RowsV x0 enc N blk cap lo hi wv q0):=(HV.out.same (fun x _=>by rw [HQ0.out];exact (HN1 HK1.out x).symm):RowsV x0 enc N blk cap lo hi wv q0)
      have HC1:Hid (ChgL [blk] w wv):=HC.out)
    all_goals rcases zjT (a<i) (i<mid) with h | h | h
    all_goals first
     | (
      have HK2:=hid h;have f2:=dT h.1;have g2:=dN h.1;have u2:(a:Int)<(i:Int):=Int.ofNat_lt.mpr h.1;have f2b:=dT h.2;have g2b:=dN h.2;have u2b:(i:Int)<(mid:Int):=Int.ofNat_lt.mpr h.2;clear h;have CS:=HIH.out q0 wv a i mid (by have h9:=HO.out;omega) HV1.out HK2.out.1 HK2.out.2 HO.out.2.2.2.1 HT2.out HSa.out HSb.out
      go_wp2_with fail
      refine CS.mono ?_;rintro ee wz ⟨rfl,q1,Vq,hRe1,hSo1,C7⟩;have HVq:=hid Vq;have HRe1:=hid hRe1;have HSo1:=hid hSo1;have HCq:=hid (HC1.out.trans C7)
      clear Vq hRe1 hSo1 C7 CS)
     | (
      have HK2:Hid (¬ (a<i∧i<mid)):=fun k=>h.2 k.2;have f2:=dT h.1;have g2:=dN h.1;have u2:(a:Int)<(i:Int):=Int.ofNat_lt.mpr h.1;have f2b:=dF h.2;have g2b:=dM h.2;clear h;obtain ⟨wz,rfl⟩:∃ y,y=wv:=⟨_,rfl⟩;obtain ⟨q1,hq1⟩:∃ q1,q1=q0:=⟨_,rfl⟩;have HVq:Hid (RowsV x0 enc N blk cap lo hi wz q1):=(by rw [hq1];exact HV1.out:RowsV x0 enc N blk cap lo hi wz q1);have HRe1:Hid (Sym.Re a mid q0 q1):=(by rw [hq1];exact Sym.Re.refl _ _ _:Sym.Re a mid q0 q1);have HSo1:Hid (Sym.Srt (numL x0) q1 a mid):=(by rw [hq1];exact HN2 HK2.out:Sym.Srt (numL x0) q1 a mid);have HCq:=hid HC1.out
      clear hq1)
     | (
      have HK2:Hid (¬ (a<i∧i<mid)):=fun k=>h k.1;have f2:=dF h;have g2:=dM h;clear h;obtain ⟨wz,rfl⟩:∃ y,y=wv:=⟨_,rfl⟩;obtain ⟨q1,hq1⟩:∃ q1,q1=q0:=⟨_,rfl⟩;have HVq:Hid (RowsV x0 enc N blk cap lo hi wz q1):=(by rw [hq1];exact HV1.out:RowsV x0 enc N blk cap lo hi wz q1);have HRe1:Hid (Sym.Re a mid q0 q1):=(by rw [hq1];exact Sym.Re.refl _ _ _:Sym.Re a mid q0 q1);have HSo1:Hid (Sym.Srt (numL x0) q1 a mid):=(by rw [hq1];exact HN2 HK2.out:Sym.Srt (numL x0) q1 a mid);have HCq:=hid HC1.out
      clear hq1)
    all_goals rcases zjT (mid<e) (e<b) with h | h | h
    all_goals first
     | (
      have HK3:=hid h;have f3:=dT h.1;have g3:=dN h.1;have u3:(mid:Int)<(e:Int):=Int.ofNat_lt.mpr h.1;have f3b:=dT h.2;have g3b:=dN h.2;have u3b:(e:Int)<(b:Int):=Int.ofNat_lt.mpr h.2;clear h;have CS:=HIH.out q1 wz mid e b (by have h9:=HO.out;omega) HVq.out HK3.out.1 HK3.out.2 HO.out.2.2.1 (HT3 HRe1.out) (HL3 HRe1.out) (HL4 HRe1.out)
      go_wp2_with fail
      refine CS.mono ?_;rintro ee wx ⟨rfl,r,Vr,hRe2,hSo2,C9⟩;have HVr:=hid Vr;have HRe2:=hid hRe2;have HSo2:=hid hSo2;have HCr:=hid (HCq.out.trans C9)
      clear Vr hRe2 hSo2 C9 CS)
     | (
      have HK3:Hid (¬ (mid<e∧e<b)):=fun k=>h.2 k.2;have f3:=dT h.1;have g3:=dN h.1;have u3:(mid:Int)<(e:Int):=Int.ofNat_lt.mpr h.1;have f3b:=dF h.2;have g3b:=dM h.2;clear h;obtain ⟨wx,rfl⟩:∃ y,y=wz:=⟨_,rfl⟩;obtain ⟨r,hr⟩:∃ r,r=q1:=⟨_,rfl⟩;have HVr:Hid (RowsV x0 enc N blk cap lo hi wx r):=(by rw [hr];exact HVq.out:RowsV x0 enc N blk cap lo hi wx r);have HRe2:Hid (Sym.Re mid b q1 r):=(by rw [hr];exact Sym.Re.refl _ _ _:Sym.Re mid b q1 r);have HSo2:Hid (Sym.Srt (numL x0) r mid b):=(by rw [hr];exact HN3 HRe1.out HK3.out:Sym.Srt (numL x0) r mid b);have HCr:=hid HCq.out
      clear hr)
     | (
      have HK3:Hid (¬ (mid<e∧e<b)):=fun k=>h k.1;have f3:=dF h;have g3:=dM h;clear h;obtain ⟨wx,rfl⟩:∃ y,y=wz:=⟨_,rfl⟩;obtain ⟨r,hr⟩:∃ r,r=q1:=⟨_,rfl⟩;have HVr:Hid (RowsV x0 enc N blk cap lo hi wx r):=(by rw [hr];exact HVq.out:RowsV x0 enc N blk cap lo hi wx r);have HRe2:Hid (Sym.Re mid b q1 r):=(by rw [hr];exact Sym.Re.refl _ _ _:Sym.Re mid b q1 r);have HSo2:Hid (Sym.Srt (numL x0) r mid b):=(by rw [hr];exact HN3 HRe1.out HK3.out:Sym.Srt (numL x0) r mid b);have HCr:=hid HCq.out
      clear hr)
    all_goals
     go_wp2
     go_end0
     have hl:=Sym.halves HO.out.1 HO.out.2.1 HX.out HRe1.out HRe2.out HSo1.out HSo2.out;exact ⟨rfl,_,HVr.out,HRe0.out.trans hl.2,hl.1,HCr.out⟩
theorem zeX (x0:Nat→RecD) (enc:Nat→List Value) (N blk cap lo hi:Nat) (hlo:hi≤lo) (hN:N<1000000000):∀ (n:Nat) (p:Nat→Nat) (w:World) (a m b:Nat),b-a≤n→RowsV x0 enc N blk cap lo hi w p→a<m→m<b→b≤N→(∀ i j,a≤i→i<m→m≤j→j<b→p i<p j)→Sym.Srt (numL x0) p a m→Sym.Srt (numL x0) p m b→Calls Tryz.prog 135 #[.slice (some ⟨blk,0,none⟩) N cap,.int .i64 a,.int .i64 m,.int .i64 b,.func (.func 72) #[] #[]] w (fun e w'=>e=.returned (.tuple #[])∧∃ q,RowsV x0 enc N blk cap lo hi w' q∧Sym.Re a b p q∧Sym.Srt (numL x0) q a b∧ChgL [blk] w w')
 | 0,p,w,a,m,b,h,V,ham,hmb,hb,ht,h1,h2=>by omega
 | n+1,p,w,a,m,b,h,V,ham,hmb,hb,ht,h1,h2=>by
  have IH:∀ (p':Nat→Nat) (w':World) (a' m' b':Nat),b'-a'<b-a→RowsV x0 enc N blk cap lo hi w' p'→a'<m'→m'<b'→b'≤N→(∀ i j,a'≤i→i<m'→m'≤j→j<b'→p' i<p' j)→Sym.Srt (numL x0) p' a' m'→Sym.Srt (numL x0) p' m' b'→Calls Tryz.prog 135 #[.slice (some ⟨blk,0,none⟩) N cap,.int .i64 a',.int .i64 m',.int .i64 b',.func (.func 72) #[] #[]] w' (fun e w''=>e=.returned (.tuple #[])∧∃ q,RowsV x0 enc N blk cap lo hi w'' q∧Sym.Re a' b' p' q∧Sym.Srt (numL x0) q a' b'∧ChgL [blk] w' w''):=fun p' w' a' m' b' h' V'=>zeX x0 enc N blk cap lo hi hlo hN n p' w' a' m' b' (by omega) V'
  by_cases c1:m=a+1
  ·exact zh3 x0 enc p N blk cap lo hi w V hlo hN a m b ham hmb hb ht h1 h2 c1
  ·by_cases c2:b=m+1
   ·exact zh4 x0 enc p N blk cap lo hi w V hlo hN a m b ham hmb hb ht h1 h2 c1 c2
   ·by_cases c3:(a+b)/2<m
    ·exact zeW x0 enc p N blk cap lo hi w V hlo hN a m b _ ham hmb hb ht h1 h2 c1 c2 rfl (.inl c3) IH
    ·exact zeW x0 enc p N blk cap lo hi w V hlo hN a m b _ ham hmb hb ht h1 h2 c1 c2 rfl (.inr (by omega)) IH
theorem zdQ (x0:Nat→RecD) (enc:Nat→List Value) (p:Nat→Nat) (N blk cap lo hi:Nat) (w:World) (V:RowsV x0 enc N blk cap lo hi w p) (hlo:hi≤lo) (hN:N<1000000000) (a m b:Nat) (ham:a<m) (hmb:m<b) (hb:b≤N) (htag:∀ i j,a≤i→i<m→m≤j→j<b→p i<p j) (hs1:Sym.Srt (numL x0) p a m) (hs2:Sym.Srt (numL x0) p m b):Calls Tryz.prog 135 #[.slice (some ⟨blk,0,none⟩) N cap,.int .i64 a,.int .i64 m,.int .i64 b,.func (.func 72) #[] #[]] w (fun e w'=>e=.returned (.tuple #[])∧∃ q,RowsV x0 enc N blk cap lo hi w' q∧Sym.Re a b p q∧Sym.Srt (numL x0) q a b∧ChgL [blk] w w'):=zeX x0 enc N blk cap lo hi hlo hN (b-a) p w a m b (Nat.le_refl _) V ham hmb hb htag hs1 hs2
structure Good (lt:Nat→Nat→Prop) (q:Nat→Nat) (a b:Nat):Prop where
 srt:Sym.Srt lt q a b
 own:∀ i,a≤i→i<b→a≤q i∧q i<b
theorem Good.congr {lt:Nat→Nat→Prop} {q q':Nat→Nat} {a b:Nat} (h:Good lt q a b) (e:∀ i,a≤i→i<b→q' i=q i):Good lt q' a b:=⟨h.srt.congr e,fun i h1 h2=>by rw [e i h1 h2];exact h.own i h1 h2⟩
inductive Blks (lt:Nat→Nat→Prop) (q:Nat→Nat) (s N:Nat):Nat→Prop
 | nil {a:Nat} (h:N≤a):Blks lt q s N a
 | cons {a:Nat} (h:a<N) (g:Good lt q a (min (a+s) N)) (r:Blks lt q s N (a+s)):Blks lt q s N a
theorem Blks.congr {lt:Nat→Nat→Prop} {q q':Nat→Nat} {s N a:Nat} (h:Blks lt q s N a) (e:∀ i,a≤i→q' i=q i):Blks lt q' s N a:=by
 induction h with
 | nil h=>exact .nil h
 | cons h g r ih=>exact .cons h (g.congr fun i h1 _=>e i h1) (ih fun i h1=>e i (by omega))
inductive Done (lt:Nat→Nat→Prop) (q:Nat→Nat) (s:Nat):Nat→Prop
 | zero:Done lt q s 0
 | snoc {a:Nat} (r:Done lt q s a) (g:Good lt q a (a+s)):Done lt q s (a+s)
theorem Done.congr {lt:Nat→Nat→Prop} {q q':Nat→Nat} {s a:Nat} (h:Done lt q s a) (e:∀ i,i<a→q' i=q i):Done lt q' s a:=by
 induction h with
 | zero=>exact .zero
 | snoc r g ih=>exact .snoc (ih fun i h1=>e i (by omega)) (g.congr fun i _ h2=>e i h2)
theorem Done.app {lt:Nat→Nat→Prop} {q:Nat→Nat} {s N a:Nat} (hs:0<s) (h:Done lt q s a) (hN:a≤N) (b:Blks lt q s N a):Blks lt q s N 0:=by
 induction h with
 | zero=>exact b
 | snoc r g ih=>exact ih (by omega) (.cons (by omega) (by rw [Nat.min_eq_left hN];exact g) b)
theorem Blks.last {lt:Nat→Nat→Prop} {q:Nat→Nat} {s N a:Nat} (g:Good lt q a N) (h:N≤a+s):Blks lt q s N a:=by
 by_cases c:a<N
 ·exact .cons c (by rw [Nat.min_eq_right h];exact g) (.nil h)
 ·exact .nil (by omega)
theorem Blks.all {lt:Nat→Nat→Prop} {q:Nat→Nat} {s N:Nat} (h:Blks lt q s N 0) (hs:N≤s):Sym.Srt lt q 0 N:=by
 cases h with
 | nil h=>exact fun i j _ _ h3=>by omega
 | cons h g r=>
  have:=g.srt;rw [Nat.min_eq_right (by omega)] at this;exact this
theorem Blks.open {lt:Nat→Nat→Prop} {q:Nat→Nat} {s N a:Nat} (h:Blks lt q s N a) (ha:a<N):Good lt q a (min (a+s) N)∧Blks lt q s N (a+s):=by
 cases h with
 | nil h=>omega
 | cons h g r=>exact ⟨g,r⟩
theorem Good.merged {lt:Nat→Nat→Prop} {q q':Nat→Nat} {a m b:Nat} (g1:Good lt q a m) (g2:Good lt q m b) (am:a≤m) (mb:m≤b) (k:Sym.Re a b q q') (s:Sym.Srt lt q' a b):Good lt q' a b:=⟨s,fun i h1 h2=>by
 obtain ⟨j,hj,e⟩:=k.from ⟨h1,h2⟩
 rw [e]
 by_cases c:j<m
 ·have:=g1.own j hj.1 c
  omega
 ·have:=g2.own j (by omega) hj.2
  omega⟩
theorem Good.tags {lt:Nat→Nat→Prop} {q:Nat→Nat} {a m b:Nat} (g1:Good lt q a m) (g2:Good lt q m b):∀ i j,a≤i→i<m→m≤j→j<b→q i<q j:=fun i j h1 h2 h3 h4=>by
 have:=g1.own i h1 h2;have:=g2.own j h3 h4;omega
theorem Good.fresh {lt:Nat→Nat→Prop} {q q':Nat→Nat} {a b:Nat} (e:∀ i,a≤i→q i=i) (k:Sym.Re a b q q') (s:Sym.Srt lt q' a b):Good lt q' a b:=⟨s,fun i h1 h2=>by
 obtain ⟨j,hj,e1⟩:=k.from ⟨h1,h2⟩
 rw [e1,e j hj.1]
 exact hj⟩
set_option maxRecDepth 1000000 in
theorem zh5 (x0:Nat→RecD) (enc:Nat→List Value) (N blk cap lo hi:Nat) (w:World) (V:RowsV x0 enc N blk cap lo hi w (fun i=>i)) (hlo:hi≤lo) (hN:N<1000000000) :
 Calls Tryz.prog 109 #[.slice (some ⟨blk,0,none⟩) N cap,.int .i64 N,.func (.func 72) #[] #[]] w (fun e w'=>e=.returned (.tuple #[])∧∃ q,RowsV x0 enc N blk cap lo hi w' q∧Sym.Re 0 N (fun i=>i) q∧Sym.Srt (numL x0) q 0 N∧ChgL [blk] w w'):=by
 have HV0:Hid (RowsV x0 enc N blk cap lo hi w (fun i=>i)):=V;clear V
 go_enter Tryz.func109,Tryz.ntmps109
 go_wp2
 go_loopw [7,8] (fun va vb wr=>∃ (a B:Nat) (q:Nat→Nat),B=a+20∧a≤N∧va=.int .i64 a∧vb=.int .i64 B∧RowsV x0 enc N blk cap lo hi wr q∧Done (numL x0) q 20 a∧(∀ i,a≤i→q i=i)∧Sym.Re 0 N (fun i=>i) q∧ChgL [blk] w wr) (fun va _ _=>N-(intOf va).toNat)
 case atStart=>exact ⟨0,20,(fun i=>i),rfl,Nat.zero_le _,by go_num,by go_num,HV0.out,.zero,fun i _=>rfl,Sym.Re.refl _ _ _,ChgL.refl _ _⟩
 case round=>
  obtain ⟨a,B,q,hB,haN,rfl,rfl,V,hD,hid,hRe,C⟩:=hrel;have HC:Hid (ChgL [blk] w wr):=C;have HD:Hid (Done (numL x0) q 20 a):=hD;have HI:Hid (∀ i,a≤i→q i=i):=hid;have HRe:Hid (Sym.Re 0 N (fun i=>i) q):=hRe;have HB:Hid (B=a+20):=hB;clear C hD hid hRe
  have w1:IntKind.i64.wrap ((B:Int)+20)=((B+20:Nat):Int):=by rw [IntKind.wrap_i64];omega
  by_cases hlt:B≤N
  ·have t1:(B:Int)≤(N:Int):=by omega
   have CS:=zdt x0 enc q N blk cap lo hi wr V hlo hN a B (by omega) hlt (fun i j h1 h2 h3=>by rw [HI.out i h1,HI.out j (by omega)];exact h2);clear V hB
   go_wp2_with fail
   refine CS.mono ?_;rintro ee w2 ⟨rfl,q2,V2,hRe2,hS2,C2⟩;have HV2:Hid (RowsV x0 enc N blk cap lo hi w2 q2):=V2;have HRe2:Hid (Sym.Re a B q q2):=hRe2;have HS2:Hid (Sym.Srt (numL x0) q2 a B):=hS2;have HC2:Hid (ChgL [blk] w w2):=HC.out.trans C2;clear V2 hRe2 hS2 C2 CS;go_wp2
   go_roundw
   case rel=>
    have hB:=HB.out;have hk:=HRe2.out;exact ⟨B,B+20,q2,rfl,hlt,rfl,by go_num,HV2.out,by rw [hB] at hk ⊢;exact .snoc (HD.out.congr fun i h1=>hk.out (.inl h1)) (Good.fresh HI.out hk (by rw [← hB];exact HS2.out)),fun i h1=>by rw [hk.out (.inr h1)];exact HI.out i (by omega),HRe.out.trans (hk.mono (Nat.zero_le _) hlt),HC2.out⟩
   case measure=>have hB:=HB.out;simp [intOf];omega
  ·have HNL:Hid (¬ B≤N):=hlt
   have f1:decide ((B:Int)≤(N:Int))=false:=decide_eq_false (by omega);have g1:decide (B≤N)=false:=decide_eq_false hlt;have CS:=zdt x0 enc q N blk cap lo hi wr V hlo hN a N haN (Nat.le_refl _) (fun i j h1 h2 h3=>by rw [HI.out i h1,HI.out j (by omega)];exact h2);clear V hB w1 hlt
   go_wp2_with fail
   refine CS.mono ?_;rintro ee w2 ⟨rfl,q2,V2,hRe2,hS2,C2⟩;have HV2:Hid (RowsV x0 enc N blk cap lo hi w2 q2):=V2;have HRe2:Hid (Sym.Re a N q q2):=hRe2;have HS2:Hid (Sym.Srt (numL x0) q2 a N):=hS2;have HC2:Hid (ChgL [blk] w w2):=HC.out.trans C2;clear V2 hRe2 hS2 C2 CS;have HBl:Hid (Blks (numL x0) q2 20 N 0):=Done.app (by decide) (HD.out.congr fun i h1=>HRe2.out.out (.inl h1)) haN (Blks.last (Good.fresh HI.out HRe2.out HS2.out) (by have h1:=HB.out;have h2:=HNL.out;omega));have HReN:Hid (Sym.Re 0 N (fun i=>i) q2):=HRe.out.trans (HRe2.out.mono (Nat.zero_le _) (Nat.le_refl _));clear HD HI HRe HRe2 HS2 HC HNL HB f1 g1;go_wp2
   go_loopw [6] (fun vs wr=>∃ (s:Nat) (q:Nat→Nat),20≤s∧s<2000000000∧vs=.int .i64 s∧RowsV x0 enc N blk cap lo hi wr q∧Blks (numL x0) q s N 0∧Sym.Re 0 N (fun i=>i) q∧ChgL [blk] w wr) (fun vs _=>N-(intOf vs).toNat)
   case atStart=>exact ⟨20,q2,Nat.le_refl _,by decide,by go_num,HV2.out,HBl.out,HReN.out,HC2.out⟩
   case round=>
    obtain ⟨s,q3,hs20,hs2,rfl,V,hBl,hRe,C⟩:=hrel;have HVs:Hid (RowsV x0 enc N blk cap lo hi wr q3):=V;have HCs:Hid (ChgL [blk] w wr):=C;have HBs:Hid (Blks (numL x0) q3 s N 0):=hBl;have HRes:Hid (Sym.Re 0 N (fun i=>i) q3):=hRe;clear C hBl hRe V HV2 HBl HReN HC2
    by_cases hlt:s<N
    ·have t2:(s:Int)<(N:Int):=by omega
     obtain ⟨T,hT⟩:∃ T,T=2*s:=⟨_,rfl⟩;have HT:Hid (T=2*s):=hT
     have w2:IntKind.i64.wrap (2*(s:Int))=(T:Int):=by rw [IntKind.wrap_i64];omega
     have w3:IntKind.i64.wrap ((s:Int)*2)=(T:Int):=by rw [IntKind.wrap_i64];omega
     clear hT;go_wp2
     go_loopw [7,8] (fun va vb wr=>∃ (a B:Nat) (q:Nat→Nat),B=a+T∧a≤N∧va=.int .i64 a∧vb=.int .i64 B∧RowsV x0 enc N blk cap lo hi wr q∧Done (numL x0) q T a∧Blks (numL x0) q s N a∧Sym.Re 0 N (fun i=>i) q∧ChgL [blk] w wr) (fun va _ _=>N-(intOf va).toNat)
     case atStart=>exact ⟨0,T,q3,by omega,Nat.zero_le _,by go_num,by go_num,HVs.out,.zero,HBs.out,HRes.out,HCs.out⟩
     case round=>
      obtain ⟨a,B,q4,hB,haN,rfl,rfl,V,hD,hBl,hRe,C⟩:=hrel;have hT:=HT.out;have HC:Hid (ChgL [blk] w wr):=C;have HD:Hid (Done (numL x0) q4 T a):=hD;have HBl:Hid (Blks (numL x0) q4 s N a):=hBl;have HRe:Hid (Sym.Re 0 N (fun i=>i) q4):=hRe;have HB:Hid (B=a+T):=hB;have HV4:Hid (RowsV x0 enc N blk cap lo hi wr q4):=V;clear C hD hBl hRe HVs HBs HRes HCs V;obtain ⟨M,hM⟩:∃ M,M=a+s:=⟨_,rfl⟩;have HM:Hid (M=a+s):=hM
      have w4:IntKind.i64.wrap ((a:Int)+(s:Int))=(M:Int):=by rw [IntKind.wrap_i64];omega
      have w5:IntKind.i64.wrap ((B:Int)+(T:Int))=((B+T:Nat):Int):=by rw [IntKind.wrap_i64];omega
      by_cases hle:B≤N
      ·have t3:(B:Int)≤(N:Int):=by omega
       have o1:=HBl.out.open (by omega);rw [← hM] at o1;have o2:=o1.2.open (by omega);rw [Nat.min_eq_left (by omega)] at o1;rw [show M+s=B by omega,Nat.min_eq_left hle] at o2;have HG1:Hid (Good (numL x0) q4 a M):=o1.1;have HG2:Hid (Good (numL x0) q4 M B):=o2.1;have HBr:Hid (Blks (numL x0) q4 s N B):=o2.2;have CS:=zdQ x0 enc q4 N blk cap lo hi wr HV4.out hlo hN a M B (by omega) (by omega) hle (HG1.out.tags HG2.out) HG1.out.srt HG2.out.srt;clear o1 o2 hB hM hT
       go_wp2_with fail
       refine CS.mono ?_;rintro ee w9 ⟨rfl,q5,V2,hRe2,hS2,C2⟩;have HV2:Hid (RowsV x0 enc N blk cap lo hi w9 q5):=V2;have HRe2:Hid (Sym.Re a B q4 q5):=hRe2;have HS2:Hid (Sym.Srt (numL x0) q5 a B):=hS2;have HC2:Hid (ChgL [blk] w w9):=HC.out.trans C2;clear V2 hRe2 hS2 C2 CS;go_wp2
       go_roundw
       case rel=>
        have hB:=HB.out;have hM:=HM.out;have hT:=HT.out;have hk:=HRe2.out
        exact ⟨B,B+T,q5,rfl,hle,rfl,by go_num,HV2.out,by
         have g:=HG1.out.merged HG2.out (by omega) (by omega) hk HS2.out;rw [hB] at hk g ⊢
         exact .snoc (HD.out.congr fun i h1=>hk.out (.inl h1)) g,HBr.out.congr (fun i h1=>hk.out (.inr h1)),HRe.out.trans (hk.mono (Nat.zero_le _) hle),HC2.out⟩
       case measure=>have hB:=HB.out;have hT:=HT.out;simp [intOf];omega
      ·have HNL:Hid (¬ B≤N):=hle
       have f1:decide ((B:Int)≤(N:Int))=false:=decide_eq_false (by omega);have g1:decide (B≤N)=false:=decide_eq_false hle
       by_cases hm:M<N
       ·have t3:(M:Int)<(N:Int):=by omega
        have o1:=HBl.out.open (by omega);rw [← hM] at o1;have o2:=o1.2.open (by omega);rw [Nat.min_eq_left (by omega)] at o1;rw [Nat.min_eq_right (by omega)] at o2;have HG1:Hid (Good (numL x0) q4 a M):=o1.1;have HG2:Hid (Good (numL x0) q4 M N):=o2.1;have CS:=zdQ x0 enc q4 N blk cap lo hi wr HV4.out hlo hN a M N (by omega) hm (Nat.le_refl _) (HG1.out.tags HG2.out) HG1.out.srt HG2.out.srt;clear o1 o2 hB hM hT hle
        go_wp2_with fail
        refine CS.mono ?_;rintro ee w9 ⟨rfl,q5,V2,hRe2,hS2,C2⟩;have HV2:Hid (RowsV x0 enc N blk cap lo hi w9 q5):=V2;have HRe2:Hid (Sym.Re a N q4 q5):=hRe2;have HS2:Hid (Sym.Srt (numL x0) q5 a N):=hS2;have HC2:Hid (ChgL [blk] w w9):=HC.out.trans C2;clear V2 hRe2 hS2 C2 CS;go_wp2
        go_roundw
        case rel=>
         have hB:=HB.out;have hM:=HM.out;have hT:=HT.out;have hNL:=HNL.out;have hk:=HRe2.out;exact ⟨T,q5,by omega,by omega,by go_num,HV2.out,Done.app (by omega) (HD.out.congr fun i h1=>hk.out (.inl h1)) haN (Blks.last (HG1.out.merged HG2.out (by omega) (by omega) hk HS2.out) (by omega)),HRe.out.trans (hk.mono (Nat.zero_le _) (Nat.le_refl _)),HC2.out⟩
        case measure=>have hT:=HT.out;simp [intOf];omega
       ·have f2:decide ((M:Int)<(N:Int))=false:=decide_eq_false (by omega)
        have g2:decide (M<N)=false:=decide_eq_false hm
        have HBT:Hid (Blks (numL x0) q4 T N a):=(by
         by_cases c:a<N
         ·have o1:=(HBl.out.open c).1
          rw [Nat.min_eq_right (by omega)] at o1;exact Blks.last o1 (by omega)
         ·exact .nil (by omega):Blks (numL x0) q4 T N a)
        clear hB hM hT hle hm;go_wp2
        go_roundw
        case rel=>have hT:=HT.out;exact ⟨T,q4,by omega,by omega,by go_num,HV4.out,Done.app (by omega) HD.out haN HBT.out,HRe.out,HC.out⟩
        case measure=>have hT:=HT.out;simp [intOf];omega
    ·have f2:decide ((s:Int)<(N:Int))=false:=decide_eq_false (by omega)
     have g2:decide (s<N)=false:=decide_eq_false hlt;have HNL:Hid (N≤s):=(by omega:N≤s);clear hlt;go_wp2
     go_end0
     exact ⟨rfl,q3,HVs.out,HRes.out,HBs.out.all HNL.out,HCs.out⟩
set_option maxRecDepth 1000000 in
theorem zeI (x0:Nat→RecD) (enc:Nat→List Value) (N blk cap lo hi:Nat) (w:World) (V:RowsV x0 enc N blk cap lo hi w (fun i=>i)) (hlo:hi≤lo) (hN:N<1000000000) :
 Calls Tryz.prog 71 #[.slice (some ⟨blk,0,none⟩) N cap,.func (.func 72) #[] #[]] w (fun e w'=>e=.returned (.tuple #[])∧∃ q,RowsV x0 enc N blk cap lo hi w' q∧Sym.Re 0 N (fun i=>i) q∧Sym.Srt (numL x0) q 0 N∧ChgL [blk] w w'):=by
 have CS:=zh5 x0 enc N blk cap lo hi w V hlo hN;clear V
 go_enter Tryz.func71,Tryz.ntmps71
 go_wp2_with fail
 refine CS.mono ?_;rintro ee w2 ⟨rfl,q,V2,hRe,hS,C⟩;have HV2:=hid V2;have HRe:=hid hRe;have HS:=hid hS;have HC:=hid C;clear V2 hRe hS C CS;go_wp2
 go_end0
 exact ⟨rfl,q,HV2.out,HRe.out,HS.out,HC.out⟩
set_option maxRecDepth 1000000 in
theorem zfa (w:World):Calls Tryz.prog 134 #[.slice none 0 0,.int .i64 0,.int .i64 0,.func (.func 72) #[] #[]] w (fun e w'=>e=.returned (.tuple #[])∧Below w.heap.size w w'):=by
 go_enter Tryz.func134,Tryz.ntmps134
 go_wp2
 go_loopw [8] (fun vi wr=>vi=.int .i64 1∧Below w.heap.size w wr) (fun _ _=>0)
 case atStart=>exact ⟨by go_num,⟨rfl,rfl,rfl,Nat.le_refl _,fun _ _=>rfl⟩⟩
 case round=>
  obtain ⟨rfl,hb⟩:=hrel;go_wp2
  go_end0
  exact ⟨rfl,hb⟩
set_option maxRecDepth 1000000 in
theorem zh6 (w:World):Calls Tryz.prog 109 #[.slice none 0 0,.int .i64 0,.func (.func 72) #[] #[]] w (fun e w'=>e=.returned (.tuple #[])∧Below w.heap.size w w'):=by
 have CS:=zfa w
 go_enter Tryz.func109,Tryz.ntmps109
 go_wp2
 go_loopw [7,8] (fun va vb wr=>va=.int .i64 0∧vb=.int .i64 20∧wr=w) (fun _ _ _=>0)
 case atStart=>exact ⟨by go_num,by go_num,rfl⟩
 case round=>
  obtain ⟨rfl,rfl,rfl⟩:=hrel
  go_wp2_with fail
  refine CS.mono ?_;rintro ee w2 ⟨rfl,hb⟩;have HB:=hid hb;clear hb CS;go_wp2
  go_loopw [6] (fun vs w'=>vs=.int .i64 20∧Below wr.heap.size wr w') (fun _ _=>0)
  case atStart=>exact ⟨by go_num,HB.out⟩
  case round=>
   obtain ⟨rfl,hb⟩:=hrel;go_wp2
   go_end0
   exact ⟨rfl,hb⟩
set_option maxRecDepth 1000000 in
theorem zeJ (w:World):Calls Tryz.prog 71 #[.slice none 0 0,.func (.func 72) #[] #[]] w (fun e w'=>e=.returned (.tuple #[])∧Below w.heap.size w w'):=by
 have CS:=zh6 w
 go_enter Tryz.func71,Tryz.ntmps71
 go_wp2_with fail
 refine CS.mono ?_;rintro ee w2 ⟨rfl,hb⟩;go_wp2
 go_end0
 exact ⟨rfl,hb⟩
theorem zdu:(Tryz.prog.info? 92).map (·.size)=some 9:=by kernel_rfl
set_option maxRecDepth 100000 in
theorem zh7 (a r:RecD) (ca cr:List Value) (hi p:Nat) (w:World) (ha:zab.rd w hi a ca) (hr:zab.rd w hi r cr) (hB:Box w p cr.toArray 92) (hhi:hi≤w.heap.size) :
 Calls Tryz.prog 113 #[.agg ca.toArray,.pointer (some ⟨p,0,none⟩)] w (za6 (SameR a r) w):=by
 have hpl:=hB.lt;have B0:=zaK w ca.toArray 92;have HB0:=hid B0.bel;have X1:Box (w.alloc (.cells ca.toArray 92)) w.heap.size ca.toArray 92:=B0.b1;have X2:Box (w.alloc (.cells ca.toArray 92)) p cr.toArray 92:=hB.below B0.bel hpl;have CS:=zf8 a r ca cr hi hi (w.alloc (.cells ca.toArray 92)) (zab.rd_below ha B0.bel hhi) (zab.rd_below hr B0.bel hhi) (Nat.le_trans hhi B0.bel.size) (Nat.le_trans hhi B0.bel.size);obtain ⟨a6,ak6,a7,ak7,a8,ak8,rfl,-⟩:=zaM ha;obtain ⟨b6,bk6,b7,bk7,b8,bk8,rfl,-⟩:=zaM hr;clear B0 hB
 go_enter Tryz.func113,Tryz.ntmps113
 go_wp2_with (first | (refine zaB 92 (.tmp 2) rfl rfl (w.heap.size) rfl X1 Tryz.underlying92 zdu rfl ?_) | (refine zaB 92 (.tmp 1) rfl rfl p rfl X2 Tryz.underlying92 zdu rfl ?_))
 refine CS.mono ?_;rintro e w1 ⟨t,rfl,ht,b1⟩;have HB1:=hid (HB0.out.trans (b1.mono HB0.out.size));have HT:=hid ht;clear CS b1 ht X1 X2;go_wp2;go_ret;exact ⟨t,rfl,HT.out,HB1.out⟩
set_option maxRecDepth 100000 in
theorem zfb (v:Value) (m:Nat) (y:Nat→RecD) (r:RecD) (cr:List Value) (hi p:Nat) (w:World) (h:(zab.slice 92).rd w hi (m,y) [v]) (hr:zab.rd w hi r cr) (hB:Box w p cr.toArray 92) (hhi:hi≤w.heap.size) (hm:m≤1048576) :
 Calls Tryz.prog 118 #[v,.func (.func 113) #[] #[.pointer (some ⟨p,0,none⟩)]] w fun e w'=>((e=.returned (.int .i64 (-1))∧∀ i,i<m→¬ SameR (y i) r)∨∃ i:Nat,i<m∧e=.returned (.int .i64 (i:Int))∧SameR (y i) r)∧Below w.heap.size w w':=by
 obtain ⟨ao,cap,e,hmm,hc⟩:=h
 obtain rfl:v=.slice ao m cap:=by simpa using e
 have hpl:=hB.lt;have HBx:=hid hB;have HR:=hid hr;have HCC:=hc;have HC:=hid hc;clear hB hr e hmm hc HCC
 go_enter Tryz.func118,Tryz.ntmps118
 go_wp2
 go_loopw [8] (fun z wr=>∃ k:Nat,k≤m∧z=.int .i64 k∧(∀ t,t<k→¬ SameR (y t) r)∧Below w.heap.size w wr) (fun z _=>m-(intOf z).toNat)
 case atStart=>exact ⟨0,Nat.zero_le _,rfl,fun t ht=>by omega,Below.refl _ _⟩
 case round=>
  obtain ⟨k,hk,rfl,hall,hbl⟩:=hrel;obtain ⟨wx,rfl⟩:∃ y,y=wr:=⟨_,rfl⟩;have HALL:=hid hall;have HBL:=hid hbl;have zx:=hbl.size;clear hall
  by_cases hlt:k<m
  ·obtain ⟨b,off,rfl,hbh,hel⟩:=HC.out (by omega)
   obtain ⟨ce,hy,hcell⟩:=zaz (t:=92) hel hbl hhi hbh hlt;have CS:=zh7 (y k) r ce cr hi p wx hy (zab.rd_below HR.out hbl hhi) (HBx.out.below hbl hpl) (by omega);obtain ⟨c6,ck6,c7,ck7,c8,ck8,rfl,-⟩:=zaM hy;have hcell:∀ j,j<9→wx.cell? ⟨b,off+(k*9+j),none⟩=[.int .i64 (y k).kind,.int .i64 (y k).seq,.string (y k).name,.int .i64 (y k).length,.int .i64 (y k).group,.int .i64 (y k).row,.slice c6 (y k).rows.1 ck6,.slice c7 (y k).data.1 ck7,.slice c8 (y k).delta.1 ck8][j]?:=hcell
   have s_0:wx.cell? ⟨b,off+k*9,none⟩=some (.int .i64 (y k).kind):=by have:=hcell 0 (by decide);rw [← Nat.add_assoc] at this;exact this
   have s_1:wx.cell? ⟨b,off+k*9+1,none⟩=some (.int .i64 (y k).seq):=by have:=hcell 1 (by decide);rw [← Nat.add_assoc] at this;exact this
   have s_2:wx.cell? ⟨b,off+k*9+2,none⟩=some (.string (y k).name):=by have:=hcell 2 (by decide);rw [← Nat.add_assoc] at this;exact this
   have s_3:wx.cell? ⟨b,off+k*9+3,none⟩=some (.int .i64 (y k).length):=by have:=hcell 3 (by decide);rw [← Nat.add_assoc] at this;exact this
   have s_4:wx.cell? ⟨b,off+k*9+4,none⟩=some (.int .i64 (y k).group):=by have:=hcell 4 (by decide);rw [← Nat.add_assoc] at this;exact this
   have s_5:wx.cell? ⟨b,off+k*9+5,none⟩=some (.int .i64 (y k).row):=by have:=hcell 5 (by decide);rw [← Nat.add_assoc] at this;exact this
   have s_6:wx.cell? ⟨b,off+k*9+6,none⟩=some (.slice c6 (y k).rows.1 ck6):=by have:=hcell 6 (by decide);rw [← Nat.add_assoc] at this;exact this
   have s_7:wx.cell? ⟨b,off+k*9+7,none⟩=some (.slice c7 (y k).data.1 ck7):=by have:=hcell 7 (by decide);rw [← Nat.add_assoc] at this;exact this
   have s_8:wx.cell? ⟨b,off+k*9+8,none⟩=some (.slice c8 (y k).delta.1 ck8):=by have:=hcell 8 (by decide);rw [← Nat.add_assoc] at this;exact this
   have i1:(0:Int)≤(k:Int):=by omega
   have i2:(k:Int)<(m:Int):=by omega
   clear hbl hcell hel
   go_wp2_with fail
   refine CS.mono ?_;rintro e w5 ⟨t,rfl,ht,b5⟩;have B5:=hid (HBL.out.trans (b5.mono zx));have HT:=hid ht;clear b5 CS ht hy
   cases t with
   | true=>
    go_wp2;go_ret;exact ⟨.inr ⟨k,hlt,rfl,HT.out.1 (by simp)⟩,B5.out⟩
   | false=>
    go_wp2
    go_roundw
    case rel=>exact ⟨k+1,by omega,by go_num,fun t ht=>by
     by_cases c:t=k
     ·rw [c];intro hs;exact absurd (HT.out.2 hs) (by simp)
     ·exact HALL.out t (by omega),B5.out⟩
    case measure=>simp [intOf];omega
  ·obtain rfl:k=m:=by omega
   clear hbl;go_wp2;go_ret;exact ⟨.inl ⟨rfl,HALL.out⟩,HBL.out⟩
set_option maxRecDepth 100000 in
theorem zdW (v:Value) (m:Nat) (y:Nat→RecD) (r:RecD) (cr:List Value) (hi p:Nat) (w:World) (h:(zab.slice 92).rd w hi (m,y) [v]) (hr:zab.rd w hi r cr) (hB:Box w p cr.toArray 92) (hhi:hi≤w.heap.size) (hm:m≤1048576) :
 Calls Tryz.prog 112 #[v,.func (.func 113) #[] #[.pointer (some ⟨p,0,none⟩)]] w (za6 (∃ i,i<m∧SameR (y i) r) w):=by
 have CS:=zfb v m y r cr hi p w h hr hB hhi hm;clear h hr hB
 go_enter Tryz.func112,Tryz.ntmps112
 go_wp2_with fail
 refine CS.mono ?_;rintro e w1 ⟨⟨rfl,hn⟩ | ⟨i,hi',rfl,hs⟩,b1⟩
 ·have HN:=hid hn
  have HB:=hid b1;clear hn b1 CS;go_wp2;go_ret;exact zaj rfl (fun ⟨i,h1,h2⟩=>HN.out i h1 h2) HB.out
 ·have HS:=hid hs
  have HB:=hid b1
  have hd:decide ((0:Int)≤(i:Int))=true:=by simp
  clear hs b1 CS;go_wp2;go_ret;exact zaA (by simp) ⟨i,hi',HS.out⟩ HB.out
set_option maxRecDepth 100000 in
theorem zc3 (v:Value) (m:Nat) (y:Nat→RecD) (r:RecD) (cr:List Value) (hi:Nat) (w:World) (h:(zab.slice 92).rd w hi (m,y) [v]) (hr:zab.rd w hi r cr) (hhi:hi≤w.heap.size) (hm:m≤1048576) :
 Calls Tryz.prog 73 #[v,.agg cr.toArray] w (za6 (∃ i,i<m∧SameR (y i) r) w):=by
 have B0:=zaK w cr.toArray 92;have HB0:=hid B0.bel;have CS:=zdW v m y r cr hi w.heap.size (w.alloc (.cells cr.toArray 92)) (Lay.rd_below _ h B0.bel hhi) (zab.rd_below hr B0.bel hhi) B0.b1 (Nat.le_trans hhi B0.bel.size) hm;obtain ⟨b6,bk6,b7,bk7,b8,bk8,rfl,-⟩:=zaM hr;clear B0 h
 go_enter Tryz.func73,Tryz.ntmps73
 go_wp2_with fail
 refine CS.mono ?_;rintro e w1 ⟨t,rfl,ht,b1⟩;have HB1:=hid (HB0.out.trans (b1.mono HB0.out.size));have HT:=hid ht;clear CS b1 ht;go_wp2;go_ret;exact ⟨t,rfl,HT.out,HB1.out⟩
theorem zcF:ElInfo zab 30 92 128 [.int .i64 0,.int .i64 0,.string ByteArray.empty,.int .i64 0,.int .i64 0,.int .i64 0,.slice none 0 0,.slice none 0 0,.slice none 0 0]:=⟨by decide,rfl,Tryz.underlying30,by kernel_rfl,by decide⟩
set_option maxRecDepth 20000 in
theorem zh8:ToV zab zaD 70:=fun cs d hi w r hhi hn=>by
 obtain ⟨ao6,cap6,ao7,cap7,ao8,cap8,rfl,h6,h7,h8,k0,k1,k2,k3,k4,k5⟩:=zaM r;clear r;unfold zaD at hn;have R6:=hid h6;have R7:=hid h7;have R8:=hid h8;clear h6 h7 h8;have Q0:=hid k0;have Q1:=hid k1;have Q2:=hid k2;have Q3:=hid k3;have Q4:=hid k4;have Q5:=hid k5;clear k0 k1 k2 k3 k4 k5;have T0:=zaG w (rwR d ao6 cap6 ao7 cap7 ao8 cap8).toArray #[.int .i64 0,.int .i64 0,.string ByteArray.empty,.int .i64 0,.int .i64 0,.int .i64 0,.slice none 0 0,.slice none 0 0,.slice none 0 0] 92 92
 go_enter Tryz.func70,Tryz.ntmps70
 go_wp2_with fail
 refine (zgP _ d.rows hi _ (zai.rd_below R6.out T0.bel hhi) (Nat.le_trans hhi T0.bel.size) (by omega)).mono ?_;rintro e w1 ⟨v0,rfl,o0,b0⟩;obtain ⟨bo6,bcap6,hv⟩:=zcY o0;obtain rfl:=za9 hv;clear hv;have T0c:=T0.call b0;have z0:=T0.b2.lt;have y0:=b0.size;have c0_6:w1.cell? ⟨w.heap.size,6,none⟩=some (.slice ao6 d.rows.1 cap6):=T0c.b1.cell 6;have c0f_6:w1.frozen? ⟨w.heap.size,6,none⟩=false:=T0c.b1.frozen 6;have T1x:Two w (w1.setCell ⟨w.heap.size,6,none⟩ (.slice bo6 d.rows.1 bcap6)) (rwR d bo6 bcap6 ao7 cap7 ao8 cap8).toArray #[.int .i64 0,.int .i64 0,.string ByteArray.empty,.int .i64 0,.int .i64 0,.int .i64 0,.slice none 0 0,.slice none 0 0,.slice none 0 0] 92 92:=⟨T0c.b1.stL [.slice bo6 d.rows.1 bcap6] 6,T0c.b2.seto _ _ (by omega),T0c.bel.setCell (Nat.le_refl _) _⟩;have O6_0:=(o0.stN w.heap.size 6 [.slice bo6 d.rows.1 bcap6] (by omega))
 have e1:(w1.setCell ⟨w.heap.size,6,none⟩ (.slice bo6 d.rows.1 bcap6)).heap.size=w1.heap.size:=by simp
 clear o0 b0
 go_upto_region 2 with fail
 obtain ⟨W1,hW1⟩:∃ x,x=w1.setCell ⟨w.heap.size,6,none⟩ (.slice bo6 d.rows.1 bcap6):=⟨_,rfl⟩
 have O6:Hid (OwnT zai W1 (w.heap.size+1+1) (w1.heap.size) d.rows [.slice bo6 d.rows.1 bcap6]):=by rw [hW1];exact OwnT.weaken O6_0 (by simp) (Nat.le_refl _)
 rw [← hW1] at T1x e1 ⊢;clear hW1 O6_0 T0c c0_6 c0f_6;have a1_7:W1.cell? ⟨w.heap.size,7,none⟩=some (.slice ao7 d.data.1 cap7):=T1x.b1.cell 7
 go_wp2_with fail
 refine (zdN _ d.data hi _ (zac.rd_below R7.out T1x.bel hhi) (Nat.le_trans hhi T1x.bel.size) (by omega)).mono ?_;rintro e w2 ⟨v1,rfl,o1,b1⟩;obtain ⟨bo7,bcap7,hv⟩:=zbA o1;obtain rfl:=za9 hv;clear hv;have T1c:=T1x.call b1;have z1:=T1x.b2.lt;have y1:=b1.size;have c1_7:w2.cell? ⟨w.heap.size,7,none⟩=some (.slice ao7 d.data.1 cap7):=T1c.b1.cell 7;have c1f_7:w2.frozen? ⟨w.heap.size,7,none⟩=false:=T1c.b1.frozen 7;have T2x:Two w (w2.setCell ⟨w.heap.size,7,none⟩ (.slice bo7 d.data.1 bcap7)) (rwR d bo6 bcap6 bo7 bcap7 ao8 cap8).toArray #[.int .i64 0,.int .i64 0,.string ByteArray.empty,.int .i64 0,.int .i64 0,.int .i64 0,.slice none 0 0,.slice none 0 0,.slice none 0 0] 92 92:=⟨T1c.b1.stL [.slice bo7 d.data.1 bcap7] 7,T1c.b2.seto _ _ (by omega),T1c.bel.setCell (Nat.le_refl _) _⟩;have O6_1:=(O6.out.call b1).stN w.heap.size 7 [.slice bo7 d.data.1 bcap7] (by omega);have O7_1:=(o1.stN w.heap.size 7 [.slice bo7 d.data.1 bcap7] (by omega))
 have e2:(w2.setCell ⟨w.heap.size,7,none⟩ (.slice bo7 d.data.1 bcap7)).heap.size=w2.heap.size:=by simp
 clear o1 b1 O6 T1x a1_7
 go_upto_region 3 with fail
 obtain ⟨W2,hW2⟩:∃ x,x=w2.setCell ⟨w.heap.size,7,none⟩ (.slice bo7 d.data.1 bcap7):=⟨_,rfl⟩
 have O6:Hid (OwnT zai W2 (w.heap.size+1+1) (w1.heap.size) d.rows [.slice bo6 d.rows.1 bcap6]):=by rw [hW2];exact O6_1
 have O7:Hid (OwnT zac W2 (W1.heap.size) (w2.heap.size) d.data [.slice bo7 d.data.1 bcap7]):=by rw [hW2];exact O7_1
 rw [← hW2] at T2x e2 ⊢;clear hW2 O6_1 O7_1 T1c c1_7 c1f_7;have a2_8:W2.cell? ⟨w.heap.size,8,none⟩=some (.slice ao8 d.delta.1 cap8):=T2x.b1.cell 8
 go_wp2_with fail
 refine (zdN _ d.delta hi _ (zac.rd_below R8.out T2x.bel hhi) (Nat.le_trans hhi T2x.bel.size) (by omega)).mono ?_;rintro e w3 ⟨v2,rfl,o2,b2⟩;obtain ⟨bo8,bcap8,hv⟩:=zbA o2;obtain rfl:=za9 hv;clear hv;have T2c:=T2x.call b2;have z2:=T2x.b2.lt;have y2:=b2.size;have c2_8:w3.cell? ⟨w.heap.size,8,none⟩=some (.slice ao8 d.delta.1 cap8):=T2c.b1.cell 8;have c2f_8:w3.frozen? ⟨w.heap.size,8,none⟩=false:=T2c.b1.frozen 8;have T3x:Two w (w3.setCell ⟨w.heap.size,8,none⟩ (.slice bo8 d.delta.1 bcap8)) (rwR d bo6 bcap6 bo7 bcap7 bo8 bcap8).toArray #[.int .i64 0,.int .i64 0,.string ByteArray.empty,.int .i64 0,.int .i64 0,.int .i64 0,.slice none 0 0,.slice none 0 0,.slice none 0 0] 92 92:=⟨T2c.b1.stL [.slice bo8 d.delta.1 bcap8] 8,T2c.b2.seto _ _ (by omega),T2c.bel.setCell (Nat.le_refl _) _⟩;have O6_2:=(O6.out.call b2).stN w.heap.size 8 [.slice bo8 d.delta.1 bcap8] (by omega);have O7_2:=(O7.out.call b2).stN w.heap.size 8 [.slice bo8 d.delta.1 bcap8] (by omega);have O8_2:=(o2.stN w.heap.size 8 [.slice bo8 d.delta.1 bcap8] (by omega))
 have e3:(w3.setCell ⟨w.heap.size,8,none⟩ (.slice bo8 d.delta.1 bcap8)).heap.size=w3.heap.size:=by simp
 clear o2 b2 O6 O7 T2x a2_8
 go_upto_region 4 with fail
 obtain ⟨W3,hW3⟩:∃ x,x=w3.setCell ⟨w.heap.size,8,none⟩ (.slice bo8 d.delta.1 bcap8):=⟨_,rfl⟩
 have O6:Hid (OwnT zai W3 (w.heap.size+1+1) (w1.heap.size) d.rows [.slice bo6 d.rows.1 bcap6]):=by rw [hW3];exact O6_2
 have O7:Hid (OwnT zac W3 (W1.heap.size) (w2.heap.size) d.data [.slice bo7 d.data.1 bcap7]):=by rw [hW3];exact O7_2
 have O8:Hid (OwnT zac W3 (W2.heap.size) (w3.heap.size) d.delta [.slice bo8 d.delta.1 bcap8]):=by rw [hW3];exact O8_2
 rw [← hW3] at T3x e3 ⊢;clear hW3 O6_2 O7_2 O8_2 T2c c2_8 c2f_8;have y_0:W3.cell? ⟨w.heap.size,0,none⟩=some (.int .i64 d.kind):=T3x.b1.cell 0;have y_1:W3.cell? ⟨w.heap.size,1,none⟩=some (.int .i64 d.seq):=T3x.b1.cell 1;have y_2:W3.cell? ⟨w.heap.size,2,none⟩=some (.string d.name):=T3x.b1.cell 2;have y_3:W3.cell? ⟨w.heap.size,3,none⟩=some (.int .i64 d.length):=T3x.b1.cell 3;have y_4:W3.cell? ⟨w.heap.size,4,none⟩=some (.int .i64 d.group):=T3x.b1.cell 4;have y_5:W3.cell? ⟨w.heap.size,5,none⟩=some (.int .i64 d.row):=T3x.b1.cell 5;have y_6:W3.cell? ⟨w.heap.size,6,none⟩=some (.slice bo6 d.rows.1 bcap6):=T3x.b1.cell 6;have y_7:W3.cell? ⟨w.heap.size,7,none⟩=some (.slice bo7 d.data.1 bcap7):=T3x.b1.cell 7;have y_8:W3.cell? ⟨w.heap.size,8,none⟩=some (.slice bo8 d.delta.1 bcap8):=T3x.b1.cell 8;have r_0:W3.cell? ⟨w.heap.size+1,0,none⟩=some (.int .i64 0):=T3x.b2.cell 0;have rf_0:W3.frozen? ⟨w.heap.size+1,0,none⟩=false:=T3x.b2.frozen 0;have r_1:W3.cell? ⟨w.heap.size+1,1,none⟩=some (.int .i64 0):=T3x.b2.cell 1;have rf_1:W3.frozen? ⟨w.heap.size+1,1,none⟩=false:=T3x.b2.frozen 1;have r_2:W3.cell? ⟨w.heap.size+1,2,none⟩=some (.string ByteArray.empty):=T3x.b2.cell 2;have rf_2:W3.frozen? ⟨w.heap.size+1,2,none⟩=false:=T3x.b2.frozen 2;have r_3:W3.cell? ⟨w.heap.size+1,3,none⟩=some (.int .i64 0):=T3x.b2.cell 3;have rf_3:W3.frozen? ⟨w.heap.size+1,3,none⟩=false:=T3x.b2.frozen 3;have r_4:W3.cell? ⟨w.heap.size+1,4,none⟩=some (.int .i64 0):=T3x.b2.cell 4;have rf_4:W3.frozen? ⟨w.heap.size+1,4,none⟩=false:=T3x.b2.frozen 4;have r_5:W3.cell? ⟨w.heap.size+1,5,none⟩=some (.int .i64 0):=T3x.b2.cell 5;have rf_5:W3.frozen? ⟨w.heap.size+1,5,none⟩=false:=T3x.b2.frozen 5;have r_6:W3.cell? ⟨w.heap.size+1,6,none⟩=some (.slice none 0 0):=T3x.b2.cell 6;have rf_6:W3.frozen? ⟨w.heap.size+1,6,none⟩=false:=T3x.b2.frozen 6;have r_7:W3.cell? ⟨w.heap.size+1,7,none⟩=some (.slice none 0 0):=T3x.b2.cell 7;have rf_7:W3.frozen? ⟨w.heap.size+1,7,none⟩=false:=T3x.b2.frozen 7;have r_8:W3.cell? ⟨w.heap.size+1,8,none⟩=some (.slice none 0 0):=T3x.b2.cell 8;have rf_8:W3.frozen? ⟨w.heap.size+1,8,none⟩=false:=T3x.b2.frozen 8;have HB:=hid T3x.bel;have zz:=T3x.b2.lt;clear T3x;go_wp2;refine bodyPost_ret (v:=.agg (rwR d bo6 bcap6 bo7 bcap7 bo8 bcap8).toArray) (by simp [results,Tryz.results70,go_sem,r_0,y_0,r_1,y_1,r_2,y_2,r_3,y_3,r_4,y_4,r_5,y_5,r_6,y_6,r_7,y_7,r_8,y_8]) rfl ?_;have F:OwnT zab W3 (w.heap.size+1+1) w3.heap.size d ([.int .i64 d.kind]++([.int .i64 d.seq]++([.string d.name]++([.int .i64 d.length]++([.int .i64 d.group]++([.int .i64 d.row]++([.slice bo6 d.rows.1 bcap6]++([.slice bo7 d.data.1 bcap7]++[.slice bo8 d.delta.1 bcap8])))))))):=OwnT.conv (OwnT.pre (A:=layI) (a:=d.kind) (c:=[.int .i64 d.kind]) ⟨rfl,Q0.out,rfl⟩ (OwnT.pre (A:=layI) (a:=d.seq) (c:=[.int .i64 d.seq]) ⟨rfl,Q1.out,rfl⟩ (OwnT.pre (A:=layS) (a:=d.name) (c:=[.string d.name]) ⟨rfl,Q2.out,rfl⟩ (OwnT.pre (A:=layI) (a:=d.length) (c:=[.int .i64 d.length]) ⟨rfl,Q3.out,rfl⟩ (OwnT.pre (A:=layI) (a:=d.group) (c:=[.int .i64 d.group]) ⟨rfl,Q4.out,rfl⟩ (OwnT.pre (A:=layI) (a:=d.row) (c:=[.int .i64 d.row]) ⟨rfl,Q5.out,rfl⟩ (OwnT.two O6.out (OwnT.two O7.out O8.out (by omega) (by omega) (by omega)) (by omega) (by omega) (by omega))))))))
 refine ⟨(rwR d bo6 bcap6 bo7 bcap7 bo8 bcap8),rfl,?_,?_⟩
 ·exact OwnT.finb (F.weaken (Nat.le_refl _) (by omega)) (b:=w.heap.size+1) (by omega) (by omega) 0 (rwR d bo6 bcap6 bo7 bcap7 bo8 bcap8) _ rfl
 ·exact HB.out.trans (zbo (by omega) (rwR d bo6 bcap6 bo7 bcap7 bo8 bcap8) 0)
set_option maxRecDepth 20000 in
theorem zgS:ToF (zab.slice 92) (szSl zaD) 69 70:=fun v d hi w h hhi hn=>by
 obtain ⟨n,x⟩:=d;obtain ⟨ao,cap,hv,hm,hc⟩:=h
 cases hv
 have hn1:=zd8 hn;have hn2:∀ i,i<n→zaD (x i)≤1048576:=fun i hi=>zcr hn hi
 simp only at hn1 hm hc
 clear hn
 go_enter Tryz.func69,Tryz.ntmps69
 go_wp2_with (at_make;refine zcW zab [.int .i64 0,.int .i64 0,.string ByteArray.empty,.int .i64 0,.int .i64 0,.int .i64 0,.slice none 0 0,.slice none 0 0,.slice none 0 0] _ 92 128 (zcF).hs rfl Tryz.underlying30 (zcF).hi x (fun _=>[]) _ rfl _ _ rfl _ _ n rfl rfl rfl rfl (by omega) (by omega) ?_;intro w1 sp1 hb1)
 go_loopw [12] (fun i wr=>∃ k:Nat,k≤n∧i=.int .i64 k∧∃ ce Ls,SlP zab 92 wr w.heap.size w.heap.size n n k x ce Ls∧Below w.heap.size w wr) (fun i _=>n-(intOf i).toNat)
 case atStart=>exact ⟨0,Nat.zero_le _,rfl,_,_,sp1,hb1⟩
 case round=>
  clear sp1 hb1;obtain ⟨k,hk,rfl,ce,Ls,sp,hb⟩:=hrel
  by_cases hlt:k<n
  ·obtain ⟨b,off,rfl,hblt,hel⟩:=hc (by omega)
   obtain ⟨ck,hrk,hcell⟩:=zaz (t:=0) hel hb hhi hblt hlt;obtain ⟨ao6,cap6,ao7,cap7,ao8,cap8,rfl,-⟩:=zaM hrk;have c0:wr.cell? ⟨b,off+k*9,none⟩=some (.int .i64 (x k).kind):=hcell 0 (by decide);have c1:wr.cell? ⟨b,off+k*9+1,none⟩=some (.int .i64 (x k).seq):=hcell 1 (by decide);have c2:wr.cell? ⟨b,off+k*9+2,none⟩=some (.string (x k).name):=hcell 2 (by decide);have c3:wr.cell? ⟨b,off+k*9+3,none⟩=some (.int .i64 (x k).length):=hcell 3 (by decide);have c4:wr.cell? ⟨b,off+k*9+4,none⟩=some (.int .i64 (x k).group):=hcell 4 (by decide);have c5:wr.cell? ⟨b,off+k*9+5,none⟩=some (.int .i64 (x k).row):=hcell 5 (by decide);have c6:wr.cell? ⟨b,off+k*9+6,none⟩=some (.slice ao6 (x k).rows.1 cap6):=hcell 6 (by decide);have c7:wr.cell? ⟨b,off+k*9+7,none⟩=some (.slice ao7 (x k).data.1 cap7):=hcell 7 (by decide);have c8:wr.cell? ⟨b,off+k*9+8,none⟩=some (.slice ao8 (x k).delta.1 cap8):=hcell 8 (by decide);clear hc hel hcell
   go_wp2_with fail
   refine (zh8 _ (x k) hi wr hrk (Nat.le_trans hhi hb.size) (hn2 k hlt)).mono ?_;rintro e w2 ⟨cs',rfl,o2,hb2⟩;obtain ⟨bao6,bcap6,bao7,bcap7,bao8,bcap8,rfl⟩:=zec o2;obtain ⟨z0,s0⟩:=sp.some hb2 hlt (show 0<zab.sz by decide);have s0:w2.cell? ⟨w.heap.size,k*9,none⟩=some z0:=s0;have sf0:=(sp.below hb2).frozen (k*9);obtain ⟨z1,s1⟩:=sp.some hb2 hlt (show 1<zab.sz by decide);have s1:w2.cell? ⟨w.heap.size,k*9+1,none⟩=some z1:=s1;have sf1:=(sp.below hb2).frozen (k*9+1);obtain ⟨z2,s2⟩:=sp.some hb2 hlt (show 2<zab.sz by decide);have s2:w2.cell? ⟨w.heap.size,k*9+2,none⟩=some z2:=s2;have sf2:=(sp.below hb2).frozen (k*9+2);obtain ⟨z3,s3⟩:=sp.some hb2 hlt (show 3<zab.sz by decide);have s3:w2.cell? ⟨w.heap.size,k*9+3,none⟩=some z3:=s3;have sf3:=(sp.below hb2).frozen (k*9+3);obtain ⟨z4,s4⟩:=sp.some hb2 hlt (show 4<zab.sz by decide);have s4:w2.cell? ⟨w.heap.size,k*9+4,none⟩=some z4:=s4;have sf4:=(sp.below hb2).frozen (k*9+4);obtain ⟨z5,s5⟩:=sp.some hb2 hlt (show 5<zab.sz by decide);have s5:w2.cell? ⟨w.heap.size,k*9+5,none⟩=some z5:=s5;have sf5:=(sp.below hb2).frozen (k*9+5);obtain ⟨z6,s6⟩:=sp.some hb2 hlt (show 6<zab.sz by decide);have s6:w2.cell? ⟨w.heap.size,k*9+6,none⟩=some z6:=s6;have sf6:=(sp.below hb2).frozen (k*9+6);obtain ⟨z7,s7⟩:=sp.some hb2 hlt (show 7<zab.sz by decide);have s7:w2.cell? ⟨w.heap.size,k*9+7,none⟩=some z7:=s7;have sf7:=(sp.below hb2).frozen (k*9+7);obtain ⟨z8,s8⟩:=sp.some hb2 hlt (show 8<zab.sz by decide);have s8:w2.cell? ⟨w.heap.size,k*9+8,none⟩=some z8:=s8;have sf8:=(sp.below hb2).frozen (k*9+8);have N:=sp.next hb2 hlt o2 hb.size;have N2:Below w.heap.size w (stN w2 w.heap.size (k*zab.sz) [.int .i64 (x k).kind,.int .i64 (x k).seq,.string (x k).name,.int .i64 (x k).length,.int .i64 (x k).group,.int .i64 (x k).row,.slice bao6 (x k).rows.1 bcap6,.slice bao7 (x k).data.1 bcap7,.slice bao8 (x k).delta.1 bcap8]):=(hb.trans (hb2.mono hb.size)).trans (zbo (Nat.le_refl _) _ _);clear o2 hb2 sp hb
   go_wp2_with fail
   go_roundw
   case rel=>
    obtain ⟨ce',Ls',N⟩:=N;exact ⟨k+1,by omega,by go_num,ce',Ls',N,N2⟩
   case measure=>simp [intOf];omega
  ·obtain rfl:k=n:=by omega
   go_wp2;go_ret;exact ⟨_,rfl,sp.done (Nat.le_refl _),hb⟩
end Go.Proofs.YthcmdnlkohdeaaaGreat
